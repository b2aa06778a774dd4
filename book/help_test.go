package book_test

import (
	"bytes"
	"math/big"
	"reflect"
	"testing"

	"quarry/api"
	"quarry/book"
	"quarry/rlp"
)

// The calls' signatures, as the chapter writes them.
var (
	_ func([]byte) (api.Tx, api.Errno)                = book.ReadTx
	_ func(api.Tx) ([]byte, api.Errno)                = book.WriteTx
	_ func(api.Tx) (api.Hash, api.Errno)              = book.Signed
	_ func(api.Tx) (api.Address, api.Errno)           = book.Sender
	_ func([]api.Log) [256]byte                       = book.Bloom
	_ func(api.Receipt) ([]byte, api.Errno)           = book.WriteReceipt
	_ func(api.Header) ([]byte, api.Errno)            = book.WriteHeader
	_ func([]byte) (api.Header, api.Errno)            = book.ReadHeader
	_ func(api.Withdrawal) []byte                     = book.WriteWithdrawal
	_ func(api.Block) ([]byte, api.Errno)             = book.WriteBlock
	_ func([]byte) (api.Block, api.Errno)             = book.ReadBlock
	_ func(api.Address, uint64) api.Address           = book.Made
	_ func(api.Address, api.Word, []byte) api.Address = book.Salted
)

// text is a byte string, list a list.
func text(b ...byte) api.Item { return api.Item{Bytes: b} }

func list(l ...api.Item) api.Item { return api.Item{List: true, Items: l} }

// whole is n as a byte string, in hex digits.
func whole(n string) api.Item { return text(power(n).Bytes()...) }

// power is the number of some hex digits.
func power(n string) *big.Int {
	x, ok := new(big.Int).SetString(n, 16)
	if !ok {
		panic("no number: " + n)
	}
	return x
}

// bigOf is a word as a number.
func bigOf(a api.Word) *big.Int {
	n := new(big.Int)
	for i := 3; i >= 0; i-- {
		n.Lsh(n, 64).Or(n, new(big.Int).SetUint64(a[i]))
	}
	return n
}

// wordOf is a number as a word.
func wordOf(n *big.Int) (a api.Word) {
	low := new(big.Int).Sub(new(big.Int).Lsh(big.NewInt(1), 64), big.NewInt(1))
	for i := range a {
		a[i] = new(big.Int).And(new(big.Int).Rsh(n, uint(64*i)), low).Uint64()
	}
	return a
}

// form is the form of x, which there must be.
func form(t *testing.T, x api.Item) []byte {
	t.Helper()
	raw, e := rlp.Encode(x)
	if e != api.OK {
		t.Fatalf("Encode refuses with %d", e)
	}
	return raw
}

// hexed is the bytes of some hex digits, blanks left out.
func hexed(t *testing.T, digits string) []byte {
	t.Helper()
	var b []byte
	half := -1
	for _, r := range digits {
		v := bytes.IndexRune([]byte("0123456789abcdef"), r)
		switch {
		case r == ' ' || r == '\n' || r == '\t':
			continue
		case v < 0:
			t.Fatalf("no hex digit: %q", r)
		case half < 0:
			half = v
		default:
			b, half = append(b, byte(16*half+v)), -1
		}
	}
	return b
}

// same says whether two values are one, nil and empty lists being the same.
func same(a, b any) bool { return alike(reflect.ValueOf(a), reflect.ValueOf(b)) }

func alike(a, b reflect.Value) bool {
	switch a.Kind() {
	case reflect.Slice:
		if a.Len() != b.Len() {
			return false
		}
		for i := range a.Len() {
			if !alike(a.Index(i), b.Index(i)) {
				return false
			}
		}
		return true
	case reflect.Struct:
		for i := range a.NumField() {
			if !alike(a.Field(i), b.Field(i)) {
				return false
			}
		}
		return true
	default:
		return a.Interface() == b.Interface()
	}
}

// nested is x in n lists.
func nested(n int, x api.Item) api.Item {
	for range n {
		x = list(x)
	}
	return x
}

// tooDeep is a form with one list more in one another than Decode takes.
func tooDeep(t *testing.T) []byte {
	t.Helper()
	inside := form(t, nested(1024, text()))
	return append([]byte{0xf9, byte(len(inside) >> 8), byte(len(inside))}, inside...)
}

// mixer tells numbers without any order, the same ones in each run.
type mixer uint64

func (m *mixer) next() uint64 {
	*m += 0x9e3779b97f4a7c15
	z := uint64(*m)
	z = (z ^ z>>30) * 0xbf58476d1ce4e5b9
	z = (z ^ z>>27) * 0x94d049bb133111eb
	return z ^ z>>31
}

// below is a number below n.
func (m *mixer) below(n int) int { return int(m.next() % uint64(n)) }

// odds is true once in n times.
func (m *mixer) odds(n int) bool { return m.below(n) == 0 }

// bytes is so many bytes.
func (m *mixer) bytes(n int) []byte {
	b := make([]byte, n)
	for i := range b {
		b[i] = byte(m.next())
	}
	return b
}

// blob is some bytes, most often few.
func (m *mixer) blob() []byte {
	switch m.below(6) {
	case 0:
		return nil
	case 1:
		return []byte{byte(m.next())}
	case 2:
		return m.bytes(50 + m.below(12))
	case 3:
		return m.bytes(m.below(700))
	default:
		return m.bytes(m.below(40))
	}
}

// count is a number of 64 bits, most often one that is short or at an end.
func (m *mixer) count() uint64 {
	switch m.below(5) {
	case 0:
		return uint64(m.below(3))
	case 1:
		return 1<<m.below(64) - uint64(m.below(2))
	case 2:
		return api.None - uint64(m.below(3))
	default:
		return m.next() >> m.below(64)
	}
}

// word is a word, most often one that is short or at an end.
func (m *mixer) word() api.Word {
	switch m.below(6) {
	case 0:
		return api.Word{uint64(m.below(3))}
	case 1:
		return api.Word{api.None, api.None, api.None, api.None - uint64(m.below(2))}
	case 2:
		return api.Word{0, m.count()}
	case 3:
		return api.Word{m.count(), 0, m.count()}
	case 4:
		return api.Word{m.next(), m.next(), m.next(), m.count()}
	default:
		return api.Word{m.count()}
	}
}

func (m *mixer) address() (a api.Address) {
	if !m.odds(8) {
		copy(a[m.below(4):], m.bytes(20))
	}
	return a
}

func (m *mixer) hash() (h api.Hash) {
	if !m.odds(8) {
		copy(h[m.below(4):], m.bytes(32))
	}
	return h
}

// hashes is up to four hashes.
func (m *mixer) hashes() (all []api.Hash) {
	for range m.below(5) {
		all = append(all, m.hash())
	}
	return all
}

// tx is a transaction of that kind.
func (m *mixer) tx(kind int) api.Tx {
	t := api.Tx{Kind: kind, ChainID: m.count(), Nonce: m.count(), Price: m.word(), Gas: m.count(), To: m.address(), Value: m.word(), Data: m.blob(), Odd: m.odds(2), R: m.word(), S: m.word()}
	if kind == 0 && m.odds(2) {
		t.ChainID = 0
	}
	if kind < 3 && m.odds(3) {
		t.Make, t.To = true, api.Address{}
	}
	if kind > 0 {
		for range m.below(4) {
			t.Access = append(t.Access, api.Access{Address: m.address(), Keys: m.hashes()})
		}
	}
	if kind > 1 {
		t.Tip = m.word()
	}
	if kind > 2 {
		t.BlobFee, t.Blobs = m.word(), m.hashes()
	}
	return t
}

// header is a header of so many parts; the others are zero.
func (m *mixer) header(fields int) api.Header {
	h := api.Header{Fields: fields, Parent: m.hash(), Ommers: m.hash(), Coinbase: m.address(), State: m.hash(), Txs: m.hash(), Receipts: m.hash(), Difficulty: m.word(), Number: m.count(), GasLimit: m.count(), GasUsed: m.count(), Time: m.count(), Extra: m.blob(), Mix: m.hash()}
	copy(h.Bloom[m.below(3):], m.bytes(256))
	copy(h.Nonce[m.below(3):], m.bytes(8))
	if fields > 15 {
		h.BaseFee = m.word()
	}
	if fields > 16 {
		h.Withdrawals = m.hash()
	}
	if fields > 17 {
		h.BlobGas, h.Excess, h.Beacon = m.count(), m.count(), m.hash()
	}
	return h
}

// fields is how many parts a header may have.
func (m *mixer) fields() int { return []int{15, 16, 17, 20}[m.below(4)] }

func (m *mixer) withdrawal() api.Withdrawal {
	return api.Withdrawal{Index: m.count(), Validator: m.count(), Address: m.address(), Amount: m.count()}
}

// block is a block of a few transactions, ommers and withdrawals.
func (m *mixer) block(t *testing.T) api.Block {
	b := api.Block{Header: m.header(m.fields()), Paid: m.odds(2)}
	for range m.below(5) {
		b.Txs = append(b.Txs, txForm(t, m.tx(m.below(4))))
	}
	for range m.below(3) {
		b.Ommers = append(b.Ommers, m.header(m.fields()))
	}
	for range m.below(4) {
		if b.Paid {
			b.Withdrawals = append(b.Withdrawals, m.withdrawal())
		}
	}
	return b
}

// logs is up to four logs, which may have any number of topics.
func (m *mixer) logs() (all []api.Log) {
	for range m.below(5) {
		all = append(all, api.Log{Address: m.address(), Topics: m.hashes(), Data: m.blob()})
	}
	return all
}
