package book_test

import (
	"bytes"
	"math/big"
	"testing"

	"quarry/api"
	"quarry/book"
)

// reads holds ReadTx of raw, behind whose envelope the list x stands, against what is wrong first with that.
func reads(t *testing.T, kind int, x api.Item) {
	t.Helper()
	raw := enveloped(t, kind, x)
	tx, e := book.ReadTx(raw)
	if want := txShape(kind)(x); e != want {
		t.Fatalf("ReadTx of %x: %d; must be %d", raw, e, want)
	}
	if e != api.OK {
		if !same(tx, api.Tx{}) {
			t.Fatalf("ReadTx of %x tells %v beside %d", raw, tx, e)
		}
		return
	}
	if again := txForm(t, tx); tx.Kind != kind || !bytes.Equal(again, raw) {
		t.Fatalf("ReadTx of %x: %v, which is %x", raw, tx, again)
	}
	if again, e := book.WriteTx(tx); e != api.OK || !bytes.Equal(again, raw) {
		t.Fatalf("WriteTx of what %x is: %x, %d", raw, again, e)
	}
}

// TestTxBoth: P14.2, P14.6: transactions of each kind are written as the chapter's lists, and read again.
func TestTxBoth(t *testing.T) {
	var m mixer = 2
	for i := range 4000 {
		tx := m.tx(i % 4)
		raw, e := book.WriteTx(tx)
		if want := txForm(t, tx); e != api.OK || !bytes.Equal(raw, want) {
			t.Fatalf("WriteTx of %v: %x, %d; must be %x", tx, raw, e, want)
		}
		if again, e := book.ReadTx(raw); e != api.OK || !same(again, tx) {
			t.Fatalf("ReadTx of %x: %v, %d; must be %v", raw, again, e, tx)
		}
	}
}

// TestTxEach: P14.1: each odd part in each place, and several at once: what is wrong first is answered.
func TestTxEach(t *testing.T) {
	var m mixer = 3
	for kind := range 4 {
		tx := m.tx(kind)
		tx.Make, tx.To, tx.Price = false, api.Address{7}, api.Word{9}
		if kind > 0 {
			tx.Access = []api.Access{{Address: api.Address{1}, Keys: []api.Hash{{2}, {3}}}, {Address: api.Address{1}}}
		}
		if kind == 3 {
			tx.Blobs = []api.Hash{{1}, {}}
		}
		spoilt(plainTx(tx), func(x api.Item) { reads(t, kind, x) })
	}
}

// TestTxKinds: P14.1: the list of each kind in the envelope of each other one.
func TestTxKinds(t *testing.T) {
	var m mixer = 4
	for kind := range 4 {
		for range 50 {
			x := plainTx(m.tx(kind))
			for other := range 4 {
				reads(t, other, x)
			}
			for first := range 256 {
				raw := append([]byte{byte(first)}, form(t, x)...)
				tx, e := book.ReadTx(raw)
				if kind > 0 && first == kind {
					if e != api.OK {
						t.Errorf("ReadTx of %x: %d", raw, e)
					}
				} else if e == api.OK || !same(tx, api.Tx{}) {
					t.Errorf("ReadTx of %x: %v, %d", raw, tx, e)
				}
			}
		}
	}
}

// TestTxFirst: P14.1: each first byte, ahead of nothing, of a right list, of one that is too deep, and of no form at all.
func TestTxFirst(t *testing.T) {
	var m mixer = 5
	deep := tooDeep(t)
	for first := range 192 {
		for _, behind := range [][]byte{nil, {0xc0}, {0x80}, {0xc1}, deep, form(t, plainTx(m.tx(0))), m.bytes(30)} {
			want := api.ErrForm
			if first >= 1 && first <= 3 && bytes.Equal(behind, deep) {
				want = api.ErrDepth
			}
			raw := append([]byte{byte(first)}, behind...)
			if tx, e := book.ReadTx(raw); e != want || !same(tx, api.Tx{}) {
				t.Errorf("ReadTx of %.50x: %v, %d; must be %d", raw, tx, e, want)
			}
		}
	}
	if tx, e := book.ReadTx(deep); e != api.ErrDepth || !same(tx, api.Tx{}) {
		t.Errorf("ReadTx of what is deep: %d", e)
	}
}

// TestTxCut: P14.1: what Decode refuses: transactions that are cut anywhere, with bytes behind them, and with each bit turned, which may be another one.
func TestTxCut(t *testing.T) {
	var m mixer = 6
	for i := range 40 {
		kind := i % 4
		raw := txForm(t, m.tx(kind))
		for n := range raw {
			if tx, e := book.ReadTx(raw[:n]); e != api.ErrForm || !same(tx, api.Tx{}) {
				t.Fatalf("ReadTx of %x: %v, %d", raw[:n], tx, e)
			}
		}
		if tx, e := book.ReadTx(append(bytes.Clone(raw), byte(i))); e != api.ErrForm || !same(tx, api.Tx{}) {
			t.Fatalf("ReadTx of %x with a byte behind: %v, %d", raw, tx, e)
		}
		for bit := range 8 * len(raw) {
			turned := bytes.Clone(raw)
			turned[bit/8] ^= 1 << (bit % 8)
			tx, e := book.ReadTx(turned)
			if e == api.OK {
				again, e := book.WriteTx(tx)
				if e != api.OK || !bytes.Equal(again, turned) {
					t.Fatalf("WriteTx of what %x is: %x, %d", turned, again, e)
				}
			} else if !same(tx, api.Tx{}) {
				t.Fatalf("ReadTx of %x: %v beside %d", turned, tx, e)
			}
		}
	}
}

// TestTxV: P14.1: V about all its ends, of each kind, and each that a chain makes.
func TestTxV(t *testing.T) {
	var m mixer = 7
	var all []*big.Int
	for _, bits := range []uint{0, 5, 8, 16, 63, 64, 65, 66, 127, 128, 192, 255, 256, 257, 300} {
		middle := new(big.Int).Lsh(big.NewInt(1), bits)
		for more := int64(-80); more <= 80; more++ {
			if v := new(big.Int).Add(middle, big.NewInt(more)); v.Sign() >= 0 {
				all = append(all, v)
			}
		}
	}
	for kind := range 4 {
		x := plainTx(m.tx(kind))
		place := len(x.Items) - 3
		for _, v := range all {
			reads(t, kind, with(x, []int{place}, text(v.Bytes()...)))
		}
	}
	for _, id := range []uint64{0, 1, 2, 1337, 1<<63 - 1, 1 << 63, api.None - 1, api.None} {
		for _, odd := range []bool{false, true} {
			tx := m.tx(0)
			tx.ChainID, tx.Odd = id, odd
			raw, e := book.WriteTx(tx)
			if want := txForm(t, tx); e != api.OK || !bytes.Equal(raw, want) {
				t.Errorf("WriteTx of chain %d: %x, %d; must be %x", id, raw, e, want)
			}
			if again, e := book.ReadTx(raw); e != api.OK || again.ChainID != id || again.Odd != odd {
				t.Errorf("ReadTx of chain %d, %v: %d, %v, %d", id, odd, again.ChainID, again.Odd, e)
			}
		}
	}
}

// wrongTxs are transactions that have what their kind has not, each by one thing.
func wrongTxs() []api.Tx {
	var m mixer = 8
	var all []api.Tx
	add := func(kind int, change func(*api.Tx)) {
		tx := m.tx(kind)
		tx.Make, tx.To = false, api.Address{}
		change(&tx)
		all = append(all, tx)
	}
	for _, kind := range []int{-1, 4, 5, 127, 128, 256, 257, -1 << 63, 1<<63 - 1} {
		add(0, func(tx *api.Tx) { tx.Kind = kind })
	}
	for i := range 20 {
		for kind := range 3 {
			add(kind, func(tx *api.Tx) { tx.Make, tx.To[i] = true, 1 })
			add(kind, func(tx *api.Tx) { tx.BlobFee[i%4] = 1 })
			add(kind, func(tx *api.Tx) { tx.Blobs = make([]api.Hash, 1+i%3) })
		}
		for kind := range 2 {
			add(kind, func(tx *api.Tx) { tx.Tip[i%4] = 1 })
		}
		add(0, func(tx *api.Tx) { tx.Access = make([]api.Access, 1+i%3) })
		add(3, func(tx *api.Tx) { tx.Make, tx.To[i] = true, 1 })
	}
	add(3, func(tx *api.Tx) { tx.Make = true })
	return all
}

// TestTxWrong: P14.2: WriteTx, Signed and Sender refuse what a kind has not, ahead of all else.
func TestTxWrong(t *testing.T) {
	for _, tx := range wrongTxs() {
		for _, r := range []api.Word{{}, {5}, {1}} {
			tx.R = r
			if raw, e := book.WriteTx(tx); e != api.ErrArg || len(raw) > 0 {
				t.Errorf("WriteTx of %v: %x, %d", tx, raw, e)
			}
			if h, e := book.Signed(tx); e != api.ErrArg || h != (api.Hash{}) {
				t.Errorf("Signed of %v: %x, %d", tx, h, e)
			}
			if a, e := book.Sender(tx); e != api.ErrArg || a != (api.Address{}) {
				t.Errorf("Sender of %v: %x, %d", tx, a, e)
			}
		}
	}
}

// TestTxEmpty: P14.2: lists without parts are none, nil or not; zero is an address too, if no contract is made.
func TestTxEmpty(t *testing.T) {
	for kind := range 4 {
		for _, makes := range []bool{false, true} {
			tx := api.Tx{Kind: kind, Make: makes && kind < 3, Data: []byte{}, Access: []api.Access{}, Blobs: []api.Hash{}}
			raw, e := book.WriteTx(tx)
			if want := txForm(t, tx); e != api.OK || !bytes.Equal(raw, want) {
				t.Errorf("WriteTx of %v: %x, %d; must be %x", tx, raw, e, want)
			}
			if again, e := book.ReadTx(raw); e != api.OK || !same(again, tx) {
				t.Errorf("ReadTx of %x: %v, %d", raw, again, e)
			}
		}
	}
}
