package book_test

import (
	"bytes"
	"testing"

	"quarry/api"
	"quarry/book"
	"quarry/hash"
	"quarry/sign"
)

// address is the address of some hex digits.
func address(t *testing.T, digits string) api.Address {
	t.Helper()
	return api.Address(hexed(t, digits))
}

// TestRunForms: P14.1: the chapter's first two runs.
func TestRunForms(t *testing.T) {
	for _, digits := range []string{"", "00", "04c0", "c0", "01c0", "80"} {
		if tx, e := book.ReadTx(hexed(t, digits)); e != api.ErrForm || !same(tx, api.Tx{}) {
			t.Errorf("ReadTx of %s: %v, %d", digits, tx, e)
		}
	}
	for v, want := range map[byte]api.Errno{29: api.ErrRange, 35: api.ErrRange, 37: api.OK} {
		x := list(text(), text(), text(), text(), text(), text(), text(v), text(), text())
		tx, e := book.ReadTx(form(t, x))
		if e != want || e == api.OK && (tx.ChainID != 1 || tx.Odd || !tx.Make) {
			t.Errorf("ReadTx with V %d: %v, %d", v, tx, e)
		}
	}
}

// TestRunSigned: P14.2: EIP-155's example: what is signed, what a key makes of it, and who that is.
func TestRunSigned(t *testing.T) {
	to := api.Address(bytes.Repeat([]byte{0x35}, 20))
	tx := api.Tx{Nonce: 9, Price: api.Word{20000000000}, Gas: 21000, To: to, Value: api.Word{1000000000000000000}, ChainID: 1}
	h, e := book.Signed(tx)
	if want := hexed(t, "daf5a779ae972f972197303d7b574746c7ef83eadac0f2791ad23db92e4c8e53"); e != api.OK || !bytes.Equal(h[:], want) {
		t.Errorf("Signed: %x, %d", h, e)
	}
	raw := hexed(t, "f86c098504a817c800825208943535353535353535353535353535353535353535880de0b6b3a76400008025a028ef61340bd939bc2195fe537567866003e1a15d3c71ff63e1590620aa636276a067cbe9d8997f761aecb703304b3800ccf555c9f3dc64214b297fb1966a3b6d83")
	tx, e = book.ReadTx(raw)
	if e != api.OK || tx.ChainID != 1 || tx.Odd {
		t.Fatalf("ReadTx of EIP-155's example: %v, %d", tx, e)
	}
	if a, e := book.Sender(tx); a != address(t, "9d8a62f656a8d1615c1294fd71e9cfb3e4855a4f") || e != api.OK {
		t.Errorf("Sender of EIP-155's example: %x, %d", a, e)
	}
	key := api.Word{0x4646464646464646, 0x4646464646464646, 0x4646464646464646, 0x4646464646464646}
	odd, r, s, e := sign.Sign(h, key, api.Word{12345})
	if e != api.OK {
		t.Fatal("Sign:", e)
	}
	tx.Odd, tx.R, tx.S = odd, r, s
	if a, e := book.Sender(tx); a != address(t, "9d8a62f656a8d1615c1294fd71e9cfb3e4855a4f") || e != api.OK {
		t.Errorf("Sender of what the key signed: %x, %d", a, e)
	}
}

// TestRunOthers: P14.3 to P14.5: the chapter's other runs.
func TestRunOthers(t *testing.T) {
	if book.Bloom(nil) != [256]byte{} {
		t.Error("Bloom of no logs")
	}
	maker := address(t, "6ac7ea33f8831ea9dcc53393aaa88b25a785dbf0")
	for nonce, want := range []string{"cd234a471b72ba2f1ccf0a70fcaba648a5eecd8d", "343c43a37d37dff08ae8c4a11544c718abb4fcf8"} {
		if got := book.Made(maker, uint64(nonce)); got != address(t, want) {
			t.Errorf("Made of nonce %d: %x", nonce, got)
		}
	}
	if raw, e := book.WriteHeader(api.Header{Fields: 18}); e != api.ErrArg || len(raw) > 0 {
		t.Errorf("WriteHeader of 18 parts: %x, %d", raw, e)
	}
	if raw, e := book.WriteReceipt(api.Receipt{Root: make([]byte, 31)}); e != api.ErrArg || len(raw) > 0 {
		t.Errorf("WriteReceipt of a root of 31 bytes: %x, %d", raw, e)
	}
}

// TestKnownSalted: P14.5: the chapter's run and EIP-1014's other examples.
func TestKnownSalted(t *testing.T) {
	none, dead := api.Address{}, address(t, "00000000000000000000000000000000deadbeef")
	for _, c := range []struct {
		maker      api.Address
		salt       api.Word
		code, want string
	}{
		{none, api.Word{}, "00", "4d1a2e2bb4f88f0250f26ffff098b0b30b26bf38"},
		{address(t, "deadbeef00000000000000000000000000000000"), api.Word{}, "00", "b928f69bb1d91cd65274e3c79d8986362984fda3"},
		{address(t, "deadbeef00000000000000000000000000000000"), api.Word{0, 0, 0xfeed0000}, "00", "d04116cdd17bebe565eb2422f2497e06cc1c9833"},
		{none, api.Word{}, "deadbeef", "70f2b2914a2a4b783faefb75f459a580616fcb5e"},
		{dead, api.Word{0xcafebabe}, "deadbeef", "60f3f640a8508fc6a86d45df051962668e1e8ac7"},
		{dead, api.Word{0xcafebabe}, "deadbeefdeadbeefdeadbeefdeadbeefdeadbeefdeadbeefdeadbeefdeadbeefdeadbeefdeadbeefdeadbeef", "1d8bfdc5d46dc4f61d6b6115972536ebe6a8854c"},
		{none, api.Word{}, "", "e33c0c7f7df4809055c3eba6c09cfe4baf1bd9e0"},
	} {
		if got := book.Salted(c.maker, c.salt, hexed(t, c.code)); got != address(t, c.want) {
			t.Errorf("Salted(%x, %x, %s): %x; must be %s", c.maker, c.salt, c.code, got, c.want)
		}
	}
}

// TestKnownHeader: P14.4: the first header of a chain that others know by its hash.
func TestKnownHeader(t *testing.T) {
	h := api.Header{Fields: 15, Difficulty: api.Word{17179869184}, GasLimit: 5000, Nonce: [8]byte{7: 0x42}}
	h.Ommers = api.Hash(hexed(t, "1dcc4de8dec75d7aab85b567b6ccd41ad312451b948a7413f0a142fd40d49347"))
	h.State = api.Hash(hexed(t, "d7f8974fb5ac78d9ac099b9ad5018bedc2ce0a72dad1827a1709da30580f0544"))
	h.Txs = api.Hash(hexed(t, "56e81f171bcc55a6ff8345e692c0f86e5b48e01b996cadc001622fb5e363b421"))
	h.Receipts = h.Txs
	h.Extra = hexed(t, "11bbe8db4e347b4e8c937c1c8370e4b5ed33adb3db69cbdb7a38e1e50b1b82fa")
	raw, e := book.WriteHeader(h)
	k := hash.Keccak(raw)
	if want := hexed(t, "d4e56740f876aef8c010b86a40d5f56745a118d0906a34e69aec8c0db1cb8fa3"); e != api.OK || !bytes.Equal(k[:], want) {
		t.Errorf("the first header's hash: %x, %d", k, e)
	}
	if again, e := book.ReadHeader(raw); e != api.OK || !same(again, h) {
		t.Errorf("ReadHeader of the first header: %v, %d", again, e)
	}
}

// TestKnownTxs: P14.1, P14.2: transactions that others wrote and signed.
func TestKnownTxs(t *testing.T) {
	to := address(t, "b94f5374fce5edbc8e2a8697c15331677e6ebf0b")
	for _, c := range []struct {
		raw, signed string
		want        api.Tx
	}{
		{
			"f86103018207d094b94f5374fce5edbc8e2a8697c15331677e6ebf0b0a8255441ca098ff921201554726367d2be8c804a7ff89ccf285ebc57dff8ae4c44b9c19ac4aa08887321be575c8095f789dd4c743dfe42c1820f9231f98a962b210e3ac2452a3",
			"fe7a79529ed5f7c3375d06b26b186a8644e0e16c373d7a12be41c62d6042b77a",
			api.Tx{Nonce: 3, Price: api.Word{1}, Gas: 2000, To: to, Value: api.Word{10}, Data: []byte{0x55, 0x44}, Odd: true},
		},
		{
			"01f8630103018261a894b94f5374fce5edbc8e2a8697c15331677e6ebf0b0a825544c001a0c9519f4f2b30335884581971573fadf60c6204f59a911df35ee8a540456b2660a032f1e8e2c5dd761f9e4f88f41c8310aeaba26a8bfcdacfedfa12ec3862d37521",
			"49b486f0ec0a60dfbbca2d30cb07c9e8ffb2a2ff41f29a1ab6737475f6ff69f3",
			api.Tx{Kind: 1, ChainID: 1, Nonce: 3, Price: api.Word{1}, Gas: 25000, To: to, Value: api.Word{10}, Data: []byte{0x55, 0x44}, Odd: true},
		},
	} {
		raw := hexed(t, c.raw)
		tx, e := book.ReadTx(raw)
		c.want.R, c.want.S = tx.R, tx.S
		if e != api.OK || !same(tx, c.want) {
			t.Errorf("ReadTx of %s: %v, %d", c.raw, tx, e)
		}
		if again, e := book.WriteTx(tx); e != api.OK || !bytes.Equal(again, raw) {
			t.Errorf("WriteTx: %x, %d; must be %s", again, e, c.raw)
		}
		if h, e := book.Signed(tx); e != api.OK || !bytes.Equal(h[:], hexed(t, c.signed)) {
			t.Errorf("Signed: %x, %d; must be %s", h, e, c.signed)
		}
		if _, e := book.Sender(tx); e != api.OK {
			t.Errorf("Sender of %s: %d", c.raw, e)
		}
	}
}
