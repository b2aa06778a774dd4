package book_test

import (
	"math/big"
	"testing"

	"quarry/api"
	"quarry/book"
	"quarry/hash"
	"quarry/sign"
)

// order is n of chapter 11.
const order = "fffffffffffffffffffffffffffffffebaaedce6af48a03bbfd25e8cd0364141"

// plainSigned is what the sender of t signs, by the chapter's words.
func plainSigned(t *testing.T, tx api.Tx) api.Hash {
	t.Helper()
	x := plainTx(tx)
	x.Items = x.Items[:len(x.Items)-3]
	if tx.Kind == 0 && tx.ChainID != 0 {
		x.Items = append(x.Items, text(new(big.Int).SetUint64(tx.ChainID).Bytes()...), text(), text())
	}
	return hash.Keccak(enveloped(t, tx.Kind, x))
}

// TestSigned: P14.2: what is signed, of each kind, with a chain and without one; the signature is not in it.
func TestSigned(t *testing.T) {
	var m mixer = 20
	for i := range 2000 {
		tx := m.tx(i % 4)
		want := plainSigned(t, tx)
		if h, e := book.Signed(tx); h != want || e != api.OK {
			t.Fatalf("Signed of %v: %x, %d; must be %x", tx, h, e, want)
		}
		tx.R, tx.S, tx.Odd = m.word(), m.word(), !tx.Odd
		if h, e := book.Signed(tx); h != want || e != api.OK {
			t.Fatalf("Signed of %v with another signature: %x, %d; must be %x", tx, h, e, want)
		}
	}
}

// signed is tx with the signature of a key.
func signed(t *testing.T, tx api.Tx, key, nonce api.Word) api.Tx {
	t.Helper()
	var e api.Errno
	tx.Odd, tx.R, tx.S, e = sign.Sign(plainSigned(t, tx), key, nonce)
	if e != api.OK {
		t.Fatalf("Sign: %d", e)
	}
	return tx
}

// addressOf is a key's address.
func addressOf(t *testing.T, key api.Word) api.Address {
	t.Helper()
	p, e := sign.Public(key)
	if e != api.OK {
		t.Fatalf("Public: %d", e)
	}
	a, e := sign.Address(p)
	if e != api.OK {
		t.Fatalf("Address: %d", e)
	}
	return a
}

// TestSender: P14.2, P14.6: who signed is told of each kind, of what was read too, and of the other signature that R has.
func TestSender(t *testing.T) {
	var m mixer = 21
	for i := range 120 {
		key := api.Word{m.next(), m.next(), m.next(), m.next() >> 1}
		tx := signed(t, m.tx(i%4), key, api.Word{m.next(), m.next(), m.next() >> 1})
		want := addressOf(t, key)
		if a, e := book.Sender(tx); a != want || e != api.OK {
			t.Fatalf("Sender of %v: %x, %d; must be %x", tx, a, e, want)
		}
		again, e := book.ReadTx(txForm(t, tx))
		if a, f := book.Sender(again); a != want || e != api.OK || f != api.OK {
			t.Fatalf("Sender of what was read of %v: %x, %d, %d; must be %x", tx, a, e, f, want)
		}
		other := tx
		other.Odd, other.S = !tx.Odd, wordOf(new(big.Int).Sub(power(order), bigOf(tx.S)))
		if a, e := book.Sender(other); a != want || e != api.OK {
			t.Fatalf("Sender of %v with the other signature: %x, %d; must be %x", tx, a, e, want)
		}
		other = tx
		other.Nonce++
		if a, _ := book.Sender(other); a == want {
			t.Fatalf("Sender of %v does not hang on the nonce", tx)
		}
		other = tx
		other.Odd = !tx.Odd
		if a, _ := book.Sender(other); a == want {
			t.Fatalf("Sender of %v does not hang on Odd", tx)
		}
	}
}

// TestSenderRefuses: P14.2: what sign.Recover refuses.
func TestSenderRefuses(t *testing.T) {
	var m mixer = 22
	n := wordOf(power(order))
	for i := range 24 {
		tx := signed(t, m.tx(i%4), api.Word{7, m.next()}, api.Word{9, m.next()})
		for _, wrong := range []api.Word{{}, n, {n[0] + 1, n[1], n[2], n[3]}, {api.None, api.None, api.None, api.None}} {
			one, two := tx, tx
			one.R, two.S = wrong, wrong
			for _, other := range []api.Tx{one, two} {
				if a, e := book.Sender(other); a != (api.Address{}) || e != api.ErrRange {
					t.Errorf("Sender of %v: %x, %d; must be ErrRange", other, a, e)
				}
			}
		}
		other := tx
		other.R = api.Word{5}
		if a, e := book.Sender(other); a != (api.Address{}) || e != api.ErrCurve {
			t.Errorf("Sender of %v: %x, %d; must be ErrCurve", other, a, e)
		}
		k := int64(1 + m.below(1000)) // s R is the hash times G, where R is k times G
		p, _ := sign.Public(api.Word{uint64(k)})
		h := plainSigned(t, tx)
		s := new(big.Int).ModInverse(big.NewInt(k), power(order))
		s.Mul(s, new(big.Int).SetBytes(h[:])).Mod(s, power(order))
		other.R, other.S, other.Odd = api.Word(p.X[:4]), wordOf(s), p.Y[0]%2 == 1
		if a, e := book.Sender(other); a != (api.Address{}) || e != api.ErrGroup {
			t.Errorf("Sender of %v: %x, %d; must be ErrGroup", other, a, e)
		}
	}
}
