package book_test

import (
	"testing"

	"quarry/api"
	"quarry/book"
	"quarry/hash"
	"quarry/rlp"
)

// TestMade: P14.5: addresses by makers and nonces, about the nonces' lengths.
func TestMade(t *testing.T) {
	var m mixer = 60
	for range 2000 {
		maker, nonce := m.address(), m.count()
		h := hash.Keccak(form(t, list(text(maker[:]...), rlp.Of(api.Word{nonce}))))
		if got, want := book.Made(maker, nonce), api.Address(h[12:]); got != want {
			t.Fatalf("Made(%x, %d): %x; must be %x", maker, nonce, got, want)
		}
	}
}

// TestSalted: P14.5: addresses by makers, salts and codes of many lengths.
func TestSalted(t *testing.T) {
	var m mixer = 61
	for range 2000 {
		maker, salt, code := m.address(), m.word(), m.blob()
		inside := hash.Keccak(code)
		all := append([]byte{255}, maker[:]...)
		all = append(all, bigOf(salt).FillBytes(make([]byte, 32))...)
		h := hash.Keccak(append(all, inside[:]...))
		if got, want := book.Salted(maker, salt, code), api.Address(h[12:]); got != want {
			t.Fatalf("Salted(%x, %x, %x): %x; must be %x", maker, salt, code, got, want)
		}
	}
}
