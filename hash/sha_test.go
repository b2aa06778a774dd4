package hash_test

import (
	"crypto/sha256"
	"testing"

	"quarry/hash"
)

// TestSha: P3.3.
func TestSha(t *testing.T) {
	for _, b := range texts() {
		if got, want := hash.Sha(b), sha256.Sum256(b); got != want {
			t.Fatalf("Sha of %d bytes %x is %x, must be %x", len(b), b, got, want)
		}
	}
}

// TestShaLong: P3.3: a length whose bits are more than 24 bits can tell.
func TestShaLong(t *testing.T) {
	b := make([]byte, 1<<21+5)
	b[1<<20] = 1
	if got, want := hash.Sha(b), sha256.Sum256(b); got != want {
		t.Fatalf("Sha of %d bytes is %x, must be %x", len(b), got, want)
	}
}
