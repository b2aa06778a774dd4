// Package word reckons with numbers of 256 bits, as the machine does: see shared/doc/01-word.md.
package word

import (
	"math/bits"

	"quarry/api"
)

// Of is n as a word.
func Of(n uint64) api.Word { return api.Word{n} }

// Small is a as a number of 64 bits, if it is one.
func Small(a api.Word) (uint64, bool) {
	if a[1]|a[2]|a[3] != 0 {
		return 0, false
	}
	return a[0], true
}

// From is the number whose bytes b are, the highest first, if there are no more than 32.
func From(b []byte) (api.Word, bool) {
	var a api.Word
	if len(b) > 32 {
		return a, false
	}
	for i, v := range b {
		place := len(b) - 1 - i
		a[place/8] |= uint64(v) << (place % 8 * 8)
	}
	return a, true
}

// Bytes is a as 32 bytes, the highest first.
func Bytes(a api.Word) [32]byte {
	var b [32]byte
	for i := range b {
		place := 31 - i
		b[i] = byte(a[place/8] >> (place % 8 * 8))
	}
	return b
}

// Short is a as bytes, the highest first, without zeros ahead.
func Short(a api.Word) []byte {
	all := Bytes(a)
	b := make([]byte, (Bits(a)+7)/8)
	copy(b, all[32-len(b):])
	return b
}

// Bits is the least n for which a is below 2^n.
func Bits(a api.Word) int {
	n := limbs(a[:])
	if n == 0 {
		return 0
	}
	return 64*(n-1) + bits.Len64(a[n-1])
}

// Cmp is -1, 0, 1, as a is below, equal to, above b.
func Cmp(a, b api.Word) int {
	for i := 3; i >= 0; i-- {
		if a[i] < b[i] {
			return -1
		}
		if a[i] > b[i] {
			return 1
		}
	}
	return 0
}

// Scmp is Cmp of the signed values.
func Scmp(a, b api.Word) int {
	// With the sign bits turned round the negative ones come first, each half in its own order.
	a[3] ^= 1 << 63
	b[3] ^= 1 << 63
	return Cmp(a, b)
}

// limbs is how many limbs of l there are up to the highest one that is not 0.
func limbs(l []uint64) int {
	n := len(l)
	for n > 0 && l[n-1] == 0 {
		n--
	}
	return n
}

// negative says whether the signed value of a is below 0.
func negative(a api.Word) bool { return a[3]>>63 == 1 }
