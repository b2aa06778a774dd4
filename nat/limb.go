package nat

import "math/bits"

// Products and quotients go over limbs of 64 bits, the lowest first: an eighth of the digits that bytes are, so a 64th of the steps.

// toLimbs is a as limbs, as few as it needs.
func toLimbs(a []byte) []uint64 {
	a = strip(a)
	l := make([]uint64, (len(a)+7)/8)
	for i, v := range a {
		place := len(a) - 1 - i
		l[place/8] |= uint64(v) << (place % 8 * 8)
	}
	return l
}

// toBytes is the number of l as bytes, without zeros ahead.
func toBytes(l []uint64) []byte {
	b := make([]byte, 8*len(l))
	for i := range b {
		place := len(b) - 1 - i
		b[i] = byte(l[place/8] >> (place % 8 * 8))
	}
	return strip(b)
}

// multiply makes product a * b; it has as many limbs as both, and is none of them.
func multiply(product, a, b []uint64) {
	clear(product)
	for i, x := range a {
		var carry uint64
		row := product[i : i+len(b)]
		for k, y := range b {
			carry, row[k] = timesPlus(x, y, row[k], carry)
		}
		product[i+len(b)] = carry
	}
}

// timesPlus is x * y + c + d, which never passes 2^128 - 1.
func timesPlus(x, y, c, d uint64) (hi, lo uint64) {
	hi, lo = bits.Mul64(x, y)
	lo, more := bits.Add64(lo, c, 0)
	hi += more
	lo, more = bits.Add64(lo, d, 0)
	return hi + more, lo
}

// shiftUp is l * 2^n, n below 64, with one limb more than l.
func shiftUp(l []uint64, n int) []uint64 {
	up := make([]uint64, len(l)+1)
	for i, v := range l {
		up[i] |= v << n
		up[i+1] = v >> (64 - n)
	}
	return up
}

// shiftDown makes l l / 2^n, n below 64, rounded down.
func shiftDown(l []uint64, n int) {
	for i := range l {
		l[i] >>= n
		if i+1 < len(l) {
			l[i] |= l[i+1] << (64 - n)
		}
	}
}
