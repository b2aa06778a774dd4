package word

import (
	"math/bits"

	"quarry/api"
)

// long is a number of 512 bits, limb 0 the lowest: as long as a product of two words can be.
type long [8]uint64

// Add is a + b modulo 2^256.
func Add(a, b api.Word) api.Word {
	sum, _ := plus(a, b)
	return sum
}

// Sub is a - b modulo 2^256.
func Sub(a, b api.Word) api.Word {
	var c api.Word
	var borrow uint64
	c[0], borrow = bits.Sub64(a[0], b[0], 0)
	c[1], borrow = bits.Sub64(a[1], b[1], borrow)
	c[2], borrow = bits.Sub64(a[2], b[2], borrow)
	c[3], _ = bits.Sub64(a[3], b[3], borrow)
	return c
}

// Mul is a * b modulo 2^256.
func Mul(a, b api.Word) api.Word {
	var c api.Word
	for i, x := range a {
		var carry uint64
		for k := i; k < 4; k++ {
			carry, c[k] = mulAdd(x, b[k-i], c[k], carry)
		}
	}
	return c
}

// Wide is a * b: lo + 2^256 hi.
func Wide(a, b api.Word) (hi, lo api.Word) {
	p := product(a, b)
	return api.Word{p[4], p[5], p[6], p[7]}, low(p)
}

// Exp is a to the power b modulo 2^256.
func Exp(a, b api.Word) api.Word {
	power := Of(1)
	for i := Bits(b) - 1; i >= 0; i-- {
		power = Mul(power, power)
		if b[i/64]>>(i%64)&1 == 1 {
			power = Mul(power, a)
		}
	}
	return power
}

// plus is a + b, with what goes beyond 2^256 apart.
func plus(a, b api.Word) (sum api.Word, carry uint64) {
	sum[0], carry = bits.Add64(a[0], b[0], 0)
	sum[1], carry = bits.Add64(a[1], b[1], carry)
	sum[2], carry = bits.Add64(a[2], b[2], carry)
	sum[3], carry = bits.Add64(a[3], b[3], carry)
	return sum, carry
}

// product is the whole of a * b.
func product(a, b api.Word) long {
	var p long
	for i, x := range a {
		var carry uint64
		for k, y := range b {
			carry, p[i+k] = mulAdd(x, y, p[i+k], carry)
		}
		p[i+4] = carry
	}
	return p
}

// mulAdd is x * y + c + d, which never passes 2^128 - 1.
func mulAdd(x, y, c, d uint64) (hi, lo uint64) {
	hi, lo = bits.Mul64(x, y)
	lo, carry := bits.Add64(lo, c, 0)
	hi += carry
	lo, carry = bits.Add64(lo, d, 0)
	return hi + carry, lo
}

// low is n modulo 2^256.
func low(n long) api.Word { return api.Word{n[0], n[1], n[2], n[3]} }

// neg is -a modulo 2^256.
func neg(a api.Word) api.Word { return Sub(api.Word{}, a) }
