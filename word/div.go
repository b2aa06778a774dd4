package word

import (
	"math/bits"

	"quarry/api"
)

// Div is a divided by b, rounded down; 0, if b is 0.
func Div(a, b api.Word) api.Word {
	quotient, _ := divide(long{a[0], a[1], a[2], a[3]}, b)
	return low(quotient)
}

// Mod is what a divided by b leaves; 0, if b is 0.
func Mod(a, b api.Word) api.Word {
	_, rest := divide(long{a[0], a[1], a[2], a[3]}, b)
	return rest
}

// Sdiv divides the signed values, rounded towards 0; 0, if b is 0.
func Sdiv(a, b api.Word) api.Word {
	quotient := Div(size(a), size(b))
	if negative(a) != negative(b) {
		return neg(quotient)
	}
	return quotient
}

// Smod is what is left of the signed values, with the sign of a; 0, if b is 0.
func Smod(a, b api.Word) api.Word {
	rest := Mod(size(a), size(b))
	if negative(a) {
		return neg(rest)
	}
	return rest
}

// Addmod is a + b modulo m, the sum not cut to 256 bits; 0, if m is 0.
func Addmod(a, b, m api.Word) api.Word {
	sum, carry := plus(a, b)
	_, rest := divide(long{sum[0], sum[1], sum[2], sum[3], carry}, m)
	return rest
}

// Mulmod is a * b modulo m, the product not cut to 256 bits; 0, if m is 0.
func Mulmod(a, b, m api.Word) api.Word {
	_, rest := divide(product(a, b), m)
	return rest
}

// size is the signed value of a without its sign.
func size(a api.Word) api.Word {
	if negative(a) {
		return neg(a)
	}
	return a
}

// divide is n divided by d, and what is left; both 0, if d is 0.
func divide(n long, d api.Word) (quotient long, rest api.Word) {
	top, wide := limbs(n[:]), limbs(d[:])
	switch {
	case wide == 0:
		return quotient, rest
	case top < wide:
		return quotient, low(n)
	case wide == 1:
		return divideByLimb(n, top, d[0])
	}
	return divideByLimbs(n, top, d, wide)
}

// divideByLimb divides n, of top limbs, by d, which is not 0.
func divideByLimb(n long, top int, d uint64) (quotient long, rest api.Word) {
	var left uint64
	for i := top - 1; i >= 0; i-- {
		quotient[i], left = bits.Div64(left, n[i], d)
	}
	return quotient, Of(left)
}

// divideByLimbs divides n, of top limbs, by d, of wide limbs, 2 or more: Knuth's algorithm D (The Art of Computer Programming, 4.3.1), with limbs as digits.
func divideByLimbs(n long, top int, d api.Word, wide int) (quotient long, rest api.Word) {
	// A guess at a digit is near enough only where the divisor's highest bit is set, so both numbers are shifted; the dividend may get a limb more by it.
	shift := bits.LeadingZeros64(d[wide-1])
	d = shiftLeft(d, shift)
	var left [9]uint64
	left[top] = n[top-1] >> (64 - shift)
	for i := top - 1; i > 0; i-- {
		left[i] = n[i]<<shift | n[i-1]>>(64-shift)
	}
	left[0] = n[0] << shift

	for i := top - wide; i >= 0; i-- {
		digit := guess(left[i+wide], left[i+wide-1], left[i+wide-2], d[wide-1], d[wide-2])
		if takeAway(left[i:i+wide+1], d[:wide], digit) {
			giveBack(left[i:i+wide+1], d[:wide])
			digit--
		}
		quotient[i] = digit
	}

	for i := range wide {
		rest[i] = left[i]>>shift | left[i+1]<<(64-shift)
	}
	return quotient, rest
}

// guess is a digit of the quotient, or one more than it, by the three highest limbs of what is left and the two highest of the divisor.
func guess(n2, n1, n0, d1, d0 uint64) uint64 {
	if n2 >= d1 { // the quotient of two limbs would pass a limb, but the digit can't
		return 1<<64 - 1
	}
	digit, left := bits.Div64(n2, n1, d1)
	if hi, lo := bits.Mul64(digit, d0); hi > left || hi == left && lo > n0 {
		digit--
	}
	return digit
}

// takeAway takes digit times d from left, which has a limb more than d; it says whether that was too much.
func takeAway(left, d []uint64, digit uint64) bool {
	var carry, borrow uint64
	for i, v := range d {
		var lo uint64
		carry, lo = mulAdd(v, digit, carry, 0)
		left[i], borrow = bits.Sub64(left[i], lo, borrow)
	}
	left[len(d)], borrow = bits.Sub64(left[len(d)], carry, borrow)
	return borrow == 1
}

// giveBack adds d to left; what goes beyond left's highest limb makes up for what takeAway borrowed.
func giveBack(left, d []uint64) {
	var carry uint64
	for i, v := range d {
		left[i], carry = bits.Add64(left[i], v, carry)
	}
	left[len(d)] += carry
}
