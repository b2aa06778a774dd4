package nat

import "math/bits"

// DivMod is a divided by b, rounded down, and what is left; not ok, if b is 0.
func DivMod(a, b []byte) (q, r []byte, ok bool) {
	d := toLimbs(b)
	if len(d) == 0 {
		return nil, nil, false
	}
	d, shift := raised(d)
	left := shiftUp(toLimbs(a), shift)
	quotient := make([]uint64, max(0, len(left)-len(d)))
	divide(quotient, left, d)
	shiftDown(left, shift)
	return toBytes(quotient), toBytes(left), true
}

// raised is d, which is not 0, times the power of 2 that brings its highest bit to the end of its highest limb, and that power's number: a guess at a digit of a quotient is near enough only by such a divisor.
func raised(d []uint64) ([]uint64, int) {
	shift := bits.LeadingZeros64(d[len(d)-1])
	return shiftUp(d, shift)[:len(d)], shift
}

// divide divides left by d, whose highest bit is set: digits of the quotient go to quotient, what is left stays in left. The highest limbs of left, as many as d has, are below d. It is Knuth's algorithm D (The Art of Computer Programming, 4.3.1), with limbs as digits.
func divide(quotient, left, d []uint64) {
	for i := len(left) - len(d) - 1; i >= 0; i-- {
		part := left[i : i+len(d)+1]
		digit := guess(part, d)
		if takeAway(part, d, digit) {
			giveBack(part, d)
			digit--
		}
		quotient[i] = digit
	}
}

// guess is how often d goes into left, which has a limb more, or one more than that.
func guess(left, d []uint64) uint64 {
	top := len(d) - 1
	if left[top+1] >= d[top] { // two limbs by one would pass a limb, but the digit can't
		return 1<<64 - 1
	}
	digit, rest := bits.Div64(left[top+1], left[top], d[top])
	if top == 0 {
		return digit
	}
	if hi, lo := bits.Mul64(digit, d[top-1]); hi > rest || hi == rest && lo > left[top-1] {
		digit--
	}
	return digit
}

// takeAway takes digit times d from left, and says whether that was too much.
func takeAway(left, d []uint64, digit uint64) bool {
	var carry, borrow uint64
	low := left[:len(d)]
	for i, v := range d {
		var lo uint64
		carry, lo = timesPlus(v, digit, carry, 0)
		low[i], borrow = bits.Sub64(low[i], lo, borrow)
	}
	left[len(d)], borrow = bits.Sub64(left[len(d)], carry, borrow)
	return borrow == 1
}

// giveBack adds d to left; what goes beyond left's end makes up for what takeAway borrowed there.
func giveBack(left, d []uint64) {
	var carry uint64
	for i, v := range d {
		left[i], carry = bits.Add64(left[i], v, carry)
	}
	left[len(d)] += carry
}
