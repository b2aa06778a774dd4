package nat

// Add is a + b.
func Add(a, b []byte) []byte {
	wide := max(len(a), len(b))
	sum := make([]byte, wide+1)
	carry := 0
	for i := range wide {
		n := digit(a, i) + digit(b, i) + carry
		sum[wide-i] = byte(n)
		carry = n >> 8
	}
	sum[0] = byte(carry)
	return strip(sum)
}

// Sub is a - b; not ok, if b is above a.
func Sub(a, b []byte) ([]byte, bool) {
	if Cmp(a, b) < 0 {
		return nil, false
	}
	wide := max(len(a), len(b))
	rest := make([]byte, wide)
	borrow := 0
	for i := range wide {
		n := digit(a, i) - digit(b, i) - borrow
		rest[wide-1-i] = byte(n)
		borrow = n >> 8 & 1 // n is -256 to 255
	}
	return strip(rest), true
}

// Mul is a * b.
func Mul(a, b []byte) []byte {
	x, y := toLimbs(a), toLimbs(b)
	product := make([]uint64, len(x)+len(y))
	multiply(product, x, y)
	return toBytes(product)
}
