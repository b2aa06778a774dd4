package field

import (
	"math/bits"

	"quarry/api"
)

// Mul is a * b.
func (f *Field) Mul(a, b api.Num) (product api.Num) {
	f.reduce(&a)
	f.reduce(&b)
	f.times(&product, &a, &f.square)
	f.times(&product, &b, &product)
	return product
}

// enter is a times R modulo the prime. Of numbers that have entered, times makes the product as one that has entered.
func (f *Field) enter(a api.Num) api.Num {
	f.reduce(&a)
	f.times(&a, &a, &f.square)
	return a
}

// leave is the number that entered as a.
func (f *Field) leave(a api.Num) api.Num {
	f.times(&a, &a, &api.Num{1})
	return a
}

// times makes product a * b / R modulo the prime, of a's lowest limbs, as many as the prime has, and a b below the prime. It is Montgomery's way: limb by limb, a's times b is added, and as many primes as make the lowest limb of the sum 0, which then falls away; so the sum stays below b and the prime together. The sum's limbs stand in variables of their own, as an array would take twice the time.
func (f *Field) times(product, a, b *api.Num) {
	var s0, s1, s2, s3, s4, s5, more uint64
	for _, digit := range a[:f.limbs] {
		b0, b1, b2, b3, b4, b5, b6 := line(digit, b)
		b0, more = bits.Add64(b0, s0, 0)
		b1, more = bits.Add64(b1, s1, more)
		b2, more = bits.Add64(b2, s2, more)
		b3, more = bits.Add64(b3, s3, more)
		b4, more = bits.Add64(b4, s4, more)
		b5, more = bits.Add64(b5, s5, more)
		b6 += more
		p0, p1, p2, p3, p4, p5, p6 := line(b0*f.inverse, &f.prime)
		_, more = bits.Add64(b0, p0, 0)
		s0, more = bits.Add64(b1, p1, more)
		s1, more = bits.Add64(b2, p2, more)
		s2, more = bits.Add64(b3, p3, more)
		s3, more = bits.Add64(b4, p4, more)
		s4, more = bits.Add64(b5, p5, more)
		s5 = b6 + p6 + more
	}
	product[0], product[1], product[2], product[3], product[4], product[5] = s0, s1, s2, s3, s4, s5
	f.lower(product)
}

// line is the seven limbs of digit * a.
func line(digit uint64, a *api.Num) (l0, l1, l2, l3, l4, l5, l6 uint64) {
	h0, l0 := bits.Mul64(digit, a[0])
	h1, l1 := bits.Mul64(digit, a[1])
	h2, l2 := bits.Mul64(digit, a[2])
	h3, l3 := bits.Mul64(digit, a[3])
	h4, l4 := bits.Mul64(digit, a[4])
	h5, l5 := bits.Mul64(digit, a[5])
	l1, more := bits.Add64(l1, h0, 0)
	l2, more = bits.Add64(l2, h1, more)
	l3, more = bits.Add64(l3, h2, more)
	l4, more = bits.Add64(l4, h3, more)
	l5, more = bits.Add64(l5, h4, more)
	return l0, l1, l2, l3, l4, l5, h5 + more
}
