package field

import (
	"math/bits"

	"quarry/api"
)

// What reckons here goes by pointers, which may be the same: moving arrays of limbs would take longer than the sums.

// Reduce is a modulo the prime.
func (f *Field) Reduce(a api.Num) api.Num {
	f.reduce(&a)
	return a
}

// Add is a + b.
func (f *Field) Add(a, b api.Num) (sum api.Num) {
	f.reduce(&a)
	f.reduce(&b)
	f.add(&sum, &a, &b)
	return sum
}

// Sub is a - b.
func (f *Field) Sub(a, b api.Num) (rest api.Num) {
	f.reduce(&a)
	f.reduce(&b)
	f.sub(&rest, &a, &b)
	return rest
}

// Neg is what is missing to 0.
func (f *Field) Neg(a api.Num) api.Num { return f.Sub(api.Num{}, a) }

// reduce makes a what it is modulo the prime.
func (f *Field) reduce(a *api.Num) {
	if below(a, &f.prime) {
		return
	}
	var low, high api.Num // a is high times R, and its lowest limbs, which alone times asks for
	copy(high[:], a[f.limbs:])
	f.times(&low, a, &f.one)
	f.times(&high, &high, &f.square)
	f.add(a, &low, &high)
}

// add makes sum a + b, both below the prime.
func (f *Field) add(sum, a, b *api.Num) {
	plus(sum, a, b)
	f.lower(sum)
}

// sub makes rest a - b, both below the prime.
func (f *Field) sub(rest, a, b *api.Num) {
	if minus(rest, a, b) {
		plus(rest, rest, &f.prime)
	}
}

// lower makes a, which must be below twice the prime, what it is modulo the prime.
func (f *Field) lower(a *api.Num) {
	if !below(a, &f.prime) {
		minus(a, a, &f.prime)
	}
}

// below says whether a is below b.
func below(a, b *api.Num) bool {
	for i := len(a) - 1; i >= 0; i-- {
		if a[i] != b[i] {
			return a[i] < b[i]
		}
	}
	return false
}

// plus makes sum a + b modulo 2^384.
func plus(sum, a, b *api.Num) {
	var more uint64
	sum[0], more = bits.Add64(a[0], b[0], 0)
	sum[1], more = bits.Add64(a[1], b[1], more)
	sum[2], more = bits.Add64(a[2], b[2], more)
	sum[3], more = bits.Add64(a[3], b[3], more)
	sum[4], more = bits.Add64(a[4], b[4], more)
	sum[5], _ = bits.Add64(a[5], b[5], more)
}

// minus makes rest a - b modulo 2^384, and says whether b is above a.
func minus(rest, a, b *api.Num) bool {
	var less uint64
	rest[0], less = bits.Sub64(a[0], b[0], 0)
	rest[1], less = bits.Sub64(a[1], b[1], less)
	rest[2], less = bits.Sub64(a[2], b[2], less)
	rest[3], less = bits.Sub64(a[3], b[3], less)
	rest[4], less = bits.Sub64(a[4], b[4], less)
	rest[5], less = bits.Sub64(a[5], b[5], less)
	return less != 0
}

// halve makes a half of what it is, rounded down.
func halve(a *api.Num) {
	a[0] = a[0]>>1 | a[1]<<63
	a[1] = a[1]>>1 | a[2]<<63
	a[2] = a[2]>>1 | a[3]<<63
	a[3] = a[3]>>1 | a[4]<<63
	a[4] = a[4]>>1 | a[5]<<63
	a[5] >>= 1
}
