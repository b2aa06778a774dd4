package field

import (
	"math/bits"

	"quarry/api"
	"quarry/nat"
)

// Exp raises to a power.
func (f *Field) Exp(a api.Num, e []byte) api.Num {
	return f.leave(f.power(f.enter(a), e, 0))
}

// power is a to the power of what is left of the number e without its lowest bits, so many.
func (f *Field) power(a api.Num, e []byte, without int) api.Num {
	power := f.one
	for i := nat.Bits(e) - 1; i >= without; i-- {
		f.times(&power, &power, &power)
		if nat.Bit(e, i) == 1 {
			f.times(&power, &power, &a)
		}
	}
	return power
}

// unsquare is no square modulo those of the primes that are 1 modulo 4.
const unsquare = 5

// Sqrt is the lesser square root.
func (f *Field) Sqrt(a api.Num) (api.Num, bool) {
	a = f.enter(a)
	root := f.root(a)
	if f.squared(root, 1) != a {
		return api.Num{}, false
	}
	root = f.leave(root)
	other := f.Neg(root)
	if below(&other, &root) {
		return other, true
	}
	return root, true
}

// root is a square root of a, if there is one, by Tonelli's and Shanks's way: p - 1 is an odd number times 2^twos, and root's square is a times rest, which is a to the power of the odd number.
func (f *Field) root(a api.Num) api.Num {
	var root, rest api.Num
	p := text(f.prime, f.Size())
	twos := bits.TrailingZeros64(f.prime[0] - 1)
	part := f.power(a, p, twos+1)
	f.times(&root, &a, &part)
	if twos == 1 { // rest is 1, if a has a root
		return root
	}
	f.times(&rest, &root, &part)
	step := f.power(f.enter(api.Num{unsquare}), p, twos)
	for left := twos - 2; left >= 0; left-- {
		// To the power 2^left, step's square is -1, and so is rest, or 1, if a has a root.
		square := f.squared(step, 1)
		if f.squared(rest, left) != f.one {
			f.times(&root, &root, &step)
			f.times(&rest, &rest, &square)
		}
		step = square
	}
	return root
}

// squared is a squared so many times over.
func (f *Field) squared(a api.Num, times int) api.Num {
	for range times {
		f.times(&a, &a, &a)
	}
	return a
}
