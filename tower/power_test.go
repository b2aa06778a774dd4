package tower_test

import (
	"bytes"
	"math"
	"math/big"
	"testing"

	"quarry/api"
	"quarry/tower"
)

// few are some of the twelves: 0, 1, elements of one part, and some of all parts.
func (r row) few() []api.F12 {
	l := r.twelves()
	return append(append(append([]api.F12{}, l[:9]...), l[len(l)-7:]...), l[20], l[21], l[50])
}

// P7.4, Exp12: small powers, with zeros ahead and without, and some longer ones.
func TestExp12(t *testing.T) {
	each(t, func(t *testing.T, f *tower.Tower, r row) {
		m := mixer(11)
		powers := [][]byte{nil, {}, {0}, {0, 0, 0}, {1}, {2}, {3}, {7}, {8}, {255}, {1, 0}, {1, 1}, {0x80, 0, 0}, m.bytes(8), m.bytes(9)}
		for _, a := range r.few() {
			whole := r.whole(a)
			for _, e := range powers {
				want := r.back(r.power(whole, new(big.Int).SetBytes(e)))
				same(t, f.Exp12(a, e), want, "Exp12", a, e)
				same(t, f.Exp12(a, append(make([]byte, 9), e...)), want, "Exp12 with zeros ahead", a, e)
			}
		}
		a, e := r.few()[12], m.bytes(60)
		same(t, f.Exp12(a, e), r.back(r.power(r.whole(a), new(big.Int).SetBytes(e))), "Exp12", a, e)
	})
}

// order is p^12 - 1: how many elements there are but 0.
func (r row) order() *big.Int { return sum(new(big.Int).Exp(r.p, big.NewInt(12), nil), -1) }

// P7.4: powers about multiples of p^12 - 1, about the end of the bits that elements of F12 have, and long ones: to these an element but 0 is what it is to what is left of them by p^12 - 1.
func TestLongPowers(t *testing.T) {
	each(t, func(t *testing.T, f *tower.Tower, r row) {
		order := r.order()
		edge := new(big.Int).Lsh(big.NewInt(1), uint(12*(r.p.BitLen()+7)/8*8))
		a := r.few()[13]
		for _, times := range []int64{1, 2, 1 << 40} {
			n := new(big.Int).Mul(order, big.NewInt(times))
			for more := range int64(5) {
				var want api.F12
				if left := more - 2; left < 0 {
					inverse, _ := f.Inv12(a)
					want = r.back(r.power(r.whole(inverse), big.NewInt(-left)))
				} else {
					want = r.back(r.power(r.whole(a), big.NewInt(left)))
				}
				same(t, f.Exp12(a, sum(n, more-2).Bytes()), want, "Exp12 to some multiple of the order and", more-2)
			}
		}
		for more := range int64(3) {
			e := sum(edge, more-1)
			left := new(big.Int).Mod(e, order)
			same(t, f.Exp12(a, e.Bytes()), f.Exp12(a, left.Bytes()), "Exp12 about the end", a)
		}
		wide := new(big.Int).SetBytes(bytes.Repeat([]byte{0xb7}, 2000))
		same(t, f.Exp12(a, wide.Bytes()), f.Exp12(a, wide.Mod(wide, order).Bytes()), "Exp12 to 2000 bytes", a)
	})
}

// P7.4: a long power, reckoned plainly.
func TestLongPowerPlainly(t *testing.T) {
	each(t, func(t *testing.T, f *tower.Tower, r row) {
		m := mixer(5)
		a, e := r.few()[14], m.bytes(700)
		want := r.back(r.power(r.whole(a), new(big.Int).SetBytes(e)))
		same(t, f.Exp12(a, e), want, "Exp12 to 700 bytes", a)
	})
}

// P7.4: 0, in whatever writing, is 1 to the power 0, and 0 to each other one, to multiples of the order too.
func TestPowersOfZero(t *testing.T) {
	each(t, func(t *testing.T, f *tower.Tower, r row) {
		p := num(r.p)
		two := api.F2{p, p}
		for _, zero := range []api.F12{{}, {{two, two, two}, {two, two, two}}} {
			for _, e := range [][]byte{nil, {0}, make([]byte, 50), make([]byte, 2000)} {
				same(t, f.Exp12(zero, e), f.One12(), "0 to the power 0")
			}
			order := r.order()
			for _, times := range []int64{1, 1 << 60} {
				e := new(big.Int).Mul(order, big.NewInt(times)).Bytes()
				same(t, f.Exp12(zero, e), api.F12{}, "0 to a multiple of the order")
				same(t, f.Exp12(zero, append(make([]byte, 700), e...)), api.F12{}, "0 to a multiple of the order")
			}
			for _, e := range [][]byte{{1}, {0, 2}, bytes.Repeat([]byte{255}, 3000)} {
				same(t, f.Exp12(zero, e), api.F12{}, "0 to a power")
			}
		}
	})
}

// P7.4, Frob12: of each k, as the plain power p^k; of times below 0, of 12 and more too.
func TestFrob12(t *testing.T) {
	each(t, func(t *testing.T, f *tower.Tower, r row) {
		for i, a := range r.few() {
			power := r.whole(a)
			for k := range 12 {
				want := r.back(power)
				for _, times := range []int{k, k - 12, k + 12, k - 24, k + 120, k - 1200, math.MaxInt - math.MaxInt%12 - 12 + k, math.MinInt - math.MinInt%12 + 12 + k} {
					same(t, f.Frob12(a, times), want, "Frob12", a, times)
				}
				if i%8 == 5 && k%4 == 3 { // now and then by the power itself
					same(t, f.Exp12(a, new(big.Int).Exp(r.p, big.NewInt(int64(k)), nil).Bytes()), want, "Exp12 to p^k", a, k)
				}
				power = r.frobenius(power)
			}
			same(t, r.back(power), r.reduced(a), "twelve times the power p", a)
		}
	})
}

// frobenius is a to the power p: that of a sum is the sum of those of its parts, and numbers below p stay, so that each w^i becomes w^(i p), which is reckoned plainly.
func (r row) frobenius(a plain) plain {
	w := r.power(r.whole(api.F12{1: {{{1}}}}), r.p)
	turned := r.whole(api.F12{})
	power := r.whole(api.F12{{{{1}}}})
	for i := range a {
		for j := range turned {
			turned[j].Add(turned[j], new(big.Int).Mul(a[i], power[j]))
		}
		power = r.times(power, w)
	}
	return turned.modulo(r.p)
}

// P7.4: the ends of all ints.
func TestFrob12OfTheEnds(t *testing.T) {
	each(t, func(t *testing.T, f *tower.Tower, r row) {
		a := r.few()[13]
		for _, times := range []int{math.MinInt, math.MinInt + 1, math.MaxInt - 1, math.MaxInt, -1, -6, -11, -13} {
			k := int(new(big.Int).Mod(big.NewInt(int64(times)), big.NewInt(12)).Int64())
			same(t, f.Frob12(a, times), f.Frob12(a, k), "Frob12", times)
		}
	})
}

// P7.4: the power p itself, reckoned plainly.
func TestFrob12Plainly(t *testing.T) {
	each(t, func(t *testing.T, f *tower.Tower, r row) {
		a := r.few()[15]
		same(t, f.Frob12(a, 1), r.back(r.power(r.whole(a), r.p)), "Frob12", a)
		same(t, f.Exp12(a, r.p.Bytes()), f.Frob12(a, 1), "Exp12", a)
	})
}

// P7.5: six times is the conjugate, twelve times one by one is the element.
func TestFrob12Over(t *testing.T) {
	each(t, func(t *testing.T, f *tower.Tower, r row) {
		for _, a := range r.twelves() {
			same(t, f.Frob12(a, 6), f.Conj12(a), "Frob12 of 6", a)
			b := a
			for range 12 {
				b = f.Frob12(b, 1)
			}
			same(t, b, r.reduced(a), "Frob12 twelve times over", a)
			same(t, f.Frob12(f.Frob12(a, 5), 9), f.Frob12(a, 2), "Frob12 of 5, then 9", a)
			two := a[0][1]
			same(t, f.Frob12(of2(two), 1), of2(f.Conj2(two)), "Frob12 of one of F2", two)
		}
	})
}
