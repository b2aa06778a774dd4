package tower_test

import (
	"math/big"
	"testing"

	"quarry/api"
)

// plain is an element as a polynomial in w alone: u is w^6 - s, as w^6 = v^3 = x = s + u, so that w^12 is 2 s w^6 - s^2 - 1. Thus all three fields are one, in which sums and products have no cases.
type plain [12]*big.Int

// whole is the polynomial of the element a of F12.
func (r row) whole(a api.F12) plain {
	var l plain
	for i := range l {
		l[i] = new(big.Int)
	}
	for i := range 6 { // a part c + d u with w^i is c - s d with w^i, and d with w^(i + 6)
		part := a[i%2][i/2]
		c, d := value(part[0]), value(part[1])
		l[i].Sub(c, new(big.Int).Mul(d, big.NewInt(r.s)))
		l[i+6].Set(d)
	}
	return l.modulo(r.p)
}

// back is the element of F12 that l is.
func (r row) back(l plain) (a api.F12) {
	for i := range 6 {
		c := new(big.Int).Mul(l[i+6], big.NewInt(r.s))
		c.Add(c, l[i])
		a[i%2][i/2] = api.F2{num(c.Mod(c, r.p)), num(l[i+6])}
	}
	return a
}

// modulo makes each of l's numbers what it is modulo p.
func (l plain) modulo(p *big.Int) plain {
	for i := range l {
		l[i].Mod(l[i], p)
	}
	return l
}

// times is a * b.
func (r row) times(a, b plain) plain {
	var product [23]*big.Int
	for i := range product {
		product[i] = new(big.Int)
	}
	n := new(big.Int)
	for i := range a {
		for j := range b {
			product[i+j].Add(product[i+j], n.Mul(a[i], b[j]))
		}
	}
	for i := 22; i >= 12; i-- {
		product[i-6].Add(product[i-6], n.Mul(product[i], big.NewInt(2*r.s)))
		product[i-12].Sub(product[i-12], n.Mul(product[i], big.NewInt(r.s*r.s+1)))
	}
	return plain(product[:12]).modulo(r.p)
}

// power is a to the power e.
func (r row) power(a plain, e *big.Int) plain {
	power := r.whole(api.F12{{{{1}}}})
	for i := e.BitLen() - 1; i >= 0; i-- {
		power = r.times(power, power)
		if e.Bit(i) == 1 {
			power = r.times(power, a)
		}
	}
	return power
}

// product is a * b of F12, and of F6 and F2 as parts of it.
func (r row) product(a, b api.F12) api.F12 { return r.back(r.times(r.whole(a), r.whole(b))) }

// reduced is a with each number modulo p.
func (r row) reduced(a api.F12) api.F12 { return r.back(r.whole(a)) }

// of6 and of2 are elements of F6 and F2 as those of F12 that they are.
func of6(a api.F6) api.F12 { return api.F12{a} }
func of2(a api.F2) api.F12 { return api.F12{{a}} }

// same fails the test, if got is not want.
func same(t *testing.T, got, want api.F12, call string, args ...any) {
	t.Helper()
	if got != want {
		t.Fatalf("%s of %x is %x, must be %x", call, args, got, want)
	}
}

// The polynomials themselves: what goes there comes back, w^6 is x, u^2 is -1, and sums of products are products of sums.
func TestPlain(t *testing.T) {
	for _, r := range table() {
		x := of2(api.F2{{uint64(r.s)}, {1}})
		w := r.whole(api.F12{1: {{{1}}}})
		same(t, r.back(r.power(w, big.NewInt(6))), x, "w^6")
		same(t, r.back(r.power(w, big.NewInt(2))), of6(api.F6{1: {{1}}}), "w^2")
		u := of2(api.F2{1: {1}})
		same(t, r.product(u, u), of2(api.F2{r.less(1)}), "u^2")
		for _, a := range r.twelves() {
			back := r.reduced(a)
			for i := range 12 {
				if n := new(big.Int).Mod(value(*at(&a, i)), r.p); *at(&back, i) != num(n) {
					t.Fatalf("%x comes back as %x", a, back)
				}
			}
		}
	}
}
