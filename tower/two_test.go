package tower_test

import (
	"math/big"
	"testing"

	"quarry/api"
	"quarry/tower"
)

// two is c + d u.
func (r row) two(c, d *big.Int) api.F2 {
	return api.F2{num(new(big.Int).Mod(c, r.p)), num(new(big.Int).Mod(d, r.p))}
}

// square is the square of a, by the chapter's words.
func (r row) square(a api.F2) api.F2 {
	c, d := value(a[0]), value(a[1])
	low := new(big.Int).Sub(new(big.Int).Mul(c, c), new(big.Int).Mul(d, d))
	return r.two(low, new(big.Int).Lsh(new(big.Int).Mul(c, d), 1))
}

// checkTwo holds the calls of two elements against math/big (P7.2).
func checkTwo(t *testing.T, f *tower.Tower, r row, a, b api.F2) {
	t.Helper()
	a0, a1, b0, b1 := value(a[0]), value(a[1]), value(b[0]), value(b[1])
	add := r.two(new(big.Int).Add(a0, b0), new(big.Int).Add(a1, b1))
	if got := f.Add2(a, b); got != add {
		t.Fatalf("Add2 of %x, %x is %x, must be %x", a, b, got, add)
	}
	sub := r.two(new(big.Int).Sub(a0, b0), new(big.Int).Sub(a1, b1))
	if got := f.Sub2(a, b); got != sub {
		t.Fatalf("Sub2 of %x, %x is %x, must be %x", a, b, got, sub)
	}
	low := new(big.Int).Sub(new(big.Int).Mul(a0, b0), new(big.Int).Mul(a1, b1))
	high := new(big.Int).Add(new(big.Int).Mul(a0, b1), new(big.Int).Mul(a1, b0))
	if got, want := f.Mul2(a, b), r.two(low, high); got != want {
		t.Fatalf("Mul2 of %x, %x is %x, must be %x", a, b, got, want)
	}
}

// P7.2, each of the elements with itself, with its opposite, its conjugate, another writing of it, and some others.
func TestSumsOfTwo(t *testing.T) {
	each(t, func(t *testing.T, f *tower.Tower, r row) {
		l := r.twos()
		for i, a := range l {
			more := r.two(value(a[0]), value(a[1]))
			for _, b := range []api.F2{a, more, r.two(new(big.Int).Neg(value(a[0])), new(big.Int).Neg(value(a[1]))), {a[0], r.less(1)}, {a[1], a[0]}, {{1}}, {{}, {1}}} {
				checkTwo(t, f, r, a, b)
				checkTwo(t, f, r, b, a)
			}
			for j := range 20 {
				checkTwo(t, f, r, a, l[(i*31+j*97+5)%len(l)])
			}
		}
	})
}

// P7.2, Inv2 and Conj2; P7.5: the conjugate is the power of the prime.
func TestInvAndConjOfTwo(t *testing.T) {
	each(t, func(t *testing.T, f *tower.Tower, r row) {
		for i, a := range r.twos() {
			conjugate := r.two(value(a[0]), new(big.Int).Neg(value(a[1])))
			if got := f.Conj2(a); got != conjugate {
				t.Fatalf("Conj2 of %x is %x", a, got)
			}
			if i%9 == 0 {
				same(t, r.back(r.power(r.whole(of2(a)), r.p)), of2(conjugate), "the power p", a)
			}
			got, ok := f.Inv2(a)
			if zero := r.two(value(a[0]), value(a[1])) == (api.F2{}); ok == zero || !ok && got != (api.F2{}) {
				t.Fatalf("Inv2 of %x is %x, %v", a, got, ok)
			}
			if !ok {
				continue
			}
			if value(got[0]).Cmp(r.p) >= 0 || value(got[1]).Cmp(r.p) >= 0 {
				t.Fatalf("Inv2 of %x is %x", a, got)
			}
			same(t, r.product(of2(a), of2(got)), f.One12(), "a times Inv2", a)
		}
	})
}

// opposite is -a.
func (r row) opposite(a api.F2) api.F2 {
	return r.two(new(big.Int).Neg(value(a[0])), new(big.Int).Neg(value(a[1])))
}

// lesser is the lesser of a and -a, in the order that P7.3 says.
func (r row) lesser(a api.F2) api.F2 {
	b := r.opposite(a)
	order := value(a[1]).Cmp(value(b[1]))
	if order == 0 {
		order = value(a[0]).Cmp(value(b[0]))
	}
	if order <= 0 {
		return a
	}
	return b
}

// checkRoot holds Sqrt2 of a against P7.3: an element is a square just if a^2 + b^2 is one modulo p.
func checkRoot(t *testing.T, f *tower.Tower, r row, a api.F2) {
	t.Helper()
	norm := new(big.Int).Mul(value(a[0]), value(a[0]))
	norm.Add(norm, new(big.Int).Mul(value(a[1]), value(a[1])))
	got, ok := f.Sqrt2(a)
	if ok != (big.Jacobi(norm.Mod(norm, r.p), r.p) >= 0) {
		t.Fatalf("Sqrt2 of %x: %v", a, ok)
	}
	if !ok {
		if got != (api.F2{}) {
			t.Fatalf("Sqrt2 of %x is refused, and tells %x", a, got)
		}
		return
	}
	if r.square(got) != r.two(value(a[0]), value(a[1])) {
		t.Fatalf("Sqrt2 of %x is %x, whose square is %x", a, got, r.square(got))
	}
	if got != r.lesser(got) {
		t.Fatalf("Sqrt2 of %x is %x, and %x is less", a, got, r.opposite(got))
	}
}

// P7.3: the elements, their squares, the opposites of these, and u times these.
func TestSqrt2(t *testing.T) {
	each(t, func(t *testing.T, f *tower.Tower, r row) {
		for _, a := range r.twos() {
			square := r.square(a)
			if root, ok := f.Sqrt2(square); !ok || root != r.lesser(r.two(value(a[0]), value(a[1]))) {
				t.Fatalf("Sqrt2 of the square of %x is %x, %v", a, root, ok)
			}
			checkRoot(t, f, r, a)
			checkRoot(t, f, r, r.opposite(square))
			checkRoot(t, f, r, f.Mul2(square, api.F2{{}, {1}}))
			checkRoot(t, f, r, f.Conj2(square))
		}
	})
}

// P7.3: elements of one part alone, small ones of each sign: those of the first part all have a root, be it of the first or of the second part alone.
func TestSqrt2OfOnePart(t *testing.T) {
	each(t, func(t *testing.T, f *tower.Tower, r row) {
		kinds := [2]int{}
		for n := range int64(100) {
			for _, c := range []*big.Int{big.NewInt(n), big.NewInt(-n), sum(new(big.Int).Rsh(r.p, 1), n)} {
				checkRoot(t, f, r, r.two(c, new(big.Int)))
				checkRoot(t, f, r, r.two(new(big.Int), c))
				root, ok := f.Sqrt2(r.two(c, new(big.Int)))
				if !ok || root[0] != (api.Num{}) && root[1] != (api.Num{}) {
					t.Fatalf("Sqrt2 of %v is %x, %v", c, root, ok)
				}
				if root[1] != (api.Num{}) {
					kinds[1]++
				} else {
					kinds[0]++
				}
			}
		}
		if kinds[0] < 100 || kinds[1] < 100 {
			t.Errorf("roots of both kinds: %v", kinds)
		}
	})
}

// P7.3: what has no root is no square by Euler's rule too.
func TestNoSqrt2(t *testing.T) {
	each(t, func(t *testing.T, f *tower.Tower, r row) {
		half := new(big.Int).Rsh(sum(new(big.Int).Mul(r.p, r.p), -1), 1)
		m := mixer(77)
		for range 12 {
			a := api.F2{m.num(), m.num()}
			_, ok := f.Sqrt2(a)
			want := of2(api.F2{r.less(1)})
			if ok {
				want = f.One12()
			}
			same(t, r.back(r.power(r.whole(of2(a)), half)), want, "the power (p^2 - 1)/2", a)
		}
	})
}
