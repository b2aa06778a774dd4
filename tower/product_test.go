package tower_test

import (
	"testing"

	"quarry/api"
	"quarry/tower"
)

// P7.2, Mul6: each of the elements with each other one.
func TestMul6(t *testing.T) {
	each(t, func(t *testing.T, f *tower.Tower, r row) {
		l := r.sixes()
		for i, a := range l {
			for j, b := range l {
				if i > 40 && (i+j)%7 > 0 && i != j {
					continue
				}
				same(t, of6(f.Mul6(a, b)), r.product(of6(a), of6(b)), "Mul6", a, b)
			}
		}
	})
}

// P7.2, Mul12: each of the elements with each other one, and with itself in two writings.
func TestMul12(t *testing.T) {
	each(t, func(t *testing.T, f *tower.Tower, r row) {
		l := r.twelves()
		for i, a := range l {
			reduced := r.reduced(a)
			want := r.product(a, a)
			same(t, f.Mul12(a, a), want, "Mul12 with itself", a)
			same(t, f.Mul12(a, reduced), want, "Mul12 with itself", a)
			same(t, f.Mul12(reduced, reduced), want, "Mul12 with itself", a)
			for j, b := range l {
				if (i+j)%3 == 0 {
					same(t, f.Mul12(a, b), r.product(a, b), "Mul12", a, b)
				}
			}
		}
	})
}

// P7.2, Inv6: 0 of 0 alone, in whatever writing.
func TestInv6(t *testing.T) {
	each(t, func(t *testing.T, f *tower.Tower, r row) {
		for _, a := range r.sixes() {
			got, ok := f.Inv6(a)
			if zero := r.reduced(of6(a)) == (api.F12{}); ok == zero || !ok && got != (api.F6{}) {
				t.Fatalf("Inv6 of %x is %x, %v", a, got, ok)
			}
			if ok {
				same(t, r.product(of6(a), of6(got)), f.One12(), "a times Inv6", a)
				same(t, r.reduced(of6(got)), of6(got), "Inv6, modulo p,", a)
			}
		}
	})
}

// P7.2, Inv12 and Conj12.
func TestInv12AndConj12(t *testing.T) {
	each(t, func(t *testing.T, f *tower.Tower, r row) {
		for _, a := range r.twelves() {
			got, ok := f.Inv12(a)
			if zero := r.reduced(a) == (api.F12{}); ok == zero || !ok && got != (api.F12{}) {
				t.Fatalf("Inv12 of %x is %x, %v", a, got, ok)
			}
			if ok {
				same(t, r.product(a, got), f.One12(), "a times Inv12", a)
				same(t, r.reduced(got), got, "Inv12, modulo p,", a)
			}
			conjugate := r.reduced(a)
			for i := range 3 {
				conjugate[1][i] = r.opposite(conjugate[1][i])
			}
			same(t, f.Conj12(a), conjugate, "Conj12", a)
		}
	})
}

// P7.2: the rules of fields hold among answers: brackets do not count, nor the order, and products go over sums.
func TestFieldRules(t *testing.T) {
	each(t, func(t *testing.T, f *tower.Tower, r row) {
		l := r.twelves()
		for i, a := range l {
			b, c := l[(7*i+3)%len(l)], l[(11*i+5)%len(l)]
			same(t, f.Mul12(a, b), f.Mul12(b, a), "Mul12", a, b)
			same(t, f.Mul12(f.Mul12(a, b), c), f.Mul12(a, f.Mul12(b, c)), "Mul12", a, b, c)
			x, y, z := a[0], b[1], c[0]
			same(t, of6(f.Mul6(x, y)), of6(f.Mul6(y, x)), "Mul6", x, y)
			same(t, of6(f.Mul6(f.Mul6(x, y), z)), of6(f.Mul6(x, f.Mul6(y, z))), "Mul6", x, y, z)
			var sum, parts api.F6
			left, right := f.Mul6(x, y), f.Mul6(x, z)
			for j := range sum {
				sum[j] = f.Add2(y[j], z[j])
				parts[j] = f.Add2(left[j], right[j])
			}
			same(t, of6(f.Mul6(x, sum)), of6(parts), "Mul6 of a sum", x, y, z)
		}
	})
}
