package field_test

import (
	"math/big"
	"testing"

	"quarry/api"
	"quarry/field"
)

// checkOne holds the calls of one number against math/big (P6.2).
func checkOne(t *testing.T, f *field.Field, r row, a api.Num) {
	t.Helper()
	n := value(a)
	r.check(t, f.Reduce(a), n, "Reduce", a)
	r.check(t, f.Neg(a), new(big.Int).Neg(n), "Neg", a)
	r.check(t, f.Mul(a, a), new(big.Int).Mul(n, n), "Mul", a, a)
}

// checkTwo holds the calls of two numbers against math/big (P6.2).
func checkTwo(t *testing.T, f *field.Field, r row, a, b api.Num) {
	t.Helper()
	x, y := value(a), value(b)
	r.check(t, f.Add(a, b), new(big.Int).Add(x, y), "Add", a, b)
	r.check(t, f.Sub(a, b), new(big.Int).Sub(x, y), "Sub", a, b)
	r.check(t, f.Mul(a, b), new(big.Int).Mul(x, y), "Mul", a, b)
}

// P6.2, each edge with each other one, and with itself.
func TestSums(t *testing.T) {
	each(t, func(t *testing.T, f *field.Field, r row) {
		l := r.edges()
		for _, a := range l {
			checkOne(t, f, r, a)
			for _, b := range l {
				checkTwo(t, f, r, a, b)
			}
		}
	})
}

// P6.2, numbers of limbs that are all 0, or all 1, or nearly so.
func TestSumsOfCorners(t *testing.T) {
	each(t, func(t *testing.T, f *field.Field, r row) {
		l := corners()
		for i, a := range l {
			checkOne(t, f, r, a)
			checkTwo(t, f, r, a, l[(i*2731+1)%len(l)])
		}
	})
}

// P6.2, small numbers, and those about multiples of the prime.
func TestSmallSums(t *testing.T) {
	each(t, func(t *testing.T, f *field.Field, r row) {
		for i := range int64(12) {
			for j := range int64(12) {
				for times := range int64(4) {
					a := num(sum(new(big.Int).Mul(r.p, big.NewInt(times)), i))
					b := num(new(big.Int).Sub(new(big.Int).Mul(r.p, big.NewInt(times+1)), big.NewInt(j)))
					checkTwo(t, f, r, a, b)
					checkTwo(t, f, r, b, a)
				}
			}
		}
	})
}

// P6.2, numbers without any order.
func TestMixedSums(t *testing.T) {
	each(t, func(t *testing.T, f *field.Field, r row) {
		m := mixer(100 + r.kind)
		for i := range 1500 {
			a, b := m.num(384), m.num(256+i%129)
			checkOne(t, f, r, a)
			checkTwo(t, f, r, a, b)
			checkTwo(t, f, r, num(new(big.Int).Mod(value(b), r.p)), num(new(big.Int).Mod(value(a), r.p)))
		}
	})
}

// P6.2: all multiples of the prime that a Num holds are 0, near its upper end too.
func TestMultiples(t *testing.T) {
	each(t, func(t *testing.T, f *field.Field, r row) {
		m := mixer(7)
		most := new(big.Int).Div(power(384, -1), r.p)
		for range 300 {
			times := new(big.Int).Mod(value(m.num(384)), sum(most, 1))
			for _, n := range []*big.Int{times, new(big.Int).Sub(most, new(big.Int).Rsh(times, uint(most.BitLen()-3)))} {
				n := new(big.Int).Mul(n, r.p)
				if got := f.Reduce(num(n)); got != (api.Num{}) {
					t.Fatalf("Reduce(%x) is %x", n, got)
				}
				if got := f.Neg(num(n)); got != (api.Num{}) {
					t.Fatalf("Neg(%x) is %x", n, got)
				}
				checkTwo(t, f, r, num(n), num(sum(n, -1)))
			}
		}
	})
}
