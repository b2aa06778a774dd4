package field_test

import (
	"bytes"
	"math/big"
	"testing"

	"quarry/api"
	"quarry/field"
)

// checkPower holds Exp against math/big, with zeros ahead and without.
func checkPower(t *testing.T, f *field.Field, r row, a api.Num, e []byte) {
	t.Helper()
	want := new(big.Int).Exp(value(a), new(big.Int).SetBytes(e), r.p)
	r.check(t, f.Exp(a, e), want, "Exp", a)
	r.check(t, f.Exp(a, append(make([]byte, 9), e...)), want, "Exp with zeros ahead", a)
}

// P6.2, Exp: the edges to small powers, to powers about the prime, and to long ones.
func TestExp(t *testing.T) {
	each(t, func(t *testing.T, f *field.Field, r row) {
		m := mixer(11)
		powers := [][]byte{nil, {}, {0}, {0, 0, 0}, {1}, {2}, {3}, {7}, {8}, {255}, {1, 0}, {1, 1}, {0x80, 0, 0}, m.bytes(8), m.bytes(9)}
		for more := range int64(5) {
			powers = append(powers, sum(r.p, more-3).Bytes())
		}
		for _, a := range r.edges() {
			for _, e := range powers {
				checkPower(t, f, r, a, e)
			}
		}
		for _, a := range r.few() {
			checkPower(t, f, r, a, m.bytes(32))
			checkPower(t, f, r, a, m.bytes(100))
			checkPower(t, f, r, a, bytes.Repeat([]byte{255}, 60))
		}
		checkPower(t, f, r, m.num(384), m.bytes(3000))
	})
}

// P6.2: 0, and each multiple of the prime, is 1 to the power 0, and 0 to each other one.
func TestPowersOfZero(t *testing.T) {
	each(t, func(t *testing.T, f *field.Field, r row) {
		less := sum(r.p, -1)
		for times := range int64(4) {
			zero := num(new(big.Int).Mul(r.p, big.NewInt(times)))
			for _, e := range [][]byte{nil, {0}, make([]byte, 50)} {
				r.check(t, f.Exp(zero, e), big.NewInt(1), "Exp to the power 0", zero)
			}
			for _, e := range [][]byte{{1}, {0, 2}, less.Bytes(), new(big.Int).Mul(less, less).Bytes()} {
				r.check(t, f.Exp(zero, e), new(big.Int), "Exp", zero)
			}
		}
	})
}

// checkRoot holds Sqrt of a against math/big.
func checkRoot(t *testing.T, f *field.Field, r row, a api.Num) {
	t.Helper()
	rest := new(big.Int).Mod(value(a), r.p)
	got, ok := f.Sqrt(a)
	if ok != (big.Jacobi(rest, r.p) >= 0) {
		t.Fatalf("Sqrt of %x: %v", a, ok)
	}
	if !ok {
		if got != (api.Num{}) {
			t.Fatalf("Sqrt of %x is refused, and tells %x", a, got)
		}
		return
	}
	want := new(big.Int).ModSqrt(rest, r.p)
	if other := new(big.Int).Sub(r.p, want); other.Cmp(want) < 0 {
		want = other
	}
	if value(got).Cmp(want) != 0 {
		t.Fatalf("Sqrt of %x is %x, must be %x", a, got, want)
	}
}

// P6.3, Sqrt: the edges, their squares and what is missing from these to 0, and small numbers.
func TestSqrt(t *testing.T) {
	each(t, func(t *testing.T, f *field.Field, r row) {
		for i := range uint64(60) {
			checkRoot(t, f, r, api.Num{i})
			checkRoot(t, f, r, f.Neg(api.Num{i}))
		}
		for _, a := range r.edges() {
			square := f.Mul(a, a)
			if root, ok := f.Sqrt(square); !ok || root != f.Reduce(a) && root != f.Neg(a) {
				t.Fatalf("Sqrt of the square of %x is %x, %v", a, root, ok)
			}
			checkRoot(t, f, r, a)
			checkRoot(t, f, r, square)
			checkRoot(t, f, r, f.Neg(square))
		}
	})
}

// P6.3: the roots of 1 of each order 2^n that there is, which take Tonelli's way through each turn, alone and times a square; where p is 3 modulo 4, there are none but 1 and p - 1.
func TestSqrtOfRootsOfOne(t *testing.T) {
	each(t, func(t *testing.T, f *field.Field, r row) {
		m := mixer(13)
		odd := sum(r.p, -1)
		for odd.Bit(0) == 0 {
			odd.Rsh(odd, 1)
		}
		for n := range uint64(12) {
			unity := f.Exp(api.Num{n + 2}, odd.Bytes())
			for turns := 0; unity != (api.Num{1}); turns++ {
				if turns > 40 {
					t.Fatalf("%d to the power %x is no root of 1", n+2, odd)
				}
				b := m.num(384)
				checkRoot(t, f, r, unity)
				checkRoot(t, f, r, f.Mul(unity, f.Mul(b, b)))
				unity = f.Mul(unity, unity)
			}
		}
	})
}

// P6.3, Sqrt: numbers without any order, and multiples of the prime, whose root is 0.
func TestMixedSqrt(t *testing.T) {
	each(t, func(t *testing.T, f *field.Field, r row) {
		m := mixer(17)
		for i := range int64(60) {
			checkRoot(t, f, r, m.num(384))
			if root, ok := f.Sqrt(num(new(big.Int).Mul(r.p, big.NewInt(i%5)))); !ok || root != (api.Num{}) {
				t.Fatalf("Sqrt of %d p is %x, %v", i%5, root, ok)
			}
		}
	})
}
