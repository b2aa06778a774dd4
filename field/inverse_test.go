package field_test

import (
	"math/big"
	"testing"

	"quarry/api"
	"quarry/field"
)

// checkInverse holds Inv of a against math/big, and against what the promise says of it.
func checkInverse(t *testing.T, f *field.Field, r row, a api.Num) {
	t.Helper()
	rest := new(big.Int).Mod(value(a), r.p)
	got, ok := f.Inv(a)
	if rest.Sign() == 0 {
		if ok || got != (api.Num{}) {
			t.Fatalf("Inv of %x is %x, %v", a, got, ok)
		}
		return
	}
	if !ok {
		t.Fatalf("Inv of %x: there is none", a)
	}
	r.check(t, got, new(big.Int).ModInverse(rest, r.p), "Inv", a)
	if f.Mul(a, got) != (api.Num{1}) {
		t.Fatalf("%x times its inverse %x is not 1", a, got)
	}
}

// P6.3, Inv: small numbers, the edges, what is missing from them to 0, powers of 2 and their inverses, and numbers without any order.
func TestInv(t *testing.T) {
	each(t, func(t *testing.T, f *field.Field, r row) {
		for i := range uint64(300) {
			checkInverse(t, f, r, api.Num{i})
			checkInverse(t, f, r, f.Neg(api.Num{i}))
		}
		for _, a := range r.edges() {
			checkInverse(t, f, r, a)
			checkInverse(t, f, r, f.Neg(a))
		}
		for i := range uint(384) {
			a := num(power(i, 0))
			b, _ := f.Inv(a)
			checkInverse(t, f, r, a)
			checkInverse(t, f, r, b)
		}
		m := mixer(19)
		for i := range 500 {
			checkInverse(t, f, r, m.num(i%384+1))
		}
	})
}

// P6.3: each multiple of the prime is 0, and has no inverse.
func TestInvOfZero(t *testing.T) {
	each(t, func(t *testing.T, f *field.Field, r row) {
		n := new(big.Int)
		for times := 0; n.BitLen() <= 384 && times < 12; times++ {
			checkInverse(t, f, r, num(n))
			n.Add(n, r.p)
		}
		checkInverse(t, f, r, num(new(big.Int).Mul(r.p, new(big.Int).Div(power(384, -1), r.p))))
	})
}
