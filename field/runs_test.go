package field_test

import (
	"math/big"
	"testing"

	"quarry/api"
	"quarry/field"
)

// known is one of the table's fields, and its row.
func known(t *testing.T, kind int) (*field.Field, row) {
	t.Helper()
	f, e := field.New(kind)
	if e != api.OK {
		t.Fatalf("New(%d): %v", kind, e)
	}
	return f, table()[kind-1]
}

// The chapter's table of runs, row by row.

func TestRunsOfNew(t *testing.T) {
	for _, kind := range []int{0, 7} {
		if f, e := field.New(kind); f != nil || e != api.ErrArg {
			t.Errorf("New(%d): %v, %v", kind, f, e)
		}
	}
}

func TestRunsOfBnP(t *testing.T) {
	f, r := known(t, api.BnP)
	less := num(sum(r.p, -1))
	for _, c := range []struct {
		call      string
		got, want api.Num
	}{
		{"Add(p - 1, 2)", f.Add(less, api.Num{2}), api.Num{1}},
		{"Sub(0, 1)", f.Sub(api.Num{}, api.Num{1}), less},
		{"Mul(p - 1, p - 1)", f.Mul(less, less), api.Num{1}},
		{"Neg(0)", f.Neg(api.Num{}), api.Num{}},
		{"Reduce(p)", f.Reduce(f.Modulus()), api.Num{}},
	} {
		if c.got != c.want {
			t.Errorf("%s is %x, must be %x", c.call, c.got, c.want)
		}
	}
}

func TestRunsOfSecpP(t *testing.T) {
	f, r := known(t, api.SecpP)
	none := api.Num{}
	for _, c := range []struct {
		call   string
		reckon func(api.Num) (api.Num, bool)
		a      *big.Int
		want   api.Num
		ok     bool
	}{
		{"Inv(2)", f.Inv, big.NewInt(2), num(new(big.Int).Rsh(sum(r.p, 1), 1)), true},
		{"Inv(0)", f.Inv, new(big.Int), none, false},
		{"Inv(p)", f.Inv, r.p, none, false},
		{"Sqrt(4)", f.Sqrt, big.NewInt(4), api.Num{2}, true},
		{"Sqrt(p - 1)", f.Sqrt, sum(r.p, -1), none, false},
		{"Sqrt(0)", f.Sqrt, new(big.Int), none, true},
	} {
		if got, ok := c.reckon(num(c.a)); got != c.want || ok != c.ok {
			t.Errorf("%s is %x, %v, must be %x, %v", c.call, got, ok, c.want, c.ok)
		}
	}
}

func TestRunsOfBlsR(t *testing.T) {
	f, r := known(t, api.BlsR)
	if a, ok := f.Sqrt(api.Num{4}); !ok || a != (api.Num{2}) {
		t.Errorf("Sqrt(4) is %x, %v", a, ok)
	}
	if a, ok := f.Sqrt(api.Num{5}); ok || a != (api.Num{}) {
		t.Errorf("Sqrt(5) is %x, %v", a, ok)
	}
	less := num(sum(r.p, -1))
	a, ok := f.Sqrt(less)
	if !ok || f.Mul(a, a) != less || value(a).Cmp(value(f.Neg(a))) >= 0 {
		t.Errorf("Sqrt(p - 1) is %x, %v", a, ok)
	}
}

func TestRunsOfBlsP(t *testing.T) {
	f, r := known(t, api.BlsP)
	less := sum(r.p, -1)
	for _, c := range []struct {
		call string
		b    []byte
		want api.Num
		e    api.Errno
	}{
		{"48 bytes of p", r.p.Bytes(), api.Num{}, api.ErrRange},
		{"48 bytes of p - 1", less.Bytes(), num(less), api.OK},
		{"32 bytes", make([]byte, 32), api.Num{}, api.ErrLength},
	} {
		if got, e := f.Decode(c.b); got != c.want || e != c.e {
			t.Errorf("Decode of %s is %x, %v, must be %x, %v", c.call, got, e, c.want, c.e)
		}
	}
}

func TestRunsOfExp(t *testing.T) {
	each(t, func(t *testing.T, f *field.Field, r row) {
		r.check(t, f.Exp(api.Num{3}, nil), big.NewInt(1), "Exp(3, none)")
		r.check(t, f.Exp(api.Num{}, nil), big.NewInt(1), "Exp(0, none)")
		r.check(t, f.Exp(api.Num{2}, []byte{1, 0}), power(256, 0), "Exp(2, 1 0)")
	})
}

// The chapter's examples.
func TestExamples(t *testing.T) {
	each(t, func(t *testing.T, f *field.Field, r row) {
		half := new(big.Int).Rsh(r.p, 1) // (p - 1)/2
		for _, a := range r.edges() {
			if root, _ := f.Sqrt(a); value(root).Cmp(half) > 0 {
				t.Errorf("Sqrt of %x is %x", a, root)
			}
			if b := f.Encode(a); len(b) != r.size {
				t.Errorf("Encode of %x is %x", a, b)
			}
		}
	})
}
