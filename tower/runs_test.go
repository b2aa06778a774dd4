package tower_test

import (
	"testing"

	"quarry/api"
	"quarry/tower"
)

// The chapter's table of runs, row by row.

func TestRunsOfTwo(t *testing.T) {
	r := table()[0]
	f, _ := tower.New(api.Bn)
	u := api.F2{{}, {1}}
	if got := f.Mul2(u, u); got != (api.F2{r.less(1)}) {
		t.Errorf("Mul2(0 1, 0 1) is %x", got)
	}
	if got := f.Conj2(api.F2{{3}, {4}}); got != (api.F2{{3}, r.less(4)}) {
		t.Errorf("Conj2(3 4) is %x", got)
	}
	if got, ok := f.Inv2(api.F2{}); ok || got != (api.F2{}) {
		t.Errorf("Inv2(0 0) is %x, %v", got, ok)
	}
}

func TestRunsOfSix(t *testing.T) {
	each(t, func(t *testing.T, f *tower.Tower, r row) {
		want := api.F6{{{uint64(r.s)}, {1}}}
		if got := f.Mul6(api.F6{2: {{1}}}, api.F6{1: {{1}}}); got != want {
			t.Errorf("Mul6(0 0 1, 0 1 0) is %x", got)
		}
	})
}

func TestRunsOfTwelve(t *testing.T) {
	each(t, func(t *testing.T, f *tower.Tower, r row) {
		w := api.F12{1: {{{1}}}}
		same(t, f.Mul12(w, w), api.F12{{1: {{1}}}}, "Mul12", w, w)
	})
}

func TestRunsOfSqrt2(t *testing.T) {
	each(t, func(t *testing.T, f *tower.Tower, r row) {
		for _, c := range []struct{ a, want api.F2 }{
			{api.F2{r.less(1)}, api.F2{{}, {1}}},
			{api.F2{{4}}, api.F2{{2}}},
			{api.F2{}, api.F2{}},
		} {
			if got, ok := f.Sqrt2(c.a); !ok || got != c.want {
				t.Errorf("Sqrt2 of %x is %x, %v", c.a, got, ok)
			}
		}
	})
}

func TestRunsOfNew(t *testing.T) {
	for _, curve := range []int{api.Secp, 0} {
		if f, e := tower.New(curve); f != nil || e != api.ErrArg {
			t.Errorf("New(%d): %v, %v", curve, f, e)
		}
	}
}

// The chapter's examples.
func TestExamples(t *testing.T) {
	each(t, func(t *testing.T, f *tower.Tower, r row) {
		for _, x := range r.twelves() {
			same(t, f.Exp12(x, nil), f.One12(), "Exp12 to none", x)
			for _, times := range []int{0, 12, -12} {
				same(t, f.Frob12(x, times), r.reduced(x), "Frob12", x, times)
			}
		}
	})
}
