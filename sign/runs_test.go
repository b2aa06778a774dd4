package sign_test

import (
	"testing"

	"quarry/api"
	"quarry/sign"
)

// The chapter's table of runs, row by row.

func TestRunsOfAddress(t *testing.T) {
	t.Parallel()
	p, e := sign.Public(api.Word{1})
	if p != gen().point() || e != api.OK {
		t.Errorf("Public(1): %v %v", p, e)
	}
	if a, e := sign.Address(p); a != address(t, "7e5f4552091a69125d5dfcb7b8c2659029395bdf") || e != api.OK {
		t.Errorf("its address: %x %v", a, e)
	}
	if a, e := sign.Address(api.P1{Inf: true}); a != (api.Address{}) || e != api.ErrCurve {
		t.Errorf("zero's: %x %v", a, e)
	}
}

func TestRunsOfRange(t *testing.T) {
	t.Parallel()
	var m mixer = 30
	hash := m.hash()
	_, e := sign.Public(api.Word{})
	_, e2 := sign.Public(w(order()))
	_, _, _, e3 := sign.Sign(hash, api.Word{}, api.Word{1})
	_, _, _, e4 := sign.Sign(hash, api.Word{1}, w(order()))
	for i, e := range []api.Errno{e, e2, e3, e4} {
		if e != api.ErrRange {
			t.Error(i, e)
		}
	}
}

func TestRunsOfRecover(t *testing.T) {
	t.Parallel()
	var m mixer = 31
	hash := m.hash()
	p, e := sign.Recover(hash, false, api.Word{}, api.Word{1})
	p2, e2 := sign.Recover(hash, true, api.Word{1}, w(order()))
	p3, e3 := sign.Recover(hash, false, api.Word{5}, api.Word{1})
	if e != api.ErrRange || e2 != api.ErrRange || e3 != api.ErrCurve {
		t.Error(e, e2, e3)
	}
	for _, p := range []api.P1{p, p2, p3} {
		if p != (api.P1{}) {
			t.Errorf("a point beside an error: %v", p)
		}
	}
}

func TestRunsOfLow(t *testing.T) {
	t.Parallel()
	if !sign.Low(w(half())) || sign.Low(w(plus(half(), n(1)))) {
		t.Error("about the middle:", sign.Low(w(half())), sign.Low(w(plus(half(), n(1)))))
	}
}
