package sign_test

import (
	"math/big"
	"testing"

	"quarry/api"
	"quarry/sign"
)

// Secp's group and the chapter's promises over math/big, slope by slope.

// dot is a point; zero's x is nil.
type dot struct{ x, y *big.Int }

func (d dot) zero() bool { return d.x == nil }

// point is the dot as api has it.
func (d dot) point() api.P1 {
	if d.zero() {
		return api.P1{Inf: true}
	}
	return api.P1{X: num(d.x), Y: num(d.y)}
}

// gen is Secp's generator.
func gen() dot {
	return dot{unhex("79be667ef9dcbbac55a06295ce870b07029bfcdb2dce28d959f2815b16f81798"), unhex("483ada7726a3c4655da4fbfc0e1108a8fd17b448a68554199c47d08ffb10d4b8")}
}

func over(a, b, p *big.Int) *big.Int { return mod(times(a, new(big.Int).ModInverse(mod(b, p), p)), p) }

func sum(d, o dot) dot {
	if d.zero() {
		return o
	}
	if o.zero() {
		return d
	}
	p := prime()
	rise, run := minus(o.y, d.y), minus(o.x, d.x)
	if run.Sign() == 0 {
		if plus(d.y, o.y).Cmp(p) == 0 {
			return dot{}
		}
		rise, run = times(n(3), times(d.x, d.x)), times(n(2), d.y)
	}
	slope := over(rise, run, p)
	x := mod(minus(minus(times(slope, slope), d.x), o.x), p)
	return dot{x, mod(minus(times(slope, minus(d.x, x)), d.y), p)}
}

func opposite(d dot) dot {
	if d.zero() {
		return d
	}
	return dot{d.x, minus(prime(), d.y)}
}

// many is d, k times.
func many(d dot, k *big.Int) dot {
	var all dot
	for i := k.BitLen() - 1; i >= 0; i-- {
		all = sum(all, all)
		if k.Bit(i) == 1 {
			all = sum(all, d)
		}
	}
	return all
}

// upon is the point with that x whose y is odd or even, if there is one.
func upon(x *big.Int, odd bool) (dot, bool) {
	right := mod(plus(times(x, times(x, x)), n(7)), prime())
	y := new(big.Int).ModSqrt(right, prime())
	if y == nil {
		return dot{}, false
	}
	if (y.Bit(0) == 1) != odd {
		y = minus(prime(), y)
	}
	return dot{x, y}, true
}

// within: is it from 1 to n - 1?
func within(v *big.Int) bool { return v.Sign() > 0 && v.Cmp(order()) < 0 }

// mark is what Sign tells.
type mark struct {
	odd  bool
	r, s *big.Int
	e    api.Errno
}

// lost is what a refusal tells.
func lost(e api.Errno) mark { return mark{false, n(0), n(0), e} }

// signed is P11.2.
func signed(hash api.Hash, key, nonce *big.Int) mark {
	if !within(key) || !within(nonce) {
		return lost(api.ErrRange)
	}
	p := many(gen(), nonce)
	r := mod(p.x, order())
	s := over(plus(of(hash), times(r, key)), nonce, order())
	if r.Sign() == 0 || s.Sign() == 0 || p.x.Cmp(order()) >= 0 {
		return lost(api.ErrArg)
	}
	m := mark{p.y.Bit(0) == 1, r, s, api.OK}
	if times(s, n(2)).Cmp(order()) > 0 {
		m.odd, m.s = !m.odd, minus(order(), s)
	}
	return m
}

// found is P11.3.
func found(hash api.Hash, odd bool, r, s *big.Int) (dot, api.Errno) {
	if !within(r) || !within(s) {
		return dot{}, api.ErrRange
	}
	p, ok := upon(r, odd)
	if !ok {
		return dot{}, api.ErrCurve
	}
	all := sum(many(p, s), opposite(many(gen(), of(hash))))
	q := many(all, new(big.Int).ModInverse(r, order()))
	if q.zero() {
		return dot{}, api.ErrGroup
	}
	return q, api.OK
}

// mustSign looks at what Sign tells, and tells it.
func mustSign(t *testing.T, hash api.Hash, key, nonce *big.Int) mark {
	t.Helper()
	odd, r, s, e := sign.Sign(hash, w(key), w(nonce))
	want := signed(hash, key, nonce)
	if odd != want.odd || r != w(want.r) || s != w(want.s) || e != want.e {
		t.Errorf("Sign(%x, %x, %x): %v %x %x %v, not %v %x %x %v", hash, key, nonce, odd, big1(r), big1(s), e, want.odd, want.r, want.s, want.e)
	}
	return want
}

// mustRecover looks at what Recover tells, and tells it.
func mustRecover(t *testing.T, hash api.Hash, odd bool, r, s *big.Int) (api.P1, api.Errno) {
	t.Helper()
	got, e := sign.Recover(hash, odd, w(r), w(s))
	d, wantE := found(hash, odd, r, s)
	want := d.point()
	if wantE != api.OK {
		want = api.P1{}
	}
	if got != want || e != wantE {
		t.Errorf("Recover(%x, %v, %x, %x): %v %v, not %v %v", hash, odd, r, s, got, e, want, wantE)
	}
	return want, wantE
}
