package pair_test

import (
	"bytes"
	"math/big"
	"testing"

	"quarry/api"
	"quarry/curve"
	"quarry/pair"
)

// The call has the signature that the chapter lists.
var _ func(curve int, a []api.P1, b []api.P2) (bool, api.Errno) = pair.One

// side is one of the two curves, with the order of its groups and their generators.
type side struct {
	name  string
	curve int
	order *big.Int
	g1    api.P1
	g2    api.P2
}

// sides are both.
func sides() []side {
	l := []side{{name: "Bn", curve: api.Bn}, {name: "Bls", curve: api.Bls}}
	for i, text := range []string{
		"30644e72e131a029b85045b68181585d2833e84879b9709143e1f593f0000001",
		"73eda753299d7d483339d80809a1d80553bda402fffe5bfeffffffff00000001",
	} {
		s := &l[i]
		s.order, _ = new(big.Int).SetString(text, 16)
		s.g1, _ = curve.Gen1(s.curve)
		s.g2, _ = curve.Gen2(s.curve)
	}
	return l
}

// each runs a test for each curve.
func each(t *testing.T, test func(t *testing.T, s side)) {
	t.Parallel()
	for _, s := range sides() {
		t.Run(s.name, func(t *testing.T) {
			t.Parallel()
			test(t, s)
		})
	}
}

func n(v int64) *big.Int { return big.NewInt(v) }

func plus(a *big.Int, more int64) *big.Int { return new(big.Int).Add(a, n(more)) }

func times(a, b *big.Int) *big.Int { return new(big.Int).Mul(a, b) }

func minus(a *big.Int) *big.Int { return new(big.Int).Neg(a) }

// first is k G1, second k G2, of k below 0 too.
func (s side) first(t *testing.T, k *big.Int) api.P1 {
	t.Helper()
	p, e := curve.Mul1(s.curve, s.g1, new(big.Int).Mod(k, s.order).Bytes())
	if e != api.OK {
		t.Fatalf("%v G1: %v", k, e)
	}
	return p
}

func (s side) second(t *testing.T, k *big.Int) api.P2 {
	t.Helper()
	p, e := curve.Mul2(s.curve, s.g2, new(big.Int).Mod(k, s.order).Bytes())
	if e != api.OK {
		t.Fatalf("%v G2: %v", k, e)
	}
	return p
}

// logs are the k and m of a pair k G1, m G2.
type logs struct{ k, m *big.Int }

// points are the pairs' points.
func (s side) points(t *testing.T, l []logs) ([]api.P1, []api.P2) {
	t.Helper()
	var a []api.P1
	var b []api.P2
	for _, x := range l {
		a, b = append(a, s.first(t, x.k)), append(b, s.second(t, x.m))
	}
	return a, b
}

// unity says whether the sum of the k m is 0 modulo the order.
func (s side) unity(l []logs) bool {
	sum := new(big.Int)
	for _, x := range l {
		sum.Add(sum, times(x.k, x.m))
	}
	return sum.Mod(sum, s.order).Sign() == 0
}

// must looks at One of points.
func (s side) must(t *testing.T, a []api.P1, b []api.P2, want bool, what ...any) {
	t.Helper()
	if got, e := pair.One(s.curve, a, b); got != want || e != api.OK {
		t.Errorf("One of %v: %v, %v, not %v", what, got, e, want)
	}
}

// check holds One of the pairs k G1, m G2 against their sum of k m.
func (s side) check(t *testing.T, l ...logs) {
	t.Helper()
	a, b := s.points(t, l)
	s.must(t, a, b, s.unity(l), l)
}

// refused looks at what One refuses.
func refused(t *testing.T, c int, a []api.P1, b []api.P2, want api.Errno, what ...any) {
	t.Helper()
	if got, e := pair.One(c, a, b); got || e != want {
		t.Errorf("One of curve %d, %v: %v, %v, not %v", c, what, got, e, want)
	}
}

// mixer tells numbers without any order, the same ones in each run.
type mixer uint64

func (m *mixer) next() uint64 {
	*m += 0x9e3779b97f4a7c15
	z := uint64(*m)
	z = (z ^ z>>30) * 0xbf58476d1ce4e5b9
	z = (z ^ z>>27) * 0x94d049bb133111eb
	return z ^ z>>31
}

// below is a number below p.
func (m *mixer) below(p *big.Int) *big.Int {
	var b bytes.Buffer
	for range 80 {
		b.WriteByte(byte(m.next()))
	}
	return new(big.Int).Mod(new(big.Int).SetBytes(b.Bytes()), p)
}

// odd1 are zeros of the first group with coordinates that must not count, odd2 those of the second one.
func odd1() []api.P1 {
	return []api.P1{{Inf: true}, {X: api.Num{1, 2, 3, 4, 5, 6}, Y: api.Num{9}, Inf: true}, {Y: api.Num{1<<64 - 1}, Inf: true}}
}

func odd2() []api.P2 {
	x := api.F2{{1, 2, 3, 4, 5, 6}, {7}}
	return []api.P2{{Inf: true}, {X: x, Y: x, Inf: true}, {X: api.F2{{}, {1}}, Inf: true}}
}
