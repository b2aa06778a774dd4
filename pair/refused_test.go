package pair_test

import (
	"math"
	"math/big"
	"math/bits"
	"testing"

	"quarry/api"
	"quarry/curve"
	"quarry/field"
	"quarry/tower"
)

// prime is the kind of the field that the curve lies over.
func (s side) prime() int {
	if s.curve == api.Bn {
		return api.BnP
	}
	return api.BlsP
}

// over is a and the prime together.
func (s side) over(t *testing.T, a api.Num) api.Num {
	t.Helper()
	f, e := field.New(s.prime())
	if e != api.OK {
		t.Fatal(e)
	}
	p := f.Modulus()
	var more uint64
	for i := range a {
		a[i], more = bits.Add64(a[i], p[i], more)
	}
	return a
}

// off1 are points that are not on the first curve: in one bit, by a coordinate that is the same modulo the prime, of another curve.
func (s side) off1(t *testing.T) []api.P1 {
	g := s.first(t, n(5))
	l := []api.P1{{}, {X: g.X}, {Y: g.Y}, {X: g.Y, Y: g.X}, {X: s.over(t, g.X), Y: g.Y}, {X: g.X, Y: s.over(t, g.Y)}}
	for _, limb := range []int{0, 3, 5} {
		x, y := g, g
		x.X[limb] ^= 4
		y.Y[limb] ^= 4
		l = append(l, x, y)
	}
	for _, c := range []int{api.Secp, api.Bn, api.Bls} {
		if other, _ := curve.Gen1(c); c != s.curve {
			l = append(l, other)
		}
	}
	return l
}

// off2 are the same of the second curve.
func (s side) off2(t *testing.T) []api.P2 {
	g := s.second(t, n(5))
	l := []api.P2{{}, {X: g.X}, {Y: g.Y}, {X: g.Y, Y: g.X}, {X: api.F2{g.X[1], g.X[0]}, Y: api.F2{g.Y[1], g.Y[0]}}}
	for part := range 2 {
		x, y := g, g
		x.X[part] = s.over(t, x.X[part])
		y.Y[part] = s.over(t, y.Y[part])
		l = append(l, x, y)
		for _, limb := range []int{0, 3, 5} {
			x, y := g, g
			x.X[part][limb] ^= 4
			y.Y[part][limb] ^= 4
			l = append(l, x, y)
		}
	}
	for _, other := range sides() {
		if other.curve != s.curve {
			l = append(l, other.g2)
		}
	}
	return append(l, api.P2{X: api.F2{s.g1.X}, Y: api.F2{s.g1.Y}})
}

// stray1 are points of Bls' first curve that are not in the group: one of order 3, such of small X, and sums of these and the group's. Bn's has none.
func (s side) stray1(t *testing.T) []api.P1 {
	t.Helper()
	if s.curve == api.Bn {
		return nil
	}
	l := []api.P1{{Y: api.Num{2}}}
	f, _ := field.New(s.prime())
	for x := uint64(1); len(l) < 4; x++ {
		y, ok := f.Sqrt(f.Add(f.Exp(api.Num{x}, []byte{3}), api.Num{4}))
		if ok {
			l = append(l, api.P1{X: api.Num{x}, Y: y})
		}
	}
	for _, p := range l {
		sum, e := curve.Add1(s.curve, p, s.g1)
		if e != api.OK {
			t.Fatalf("%v is not on the curve", p)
		}
		l = append(l, sum)
	}
	for _, p := range l {
		if all, e := curve.Mul1(s.curve, p, s.order.Bytes()); e != api.OK || all.Inf {
			t.Fatalf("%v is in the group", p)
		}
	}
	return l
}

// stray2 are points of the second curve that are not in the group.
func (s side) stray2(t *testing.T) []api.P2 {
	t.Helper()
	f, _ := tower.New(s.curve)
	cube := func(x api.F2) api.F2 { return f.Mul2(f.Mul2(x, x), x) }
	b := f.Sub2(f.Mul2(s.g2.Y, s.g2.Y), cube(s.g2.X))
	var l []api.P2
	for x := uint64(1); len(l) < 3; x++ {
		x := api.F2{{x}, {x / 3}}
		if y, ok := f.Sqrt2(f.Add2(cube(x), b)); ok {
			l = append(l, api.P2{X: x, Y: y})
		}
	}
	for _, p := range l {
		sum, e := curve.Add2(s.curve, p, s.g2)
		if e != api.OK {
			t.Fatalf("%v is not on the curve", p)
		}
		l = append(l, sum)
	}
	for _, p := range l {
		if all, e := curve.Mul2(s.curve, p, s.order.Bytes()); e != api.OK || all.Inf {
			t.Fatalf("%v is in the group", p)
		}
	}
	return l
}

// P9.1: ErrArg of all curves but two, ahead of all else.
func TestNoCurve(t *testing.T) {
	s := sides()[0]
	for _, c := range []int{math.MinInt, -1, 0, api.Secp, api.Bls + 1, 5, 6, 1 << 32, 1<<32 + api.Bn, math.MaxInt} {
		refused(t, c, nil, nil, api.ErrArg, "no pairs")
		refused(t, c, []api.P1{s.g1}, []api.P2{s.g2}, api.ErrArg, "a pair")
		refused(t, c, []api.P1{s.g1}, nil, api.ErrArg, "a point alone")
		refused(t, c, []api.P1{{}}, []api.P2{{}}, api.ErrArg, "points that are not on the curve")
		refused(t, c, nil, []api.P2{{}}, api.ErrArg, "a point alone that is not on the curve")
	}
}

// P9.1: ErrLength, whatever the points are.
func TestLength(t *testing.T) {
	each(t, func(t *testing.T, s side) {
		for _, p := range append(append([]api.P1{s.g1, {Inf: true}, {}}, s.off1(t)...), s.stray1(t)...) {
			for _, q := range []api.P2{s.g2, {Inf: true}, {}, s.stray2(t)[0]} {
				for i := range 4 {
					for j := range 4 {
						a, b := []api.P1{p, p, p}[:i], []api.P2{q, q, q}[:j]
						if i != j {
							refused(t, s.curve, a, b, api.ErrLength, i, "and", j, "points")
						}
					}
				}
			}
		}
		refused(t, s.curve, make([]api.P1, 1000), make([]api.P2, 999), api.ErrLength, "many points")
	})
}

// reject looks at pairs with one of the points, alone, beside a zero too, and at the end.
func (s side) reject(t *testing.T, l []api.P1, others []api.P2, want api.Errno) {
	t.Helper()
	zero1, zero2 := api.P1{Inf: true}, api.P2{Inf: true}
	for i, p := range l {
		refused(t, s.curve, []api.P1{p}, []api.P2{s.g2}, want, "point", i)
		refused(t, s.curve, []api.P1{p}, []api.P2{zero2}, want, "point", i, "beside zero")
		refused(t, s.curve, []api.P1{s.g1, zero1, p}, []api.P2{s.g2, zero2, s.g2}, want, "point", i, "at the end")
	}
	for i, q := range others {
		refused(t, s.curve, []api.P1{s.g1}, []api.P2{q}, want, "second point", i)
		refused(t, s.curve, []api.P1{zero1}, []api.P2{q}, want, "second point", i, "beside zero")
		refused(t, s.curve, []api.P1{s.g1, zero1, s.g1}, []api.P2{s.g2, zero2, q}, want, "second point", i, "at the end")
	}
}

// P9.1: ErrCurve, of each side.
func TestNotOnCurve(t *testing.T) {
	each(t, func(t *testing.T, s side) { s.reject(t, s.off1(t), s.off2(t), api.ErrCurve) })
}

// P9.1: ErrGroup, of each side.
func TestNotInGroup(t *testing.T) {
	each(t, func(t *testing.T, s side) { s.reject(t, s.stray1(t), s.stray2(t), api.ErrGroup) })
}

// P9.1: of several points that are refused the first one counts, pair by pair, the point of a ahead of that of b.
func TestFirstRefused(t *testing.T) {
	each(t, func(t *testing.T, s side) {
		p, off1, q := s.first(t, n(-2)), s.off1(t)[6], s.second(t, n(3))
		off2, out2 := s.off2(t)[6], s.stray2(t)[0]
		kinds := []api.Errno{api.OK, api.ErrCurve, api.ErrGroup}
		ones, others := map[api.Errno]api.P1{api.OK: p, api.ErrCurve: off1}, map[api.Errno]api.P2{api.OK: q, api.ErrCurve: off2, api.ErrGroup: out2}
		for _, out1 := range s.stray1(t) {
			ones[api.ErrGroup] = out1
		}
		for i := range 81 {
			row := []api.Errno{kinds[i%3], kinds[i/3%3], kinds[i/9%3], kinds[i/27]}
			want := api.OK
			for _, e := range row {
				if want == api.OK {
					want = e
				}
			}
			if len(ones) < 3 && (row[0] == api.ErrGroup || row[2] == api.ErrGroup) {
				continue
			}
			a, b := []api.P1{ones[row[0]], ones[row[2]]}, []api.P2{others[row[1]], others[row[3]]}
			if want == api.OK {
				s.must(t, a, b, false, row)
			} else {
				refused(t, s.curve, a, b, want, row)
			}
		}
	})
}

// P9.1: opposites that are not in the group are refused too, though what they add is nothing.
func TestRefusedOpposites(t *testing.T) {
	each(t, func(t *testing.T, s side) {
		for _, q := range s.stray2(t) {
			turned, _ := curve.Neg2(s.curve, q)
			refused(t, s.curve, []api.P1{s.g1, s.g1}, []api.P2{q, turned}, api.ErrGroup, "opposites that are not in the second group")
		}
		for _, p := range s.stray1(t) {
			turned, _ := curve.Neg1(s.curve, p)
			refused(t, s.curve, []api.P1{p, turned}, []api.P2{s.g2, s.g2}, api.ErrGroup, "opposites that are not in the group")
		}
	})
}

// R2, R4: points stand as they stood, behind the lists' ends too; what was asked ahead does not count; nil and empty lists are one.
func TestMemory(t *testing.T) {
	each(t, func(t *testing.T, s side) {
		s.must(t, []api.P1{}, nil, true, "an empty list and none")
		s.must(t, nil, []api.P2{}, true, "none and an empty list")
		a, b := s.points(t, []logs{{n(2), n(3)}, {n(-6), n(1)}, {n(0), n(1)}})
		a, b = append(a, odd1()[1], s.off1(t)[6]), append(b, s.g2, s.stray2(t)[0])
		before, other := append([]api.P1{}, a...), append([]api.P2{}, b...)
		same := func() bool {
			for i := range a {
				if a[i] != before[i] || b[i] != other[i] {
					return false
				}
			}
			return true
		}
		for range 2 {
			for i, want := range []bool{true, false, true, true, true} {
				s.must(t, a[:i], b[:i], want, i, "pairs")
			}
			refused(t, s.curve, a, b, api.ErrCurve, "five pairs")
			refused(t, s.curve, a[:2], b, api.ErrLength, "two and five points")
			if !same() {
				t.Fatal("points were changed")
			}
		}
		b[0] = s.second(t, big.NewInt(4))
		s.must(t, a[:2], b[:2], false, "changed pairs")
		b[1] = s.second(t, new(big.Int).Mul(n(4), new(big.Int).ModInverse(n(3), s.order)))
		s.must(t, a[:2], b[:2], true, "changed pairs")
	})
}
