package curve_test

import (
	"bytes"
	"math"
	"math/big"
	"testing"

	"quarry/api"
	"quarry/curve"
)

// The numbers of points by which these tests take what goes beyond are those of the curves: none of them has another number near p + 1 by which all points come to zero.
func TestWhole(t *testing.T) {
	each(t, func(t *testing.T, s side) {
		size := new(big.Int).Set(s.p)
		if s.second {
			size.Mul(size, size)
		}
		away := new(big.Int).Sub(s.whole, plus(size, 1))
		if away.Mul(away, away).Cmp(new(big.Int).Lsh(size, 2)) > 0 {
			t.Errorf("there can't be %x points", s.whole)
		}
		for _, d := range s.dots() {
			if !s.many(d, s.whole).inf {
				t.Errorf("%x times %v is not zero", s.whole, d)
			}
		}
	})
}

// P8.1
func TestGen(t *testing.T) {
	each(t, func(t *testing.T, s side) {
		if d, e := s.Gen(); e != api.OK || !d.same(s.gen) {
			t.Errorf("Gen: %v, %v", d, e)
		}
	})
}

// none of these is a curve.
var noCurves = []int{math.MinInt, -3, -2, -1, 0, 4, 5, 6, 7, 1 << 32, 1<<32 + 2, math.MaxInt}

// P8.1, P8.2: where there is no curve, ErrArg comes ahead of what points are.
func TestNoCurve(t *testing.T) {
	gen, _ := curve.Gen1(api.Bls)
	for _, c := range noCurves {
		for _, p := range []api.P1{gen, {Inf: true}, {}, {X: api.Num{5}}} {
			if q, e := curve.Gen1(c); e != api.ErrArg || q != (api.P1{}) {
				t.Errorf("Gen1(%d): %v, %v", c, q, e)
			}
			if curve.On1(c, p) || curve.In1(c, p) {
				t.Errorf("On1, In1(%d, %v)", c, p)
			}
			if q, e := curve.Neg1(c, p); e != api.ErrArg || q != (api.P1{}) {
				t.Errorf("Neg1(%d, %v): %v, %v", c, p, q, e)
			}
			if q, e := curve.Add1(c, p, gen); e != api.ErrArg || q != (api.P1{}) {
				t.Errorf("Add1(%d, %v): %v, %v", c, p, q, e)
			}
			if q, e := curve.Mul1(c, p, []byte{3}); e != api.ErrArg || q != (api.P1{}) {
				t.Errorf("Mul1(%d, %v): %v, %v", c, p, q, e)
			}
		}
	}
}

// P8.1, P8.2: Secp has no second curve.
func TestNoSecond(t *testing.T) {
	gen, _ := curve.Gen2(api.Bls)
	for _, c := range append([]int{api.Secp}, noCurves...) {
		for _, p := range []api.P2{gen, {Inf: true}, {}, {X: api.F2{{5}}}} {
			if q, e := curve.Gen2(c); e != api.ErrArg || q != (api.P2{}) {
				t.Errorf("Gen2(%d): %v, %v", c, q, e)
			}
			if curve.On2(c, p) || curve.In2(c, p) {
				t.Errorf("On2, In2(%d, %v)", c, p)
			}
			if q, e := curve.Neg2(c, p); e != api.ErrArg || q != (api.P2{}) {
				t.Errorf("Neg2(%d, %v): %v, %v", c, p, q, e)
			}
			if q, e := curve.Add2(c, p, gen); e != api.ErrArg || q != (api.P2{}) {
				t.Errorf("Add2(%d, %v): %v, %v", c, p, q, e)
			}
			if q, e := curve.Mul2(c, p, []byte{3}); e != api.ErrArg || q != (api.P2{}) {
				t.Errorf("Mul2(%d, %v): %v, %v", c, p, q, e)
			}
		}
	}
}

// others are dots that are on no curve: parts next to those of points, parts that are the same modulo the prime, but not below it, and parts of edges.
func (s side) others() []dot {
	var l []dot
	end := plus(new(big.Int).Lsh(n(1), 384), -1)
	for _, d := range append(s.dots()[1:3], s.dots()[9:13]...) {
		for i := range 4 {
			part := func(o *dot) **big.Int { return []**big.Int{&o.x[0], &o.y[0], &o.x[1], &o.y[1]}[i] }
			if i > 1 && !s.second {
				continue
			}
			old := *part(&d)
			beyond := new(big.Int).Sub(end, mod(new(big.Int).Sub(end, old), s.p)) // the greatest number that is the same modulo p
			for _, v := range []*big.Int{mod(plus(old, 1), s.p), mod(plus(old, -1), s.p), new(big.Int).Add(old, s.p), beyond, n(0), n(1), plus(s.p, -1), s.p, end} {
				o := d
				if *part(&o) = v; v.Cmp(old) != 0 {
					l = append(l, o)
				}
			}
		}
		l = append(l, dot{x: d.y, y: d.x}, dot{x: big2{d.x[1], d.x[0]}, y: big2{d.y[1], d.y[0]}})
	}
	l = append(l, none(), dot{x: big2{s.p, n(0)}, y: big2{s.p, n(0)}}, dot{x: big2{n(0), n(0)}, y: big2{n(1), n(0)}})
	var bad []dot
	for _, d := range l {
		if !s.fits(d) {
			bad = append(bad, d)
		}
	}
	return bad
}

// P8.1
func TestOnIn(t *testing.T) {
	each(t, func(t *testing.T, s side) {
		inside := 0
		for _, d := range s.dots() {
			want := s.inside(d)
			if on, in := s.On(d), s.In(d); !on || in != want {
				t.Errorf("On, In of %v: %v, %v", d, on, in)
			}
			if want {
				inside++
			}
		}
		if all := len(s.dots()); (inside == all) != s.alone() || inside < 11 {
			t.Errorf("%d of %d are in the group", inside, all)
		}
		for _, d := range s.others() {
			if s.On(d) || s.In(d) {
				t.Errorf("On, In of %v", d)
			}
		}
	})
}

// P8.1: a point of one curve isn't on the others.
func TestOtherCurves(t *testing.T) {
	for _, s := range sides() {
		for _, o := range sides() {
			if s.second != o.second || s.curve == o.curve {
				continue
			}
			if s.On(o.gen) || s.In(o.gen) {
				t.Errorf("%s: the generator of %s", s.name, o.name)
			}
		}
	}
}

// P8.1, P8.2: with Inf a point is zero, whatever X and Y are.
func TestZeroWithParts(t *testing.T) {
	end := api.Num{1<<64 - 1, 1<<64 - 1, 1<<64 - 1, 1<<64 - 1, 1<<64 - 1, 1<<64 - 1}
	for c := api.Secp; c <= api.Bls; c++ {
		gen, _ := curve.Gen1(c)
		for _, p := range []api.P1{{X: end, Y: end, Inf: true}, {X: gen.X, Y: gen.Y, Inf: true}, {X: gen.X, Inf: true}} {
			none, e := curve.Neg1(c, p)
			sum, f := curve.Add1(c, p, gen)
			turned, g := curve.Add1(c, gen, p)
			both, h := curve.Add1(c, p, p)
			product, i := curve.Mul1(c, p, []byte{5})
			if !curve.On1(c, p) || !curve.In1(c, p) || none != (api.P1{Inf: true}) || both != none || product != none || sum != gen || turned != gen || e|f|g|h|i != 0 {
				t.Errorf("%d, %v: %v %v %v %v %v", c, p, none, sum, turned, both, product)
			}
		}
	}
	for c := api.Bn; c <= api.Bls; c++ {
		gen, _ := curve.Gen2(c)
		for _, p := range []api.P2{{X: api.F2{end, end}, Y: api.F2{end, end}, Inf: true}, {X: gen.X, Y: gen.Y, Inf: true}, {X: gen.X, Inf: true}} {
			none, e := curve.Neg2(c, p)
			sum, f := curve.Add2(c, p, gen)
			turned, g := curve.Add2(c, gen, p)
			both, h := curve.Add2(c, p, p)
			product, i := curve.Mul2(c, p, []byte{5})
			if !curve.On2(c, p) || !curve.In2(c, p) || none != (api.P2{Inf: true}) || both != none || product != none || sum != gen || turned != gen || e|f|g|h|i != 0 {
				t.Errorf("%d, %v: %v %v %v %v %v", c, p, none, sum, turned, both, product)
			}
		}
	}
}

// told looks at what a call told of a dot.
func told(t *testing.T, what string, got dot, e api.Errno, want dot) {
	t.Helper()
	if e != api.OK || !got.same(want) {
		t.Errorf("%s: %v, %v, not %v", what, got, e, want)
	}
}

// refused looks at what a call told beside an error.
func refused(t *testing.T, what string, got dot, e, want api.Errno) {
	t.Helper()
	if e != want || !got.same(none()) {
		t.Errorf("%s: %v, %v, not %v", what, got, e, want)
	}
}

// P8.2: Neg and Add of all pairs of points, in the group and out of it.
func TestNegAdd(t *testing.T) {
	each(t, func(t *testing.T, s side) {
		l := s.dots()
		for _, d := range l {
			got, e := s.Neg(d)
			told(t, "Neg", got, e, s.turned(d))
			for _, o := range l {
				got, e := s.Add(d, o)
				told(t, "Add", got, e, s.sum(d, o))
			}
		}
	})
}

// P8.2: ErrCurve of each of the points.
func TestNotOn(t *testing.T) {
	each(t, func(t *testing.T, s side) {
		l := s.others()
		for i, d := range l {
			got, e := s.Neg(d)
			refused(t, "Neg", got, e, api.ErrCurve)
			got, e = s.Mul(d, nil)
			refused(t, "Mul by 0", got, e, api.ErrCurve)
			got, e = s.Mul(d, []byte{2})
			refused(t, "Mul by 2", got, e, api.ErrCurve)
			for _, o := range []dot{zero(), s.gen, l[len(l)-1-i]} {
				got, e = s.Add(d, o)
				refused(t, "Add", got, e, api.ErrCurve)
				got, e = s.Add(o, d)
				refused(t, "Add", got, e, api.ErrCurve)
			}
		}
	})
}

// P8.2: Mul of small numbers, one by one.
func TestSmallMul(t *testing.T) {
	each(t, func(t *testing.T, s side) {
		for _, d := range []dot{zero(), s.gen, s.dots()[11], s.dots()[len(s.dots())-1]} {
			want := zero()
			for k := range 600 {
				got, e := s.Mul(d, []byte{byte(k >> 8), byte(k)})
				told(t, "Mul", got, e, want)
				want = s.sum(want, d)
			}
		}
	})
}

// P8.2: Mul of numbers about the order, about how many points the curve has, of digits that are all low or all high, and without any order; with zeros ahead.
func TestMul(t *testing.T) {
	each(t, func(t *testing.T, s side) {
		m := mixer(10 + s.curve)
		var numbers []*big.Int
		for _, v := range []*big.Int{s.order, s.whole, s.p, new(big.Int).Lsh(s.whole, 1), new(big.Int).Rsh(s.order, 1)} {
			numbers = append(numbers, plus(v, -2), plus(v, -1), v, plus(v, 1), plus(v, 9))
		}
		for _, b := range []byte{0x77, 0x78, 0x80, 0x87, 0x88, 0x89, 0x8f, 0xf0, 0xf7, 0xff} {
			numbers = append(numbers, new(big.Int).SetBytes(bytes.Repeat([]byte{b}, 32)), new(big.Int).SetBytes(bytes.Repeat([]byte{b}, 5)))
		}
		for _, size := range []int{4, 8, 16, 31, 32, 32, 33, 48, 64, 100, 200} {
			numbers = append(numbers, new(big.Int).SetBytes(m.bytes(size)))
		}
		l := s.dots()
		for i, k := range numbers {
			d := l[1+i*5%(len(l)-1)]
			for _, d := range []dot{d, s.gen, l[len(l)-2]} {
				want := s.many(d, k)
				got, e := s.Mul(d, k.Bytes())
				told(t, "Mul by "+k.Text(16), got, e, want)
			}
			got, e := s.Mul(d, append(make([]byte, i), k.Bytes()...))
			told(t, "Mul with zeros ahead by "+k.Text(16), got, e, s.many(d, k))
		}
	})
}

// P8.2: numbers of any length; zeros, too, and none.
func TestLongMul(t *testing.T) {
	each(t, func(t *testing.T, s side) {
		m := mixer(20 + s.curve)
		l := s.dots()
		for _, d := range []dot{zero(), s.gen, l[12], l[len(l)-1]} {
			for _, k := range [][]byte{nil, {}, {0}, make([]byte, 1000000)} {
				got, e := s.Mul(d, k)
				told(t, "Mul by 0", got, e, zero())
			}
			k := m.bytes(100000)
			got, e := s.Mul(d, k)
			told(t, "Mul by a long number", got, e, s.many(d, mod(new(big.Int).SetBytes(k), s.whole)))
		}
	})
}

// P8.5: a commutative group; Mul is over sums.
func TestLaws(t *testing.T) {
	each(t, func(t *testing.T, s side) {
		m := mixer(30 + s.curve)
		l := s.dots()
		add := func(d, o dot) dot {
			sum, e := s.Add(d, o)
			if e != api.OK || !s.On(sum) {
				t.Errorf("Add: %v, %v", sum, e)
			}
			return sum
		}
		mul := func(d dot, k []byte) dot {
			product, e := s.Mul(d, k)
			if e != api.OK || !s.On(product) {
				t.Errorf("Mul: %v, %v", product, e)
			}
			return product
		}
		for i, a := range l {
			b, c := l[(5*i+3)%len(l)], l[(3*i+1)%len(l)]
			if !add(a, b).same(add(b, a)) || !add(add(a, b), c).same(add(a, add(b, c))) || !add(a, zero()).same(a) || !add(zero(), a).same(a) {
				t.Errorf("no commutative group: %v %v %v", a, b, c)
			}
			if minus, _ := s.Neg(a); !add(a, minus).same(zero()) {
				t.Errorf("%v + %v", a, minus)
			}
			j, k := m.bytes(40), m.bytes(33)
			both := new(big.Int).Add(new(big.Int).SetBytes(j), new(big.Int).SetBytes(k))
			if !add(mul(a, j), mul(a, k)).same(mul(a, both.Bytes())) || !mul(mul(a, j), k).same(mul(mul(a, k), j)) || !add(mul(a, k), mul(b, k)).same(mul(add(a, b), k)) {
				t.Errorf("Mul is not over sums: %v", a)
			}
		}
		if !mul(s.gen, s.order.Bytes()).same(zero()) || mul(s.gen, plus(s.order, -1).Bytes()).same(zero()) {
			t.Error("the order times the generator")
		}
	})
}

// Example 3: where a point is in the group, Mul hangs on k modulo the order; where it is not, it doesn't.
func TestModuloOrder(t *testing.T) {
	each(t, func(t *testing.T, s side) {
		k := plus(s.order, 5).Bytes()
		for _, d := range s.dots() {
			long, _ := s.Mul(d, k)
			short, _ := s.Mul(d, []byte{5})
			if long.same(short) != s.In(d) {
				t.Errorf("%v: %v, %v", d, long, short)
			}
		}
	})
}

// R2: what is handed in stands as it stood, its spare room too; the same is told again, if it is asked again.
func TestArguments(t *testing.T) {
	room := bytes.Repeat([]byte{0, 0xee, 0x91}, 40)
	each(t, func(t *testing.T, s side) {
		before := bytes.Clone(room)
		first, _ := s.Mul(s.gen, room[:80])
		if !bytes.Equal(room, before) {
			t.Error("Mul changed k")
		}
		second, _ := s.Mul(s.gen, room[:80])
		if !first.same(second) {
			t.Error("Mul tells another point")
		}
	})
}
