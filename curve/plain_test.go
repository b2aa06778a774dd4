package curve_test

import (
	"bytes"
	"math/big"

	"quarry/api"
)

// The group law over math/big, by the words of P8.2: coordinates are a + b u, with u^2 = -1, of all curves.

func (s side) plus(a, b big2) big2 {
	return big2{mod(new(big.Int).Add(a[0], b[0]), s.p), mod(new(big.Int).Add(a[1], b[1]), s.p)}
}

func (s side) minus(a, b big2) big2 {
	return big2{mod(new(big.Int).Sub(a[0], b[0]), s.p), mod(new(big.Int).Sub(a[1], b[1]), s.p)}
}

func (s side) times2(a, b big2) big2 {
	ac, bd := new(big.Int).Mul(a[0], b[0]), new(big.Int).Mul(a[1], b[1])
	ad, bc := new(big.Int).Mul(a[0], b[1]), new(big.Int).Mul(a[1], b[0])
	return big2{mod(ac.Sub(ac, bd), s.p), mod(ad.Add(ad, bc), s.p)}
}

// over is a / b.
func (s side) over(a, b big2) big2 {
	norm := new(big.Int).Add(new(big.Int).Mul(b[0], b[0]), new(big.Int).Mul(b[1], b[1]))
	norm.ModInverse(norm, s.p)
	c := s.times2(a, big2{b[0], new(big.Int).Neg(b[1])})
	return big2{mod(c[0].Mul(c[0], norm), s.p), mod(c[1].Mul(c[1], norm), s.p)}
}

func (a big2) is(b big2) bool { return a[0].Cmp(b[0]) == 0 && a[1].Cmp(b[1]) == 0 }

// right is x^3 + b.
func (s side) right(x big2) big2 { return s.plus(s.times2(s.times2(x, x), x), s.b) }

// fits: do the coordinates fit the equation, and are they below the prime?
func (s side) fits(d dot) bool {
	for _, v := range []*big.Int{d.x[0], d.x[1], d.y[0], d.y[1]} {
		if v.Cmp(s.p) >= 0 {
			return d.inf
		}
	}
	return d.inf || s.times2(d.y, d.y).is(s.right(d.x))
}

func (s side) turned(d dot) dot {
	if d.inf {
		return zero()
	}
	return dot{x: d.x, y: s.minus(big2{n(0), n(0)}, d.y)}
}

func (s side) sum(d, o dot) dot {
	if d.inf {
		return o
	}
	if o.inf {
		return d
	}
	rise, run := s.minus(o.y, d.y), s.minus(o.x, d.x)
	if d.x.is(o.x) {
		if d.y.is(s.turned(o).y) {
			return zero()
		}
		square := s.times2(d.x, d.x)
		rise, run = s.plus(square, s.plus(square, square)), s.plus(d.y, d.y)
	}
	slope := s.over(rise, run)
	x := s.minus(s.minus(s.times2(slope, slope), d.x), o.x)
	return dot{x: x, y: s.minus(s.times2(slope, s.minus(d.x, x)), d.y)}
}

// many is d, k times: bit by bit.
func (s side) many(d dot, k *big.Int) dot {
	all := zero()
	for i := k.BitLen() - 1; i >= 0; i-- {
		all = s.sum(all, all)
		if k.Bit(i) == 1 {
			all = s.sum(all, d)
		}
	}
	return all
}

// inside: is the order times it zero?
func (s side) inside(d dot) bool { return s.fits(d) && s.many(d, s.order).inf }

// root is a square root of a, if there is one: c + d u with c^2 - d^2 and 2 c d known.
func (s side) root(a big2) (big2, bool) {
	norm := new(big.Int).Add(new(big.Int).Mul(a[0], a[0]), new(big.Int).Mul(a[1], a[1]))
	sum := new(big.Int).ModSqrt(mod(norm, s.p), s.p)
	if sum == nil {
		return big2{}, false
	}
	half := new(big.Int).ModInverse(n(2), s.p)
	for _, sum := range []*big.Int{sum, new(big.Int).Neg(sum)} {
		c := new(big.Int).Mul(new(big.Int).Add(sum, a[0]), half)
		d := new(big.Int).Mul(new(big.Int).Sub(sum, a[0]), half)
		c, d = new(big.Int).ModSqrt(mod(c, s.p), s.p), new(big.Int).ModSqrt(mod(d, s.p), s.p)
		if c == nil || d == nil {
			continue
		}
		for _, d := range []*big.Int{d, mod(new(big.Int).Neg(d), s.p)} {
			if r := (big2{c, d}); s.times2(r, r).is(a) && (s.second || d.Sign() == 0) {
				return r, true
			}
		}
	}
	return big2{}, false
}

// dots are points of the curve: zero, multiples of the generator, points found by the X of small numbers and of such without any order, their multiples in the group and those of other small orders, and all of their opposites.
func (s side) dots() []dot {
	l := []dot{zero()}
	add := func(d dot) { l = append(l, d, s.turned(d)) }
	for _, k := range []int64{1, 2, 3, 77} {
		add(s.many(s.gen, n(k)))
	}
	m := mixer(s.curve)
	add(s.many(s.gen, m.below(s.order)))
	found := s.found(&m, 3)
	for _, d := range found {
		add(d)
	}
	if !s.alone() {
		add(s.many(found[0], s.times))
		add(s.many(found[2], s.order))
		add(s.sum(s.gen, s.many(found[1], s.order)))
	}
	if !s.second && s.curve == api.Bls { // 3 and 11 part its number of points
		add(dot{x: big2{n(0), n(0)}, y: big2{n(2), n(0)}})
		add(s.many(found[2], new(big.Int).Div(s.whole, n(11))))
	}
	return l
}

// alone: are the group's points all that the curve has?
func (s side) alone() bool { return s.times.Cmp(n(1)) == 0 }

// found is points whose X is small, and whose X has no order, so many.
func (s side) found(m *mixer, more int) []dot {
	var l []dot
	for i := int64(0); len(l) < more; i++ {
		x := big2{n(i), n(0)}
		if s.second {
			x[1] = n(i % 3)
		}
		if len(l) >= more/2 {
			x[0] = m.below(s.p)
			if s.second {
				x[1] = m.below(s.p)
			}
		}
		if y, ok := s.root(s.right(x)); ok {
			l = append(l, dot{x: x, y: y})
		}
	}
	return l
}

// The bytes of points, by the words of P8.3 and P8.4.

// size is how many bytes a number has.
func (s side) size() int { return (s.p.BitLen() + 7) / 8 }

// text is a coordinate: of a second curve the part with u, then the other one.
func (s side) text(a big2) []byte {
	b := a[0].FillBytes(make([]byte, s.size()))
	if s.second {
		b = append(a[1].FillBytes(make([]byte, s.size())), b...)
	}
	return b
}

// parts is the coordinate that b tells, and whether it is below the prime.
func (s side) parts(b []byte) (big2, bool) {
	a := big2{new(big.Int).SetBytes(b), n(0)}
	if s.second {
		a = big2{new(big.Int).SetBytes(b[len(b)/2:]), new(big.Int).SetBytes(b[:len(b)/2])}
	}
	return a, a[0].Cmp(s.p) < 0 && a[1].Cmp(s.p) < 0
}

func (s side) read(b []byte) (dot, api.Errno) {
	size := len(s.text(big2{n(0), n(0)}))
	if len(b) != 2*size {
		return none(), api.ErrLength
	}
	x, below := s.parts(b[:size])
	y, ok := s.parts(b[size:])
	d := dot{x: x, y: y}
	switch {
	case !below || !ok:
		return none(), api.ErrRange
	case d.same(none()):
		return zero(), api.OK
	case !s.fits(d):
		return none(), api.ErrCurve
	case !s.inside(d):
		return none(), api.ErrGroup
	}
	return d, api.OK
}

func (s side) write(d dot) []byte { return append(s.text(d.x), s.text(d.y)...) }

// greater: is y the greater one of the two?
func (s side) greater(y big2) bool {
	o := s.minus(big2{n(0), n(0)}, y)
	if c := y[1].Cmp(o[1]); c != 0 {
		return c > 0
	}
	return y[0].Cmp(o[0]) > 0
}

func (s side) unpack(b []byte) (dot, api.Errno) {
	size := len(s.text(big2{n(0), n(0)}))
	if len(b) != size {
		return none(), api.ErrLength
	}
	bits := new(big.Int).SetBytes(b)
	flag := func(back int) bool { return bits.Bit(8*size-back) == 1 }
	if !flag(1) {
		return none(), api.ErrForm
	}
	if flag(2) {
		if !bytes.Equal(b[1:], make([]byte, size-1)) || b[0] != 192 {
			return none(), api.ErrForm
		}
		return zero(), api.OK
	}
	for back := 1; back <= 3; back++ {
		bits.SetBit(bits, 8*size-back, 0)
	}
	x, ok := s.parts(bits.FillBytes(make([]byte, size)))
	if !ok {
		return none(), api.ErrRange
	}
	y, ok := s.root(s.right(x))
	if !ok {
		return none(), api.ErrCurve
	}
	if s.greater(y) != (b[0]&32 != 0) {
		y = s.minus(big2{n(0), n(0)}, y)
	}
	if d := (dot{x: x, y: y}); s.inside(d) {
		return d, api.OK
	}
	return none(), api.ErrGroup
}

func (s side) pack(d dot) []byte {
	b := s.text(d.x)
	b[0] |= 128
	if d.inf {
		b[0] |= 64
	} else if s.greater(d.y) {
		b[0] |= 32
	}
	return b
}
