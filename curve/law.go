package curve

import (
	"quarry/api"
	"quarry/nat"
)

// spot is a point, as api has it, of coordinates of any kind.
type spot[E any] struct {
	X, Y E
	Inf  bool
}

// law is the group law of a curve; size is how many bytes a coordinate has.
type law[E comparable] struct {
	row[E]
	f    ground[E]
	one  E
	size int
}

// place is a point that is reckoned with: its coordinates are x/z^2 and y/z^3, so that no step needs an inverse. Of zero z is 0.
type place[E any] struct{ x, y, z E }

// refused says why points can't be reckoned with: there is no law for them, or one isn't on the curve.
func (l *law[E]) refused(points ...spot[E]) api.Errno {
	if l == nil {
		return api.ErrArg
	}
	for _, p := range points {
		if !p.Inf && !(l.own(p.X) && l.own(p.Y) && l.f.Mul(p.Y, p.Y) == l.right(p.X)) {
			return api.ErrCurve
		}
	}
	return api.OK
}

// own: is a written as what the ground tells is, below the prime?
func (l *law[E]) own(a E) bool {
	var none E
	return l.f.Add(a, none) == a
}

// right is the right side of the equation, x^3 + b.
func (l *law[E]) right(x E) E { return l.f.Add(l.f.Mul(l.f.Mul(x, x), x), l.b) }

// member is p, if it is in the group. Where the curve has the group's points alone, whatever is on it is.
func (l *law[E]) member(p spot[E]) (spot[E], api.Errno) {
	if e := l.refused(p); e != api.OK {
		return spot[E]{}, e
	}
	var none E
	if l.times != once && l.multiple(l.lift(p), []byte(l.order)).z != none {
		return spot[E]{}, api.ErrGroup
	}
	return p, api.OK
}

// generator is the group's.
func (l *law[E]) generator() (spot[E], api.Errno) {
	if e := l.refused(); e != api.OK {
		return spot[E]{}, e
	}
	return l.start, api.OK
}

// opposite is -p.
func (l *law[E]) opposite(p spot[E]) (spot[E], api.Errno) {
	if e := l.refused(p); e != api.OK {
		return spot[E]{}, e
	}
	if p.Inf {
		return spot[E]{Inf: true}, api.OK
	}
	p.Y = l.minus(p.Y)
	return p, api.OK
}

// sum is p + q.
func (l *law[E]) sum(p, q spot[E]) (spot[E], api.Errno) {
	if e := l.refused(p, q); e != api.OK {
		return spot[E]{}, e
	}
	return l.settle(l.add(l.lift(p), l.lift(q))), api.OK
}

// product is p, k times. What goes beyond the curve's number of points adds zero, wherever on it p is.
func (l *law[E]) product(p spot[E], k []byte) (spot[E], api.Errno) {
	if e := l.refused(p); e != api.OK {
		return spot[E]{}, e
	}
	_, rest, _ := nat.DivMod(k, nat.Mul([]byte(l.order), []byte(l.times)))
	return l.settle(l.multiple(l.lift(p), rest)), api.OK
}

// lift is the place of a point.
func (l *law[E]) lift(p spot[E]) place[E] {
	if p.Inf {
		return place[E]{}
	}
	return place[E]{p.X, p.Y, l.one}
}

// settle is the point of a place.
func (l *law[E]) settle(p place[E]) spot[E] {
	part, ok := l.f.Inv(p.z)
	if !ok {
		return spot[E]{Inf: true}
	}
	square := l.f.Mul(part, part)
	return spot[E]{X: l.f.Mul(p.x, square), Y: l.f.Mul(p.y, l.f.Mul(square, part))}
}

// minus is -a.
func (l *law[E]) minus(a E) E {
	var none E
	return l.f.Sub(none, a)
}

// add is p + q.
func (l *law[E]) add(p, q place[E]) place[E] {
	var none E
	if p.z == none {
		return q
	}
	if q.z == none {
		return p
	}
	f := l.f
	pp, qq := f.Mul(p.z, p.z), f.Mul(q.z, q.z)
	px, qx := f.Mul(p.x, qq), f.Mul(q.x, pp)
	py, qy := f.Mul(p.y, f.Mul(q.z, qq)), f.Mul(q.y, f.Mul(p.z, pp))
	if px == qx {
		if py == qy {
			return l.twice(p)
		}
		return place[E]{}
	}
	run, rise := f.Sub(qx, px), f.Sub(qy, py)
	square := f.Mul(run, run)
	cube, part := f.Mul(run, square), f.Mul(px, square)
	x := f.Sub(f.Sub(f.Mul(rise, rise), cube), f.Add(part, part))
	y := f.Sub(f.Mul(rise, f.Sub(part, x)), f.Mul(py, cube))
	return place[E]{x, y, f.Mul(run, f.Mul(p.z, q.z))}
}

// twice is p + p. Of zero it is zero, and of a point whose y is 0.
func (l *law[E]) twice(p place[E]) place[E] {
	f := l.f
	xx, yy := f.Mul(p.x, p.x), f.Mul(p.y, p.y)
	rise := f.Add(f.Add(xx, xx), xx)
	part := l.four(f.Mul(p.x, yy))
	x := f.Sub(f.Mul(rise, rise), f.Add(part, part))
	square := l.four(f.Mul(yy, yy))
	y := f.Sub(f.Mul(rise, f.Sub(part, x)), f.Add(square, square))
	z := f.Mul(p.y, p.z)
	return place[E]{x, y, f.Add(z, z)}
}

// four is 4 a.
func (l *law[E]) four(a E) E {
	a = l.f.Add(a, a)
	return l.f.Add(a, a)
}

// multiple is p, k times: four bits of k in one step.
func (l *law[E]) multiple(p place[E], k []byte) place[E] {
	var few [9]place[E]
	for i := 1; i < len(few); i++ {
		few[i] = l.add(few[i-1], p)
	}
	var sum place[E]
	steps := digits(k)
	for i := len(steps) - 1; i >= 0; i-- {
		for range 4 {
			sum = l.twice(sum)
		}
		if d := steps[i]; d < 0 {
			p := few[-d]
			p.y = l.minus(p.y)
			sum = l.add(sum, p)
		} else {
			sum = l.add(sum, few[d])
		}
	}
	return sum
}

// digits are those of k to the base 16, the lowest first, from -7 to 8: a point's opposite costs nothing, so that half as many multiples do.
func digits(k []byte) []int {
	l := make([]int, 0, 2*len(k)+1)
	carry := 0
	for i := range 2 * len(k) {
		d := int(k[len(k)-1-i/2]>>(i%2*4))&15 + carry
		carry = 0
		if d > 8 {
			d, carry = d-16, 1
		}
		l = append(l, d)
	}
	return append(l, carry)
}
