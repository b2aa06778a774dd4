package pair

import (
	"quarry/api"
	"quarry/nat"
	"quarry/tower"
)

// The numbers by which the curves were made; that of Bls is below 0, and stands here without its sign.
const (
	seedBn  = "\x44\xe9\x92\xb4\x4a\x69\x09\xf1"
	seedBls = "\xd2\x01\x00\x00\x00\x01\x00\x00"
)

// ground is what a curve's pairings are reckoned with.
type ground struct {
	*tower.Tower
	bn bool // whether the curve is Bn, not Bls
}

// spot is a point of a second curve but zero: its x and y.
type spot [2]api.F2

// place is such a point, so written that no step needs a quotient: x, y and z, its coordinates being x/z and y/z.
type place [3]api.F2

// walk is the way of a pair's second point q through the loop, in steps. Each step goes from the point where the walk stands, and tells what the line that it goes by is at the pair's first point.
type walk struct {
	start spot                     // q
	twice func() api.F12           // to the point's double
	plus  func(other spot) api.F12 // to the sum with another one
}

// lines is the product of all lines by which the pairs' points go. Of Bls the loop's number has lost its sign, which makes each pairing its inverse: their product is 1 as before.
func (g ground) lines(a []api.P1, b []api.P2) api.F12 {
	var walks []walk
	for i, p := range a {
		if q := b[i]; !p.Inf && !q.Inf { // a zero adds nothing
			walks = append(walks, g.walk(p, spot{q.X, q.Y}))
		}
	}
	all := g.One12()
	times := g.times()
	for i := nat.Bits(times) - 2; i >= 0; i-- {
		all = g.Mul12(all, all)
		for _, w := range walks {
			all = g.Mul12(all, w.twice())
			if nat.Bit(times, i) == 1 {
				all = g.Mul12(all, w.plus(w.start))
			}
		}
	}
	if g.bn {
		for _, w := range walks {
			all = g.Mul12(all, w.plus(g.turned(w.start, 1)))
			all = g.Mul12(all, w.plus(g.minus(g.turned(w.start, 2))))
		}
	}
	return all
}

// times is the number over which the loop goes.
func (g ground) times() []byte {
	if g.bn {
		return nat.Add(nat.Mul([]byte(seedBn), []byte{6}), []byte{2})
	}
	return []byte(seedBls)
}

// walk is that of p and q.
func (g ground) walk(p api.P1, q spot) walk {
	at := place{q[0], q[1], {{1}}}
	part := g.threefold(g.Sub2(g.Mul2(q[1], q[1]), g.Mul2(g.Mul2(q[0], q[0]), q[0]))) // 3 b, as q is on the curve
	// By the curve's equation the law needs no cube of x, and what the line needs stands in it.
	twice := func() api.F12 {
		x, y, z := at[0], at[1], at[2]
		square := g.Mul2(y, y)
		less := g.Mul2(part, g.Mul2(z, z))
		run := g.twofold(g.Mul2(y, z))
		value := g.line(p, run, g.threefold(g.Mul2(x, x)), g.Sub2(square, less))
		double, triple := g.twofold(less), g.threefold(less)
		sum := g.Add2(square, triple)
		at = place{
			g.twofold(g.Mul2(g.Mul2(x, y), g.Sub2(square, triple))),
			g.Sub2(g.Mul2(sum, sum), g.threefold(g.Mul2(double, double))),
			g.twofold(g.twofold(g.Mul2(square, run))),
		}
		return value
	}
	// The run is never 0: q's order is a prime, and the multiples of q that meet here are neither zero, nor the same or opposite ones.
	plus := func(other spot) api.F12 {
		x, y, z := at[0], at[1], at[2]
		rise, run := g.Sub2(g.Mul2(other[1], z), y), g.Sub2(g.Mul2(other[0], z), x)
		value := g.line(p, run, rise, g.Sub2(g.Mul2(rise, other[0]), g.Mul2(run, other[1])))
		square := g.Mul2(run, run)
		cube, side := g.Mul2(square, run), g.Mul2(square, x)
		next := g.Sub2(g.Sub2(g.Mul2(g.Mul2(rise, rise), z), cube), g.twofold(side))
		at = place{
			g.Mul2(run, next),
			g.Sub2(g.Mul2(rise, g.Sub2(side, next)), g.Mul2(cube, y)),
			g.Mul2(cube, z),
		}
		return value
	}
	return walk{q, twice, plus}
}

// line is what the line run Y - rise X + rest is at p, where p's X and Y are taken to where the second curve's points lie. Over F12 its point (x, y) is the first curve's (x w^2, y w^3) of Bn, and (x/w^2, y/w^3) of Bls. Of Bls the line is taken times w^3, so that no quotient is left in it. Such factors do not count, nor do those of F2 by which run, rise and rest are too great: the last power makes 1 of all elements of F2, and of w^3, whose square is one.
func (g ground) line(p api.P1, run, rise, rest api.F2) api.F12 {
	run = g.Mul2(run, api.F2{p.Y})
	fall := g.Sub2(api.F2{}, g.Mul2(rise, api.F2{p.X}))
	if g.bn {
		return api.F12{{run}, {fall, rest}}
	}
	return api.F12{{rest, fall}, {{}, run}}
}

// twofold is 2 a.
func (g ground) twofold(a api.F2) api.F2 { return g.Add2(a, a) }

// threefold is 3 a.
func (g ground) threefold(a api.F2) api.F2 { return g.Add2(g.Add2(a, a), a) }

// turned is the point of Bn's second curve that q becomes, when its coordinates over F12 are taken to the power of the prime, so many times.
func (g ground) turned(q spot, times int) spot {
	both := g.Frob12(api.F12{{{}, q[0]}, {{}, q[1]}}, times)
	return spot{both[0][1], both[1][1]}
}

// minus is -q.
func (g ground) minus(q spot) spot { return spot{q[0], g.Sub2(api.F2{}, q[1])} }
