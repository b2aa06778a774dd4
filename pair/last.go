package pair

import (
	"quarry/api"
	"quarry/nat"
)

// last is f to a power that (p^12 - 1) by the order divides, while the order does not divide what is left: it is 1 just where f to the power (p^12 - 1) by the order is. p^12 - 1 is (p^6 - 1)(p^2 + 1)(p^4 - p^2 + 1), and the order divides the last part.
func (g ground) last(f api.F12) api.F12 {
	inverse, _ := g.Inv12(f) // no line is 0 at a point that isn't on it
	f = g.Mul12(g.Conj12(f), inverse)
	f = g.Mul12(g.Frob12(f, 2), f) // from here on the conjugate is the inverse
	if g.bn {
		return g.lastBn(f)
	}
	return g.lastBls(f)
}

// lastBn is f to the power (p^4 - p^2 + 1) by the order, 2 t (6 t^2 + 3 t + 1) times, t being the seed: it is a + 6 t^2 + 1 + (a - 2 t) p + a p^2 + (a - 2 t - 1) p^3, where a is 12 t^3 + 6 t^2 + 6 t.
func (g ground) lastBn(f api.F12) api.F12 {
	power := func(f api.F12) api.F12 { return g.Exp12(f, []byte(seedBn)) }
	one := power(f)
	two := g.Mul12(one, one)
	six := g.Mul12(g.Mul12(two, two), two)
	square := power(six)
	a := g.Mul12(g.Mul12(power(g.Mul12(square, square)), square), six)
	less := g.Mul12(a, g.Conj12(two))
	all := g.Mul12(g.Mul12(a, square), f)
	all = g.Mul12(all, g.Frob12(less, 1))
	all = g.Mul12(all, g.Frob12(a, 2))
	return g.Mul12(all, g.Frob12(g.Mul12(less, g.Conj12(f)), 3))
}

// lastBls is f to the power (p^4 - p^2 + 1) by the order, 3 times: it is (z + 1)^2 (p - z) (z^2 + p^2 - 1) + 3, z being the seed without its sign.
func (g ground) lastBls(f api.F12) api.F12 {
	z := []byte(seedBls)
	more := nat.Add(z, []byte{1})
	all := g.Exp12(g.Exp12(f, more), more)
	all = g.Mul12(g.Frob12(all, 1), g.Conj12(g.Exp12(all, z)))
	square := g.Exp12(g.Exp12(all, z), z)
	all = g.Mul12(g.Mul12(square, g.Frob12(all, 2)), g.Conj12(all))
	return g.Mul12(all, g.Mul12(g.Mul12(f, f), f))
}
