package tower

import "quarry/api"

// Add2 is a + b.
func (t *Tower) Add2(a, b api.F2) api.F2 { return api.F2{t.f.Add(a[0], b[0]), t.f.Add(a[1], b[1])} }

// Sub2 is a - b.
func (t *Tower) Sub2(a, b api.F2) api.F2 { return api.F2{t.f.Sub(a[0], b[0]), t.f.Sub(a[1], b[1])} }

// Mul2 is a * b. The parts crosswise are made by one product, of sums; a square needs but two in all.
func (t *Tower) Mul2(a, b api.F2) api.F2 {
	if a == b {
		return t.square2(a)
	}
	low, high := t.f.Mul(a[0], b[0]), t.f.Mul(a[1], b[1])
	cross := t.f.Mul(t.f.Add(a[0], a[1]), t.f.Add(b[0], b[1]))
	return api.F2{t.f.Sub(low, high), t.f.Sub(t.f.Sub(cross, low), high)}
}

// square2 is a * a: of a + b u it is (a + b)(a - b) + 2 a b u.
func (t *Tower) square2(a api.F2) api.F2 {
	product := t.f.Mul(a[0], a[1])
	return api.F2{t.f.Mul(t.f.Add(a[0], a[1]), t.f.Sub(a[0], a[1])), t.f.Add(product, product)}
}

// Inv2 is the inverse: the conjugate, by what the two make together.
func (t *Tower) Inv2(a api.F2) (api.F2, bool) {
	part, ok := t.f.Inv(t.norm(a))
	if !ok {
		return api.F2{}, false
	}
	return api.F2{t.f.Mul(a[0], part), t.f.Mul(t.f.Neg(a[1]), part)}, true
}

// Conj2 is the conjugate.
func (t *Tower) Conj2(a api.F2) api.F2 { return api.F2{t.f.Reduce(a[0]), t.f.Neg(a[1])} }

// norm is a times its conjugate, a^2 + b^2 of a + b u: it is 0 of 0 alone, as -1 is no square modulo p.
func (t *Tower) norm(a api.F2) api.Num { return t.f.Add(t.f.Mul(a[0], a[0]), t.f.Mul(a[1], a[1])) }

// timesX is a * x.
func (t *Tower) timesX(a api.F2) api.F2 {
	product := api.F2{t.f.Sub(a[0], a[1]), t.f.Add(a[0], a[1])} // a * (1 + u)
	if !t.nine {
		return product
	}
	for range 3 { // eight more: doubling takes less time than products
		a = t.Add2(a, a)
	}
	return t.Add2(product, a)
}

// Sqrt2 is the lesser square root. The square of c + d u is c^2 - d^2 + 2 c d u, and its norm's roots are c^2 + d^2 and what is missing from it to 0; so c^2 and d^2 are known, and a root of each, but for signs, of which 2 c d tells whether they are alike. Of a root and its opposite the lesser one has the lesser d.
func (t *Tower) Sqrt2(a api.F2) (api.F2, bool) {
	sum, ok := t.f.Sqrt(t.norm(a))
	if !ok {
		return api.F2{}, false
	}
	c, d, ok := t.parts(a, sum)
	if !ok {
		if c, d, ok = t.parts(a, t.f.Neg(sum)); !ok {
			return api.F2{}, false
		}
	}
	if t.f.Mul(t.f.Add(c, c), d) != t.f.Reduce(a[1]) {
		c = t.f.Neg(c)
	}
	return api.F2{c, d}, true
}

// parts are the least c and d with c^2 + d^2 = sum and c^2 - d^2 = a's first part; not ok, if there are none.
func (t *Tower) parts(a api.F2, sum api.Num) (c, d api.Num, ok bool) {
	half, _ := t.f.Inv(api.Num{2})
	if c, ok = t.f.Sqrt(t.f.Mul(half, t.f.Add(sum, a[0]))); !ok {
		return api.Num{}, api.Num{}, false
	}
	d, ok = t.f.Sqrt(t.f.Mul(half, t.f.Sub(sum, a[0])))
	return c, d, ok
}
