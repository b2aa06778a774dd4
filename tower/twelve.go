package tower

import "quarry/api"

// One12 is 1.
func (t *Tower) One12() api.F12 { return api.F12{{{{1}}}} }

// Mul12 is a * b. The parts crosswise are made by one product, of sums; a square needs but two in all.
func (t *Tower) Mul12(a, b api.F12) api.F12 {
	if a == b {
		return t.square12(a)
	}
	low, high := t.Mul6(a[0], b[0]), t.Mul6(a[1], b[1])
	cross := t.Mul6(t.add6(a[0], a[1]), t.add6(b[0], b[1]))
	return api.F12{t.add6(low, t.timesV(high)), t.sub6(t.sub6(cross, low), high)}
}

// square12 is a * a: of a + b w it is (a + b)(a + b v) - a b - a b v, and 2 a b w.
func (t *Tower) square12(a api.F12) api.F12 {
	product := t.Mul6(a[0], a[1])
	both := t.Mul6(t.add6(a[0], a[1]), t.add6(a[0], t.timesV(a[1])))
	return api.F12{t.sub6(t.sub6(both, product), t.timesV(product)), t.add6(product, product)}
}

// Inv12 is the inverse: the conjugate, by what the two make together, which is one of F6.
func (t *Tower) Inv12(a api.F12) (api.F12, bool) {
	norm := t.sub6(t.Mul6(a[0], a[0]), t.timesV(t.Mul6(a[1], a[1])))
	part, ok := t.Inv6(norm)
	if !ok {
		return api.F12{}, false
	}
	return t.Conj12(api.F12{t.Mul6(a[0], part), t.Mul6(a[1], part)}), true
}

// Conj12 is the conjugate.
func (t *Tower) Conj12(a api.F12) api.F12 {
	var zero api.F6
	return api.F12{t.add6(zero, a[0]), t.sub6(zero, a[1])}
}
