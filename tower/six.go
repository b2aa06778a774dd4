package tower

import "quarry/api"

// Mul6 is a * b.
func (t *Tower) Mul6(a, b api.F6) api.F6 {
	var like api.F6 // products of parts at one place
	for i := range like {
		like[i] = t.Mul2(a[i], b[i])
	}
	cross := func(i, j int) api.F2 { // a[i] b[j] + a[j] b[i], by one product
		both := t.Mul2(t.Add2(a[i], a[j]), t.Add2(b[i], b[j]))
		return t.Sub2(t.Sub2(both, like[i]), like[j])
	}
	return api.F6{
		t.Add2(like[0], t.timesX(cross(1, 2))),
		t.Add2(cross(0, 1), t.timesX(like[2])),
		t.Add2(cross(0, 2), like[1]),
	}
}

// Inv6 is the inverse: a's mate, by what the two make together, which is one of F2. (The mate is the product of the two others that a becomes under the maps of F6 that leave F2 as it is.)
func (t *Tower) Inv6(a api.F6) (api.F6, bool) {
	mate := api.F6{
		t.Sub2(t.Mul2(a[0], a[0]), t.timesX(t.Mul2(a[1], a[2]))),
		t.Sub2(t.timesX(t.Mul2(a[2], a[2])), t.Mul2(a[0], a[1])),
		t.Sub2(t.Mul2(a[1], a[1]), t.Mul2(a[0], a[2])),
	}
	beyond := t.Add2(t.Mul2(a[1], mate[2]), t.Mul2(a[2], mate[1]))
	part, ok := t.Inv2(t.Add2(t.Mul2(a[0], mate[0]), t.timesX(beyond)))
	if !ok {
		return api.F6{}, false
	}
	for i := range mate {
		mate[i] = t.Mul2(mate[i], part)
	}
	return mate, true
}

// add6 is a + b.
func (t *Tower) add6(a, b api.F6) api.F6 {
	return api.F6{t.Add2(a[0], b[0]), t.Add2(a[1], b[1]), t.Add2(a[2], b[2])}
}

// sub6 is a - b.
func (t *Tower) sub6(a, b api.F6) api.F6 {
	return api.F6{t.Sub2(a[0], b[0]), t.Sub2(a[1], b[1]), t.Sub2(a[2], b[2])}
}

// timesV is a * v.
func (t *Tower) timesV(a api.F6) api.F6 { return api.F6{t.timesX(a[2]), a[0], a[1]} }
