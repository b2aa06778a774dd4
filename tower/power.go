package tower

import (
	"quarry/api"
	"quarry/nat"
)

// Exp12 raises to a power.
func (t *Tower) Exp12(a api.F12, e []byte) api.F12 {
	e = t.shorten(e)
	power := t.One12()
	for i := nat.Bits(e) - 1; i >= 0; i-- {
		power = t.square12(power)
		if nat.Bit(e, i) == 1 {
			power = t.Mul12(power, a)
		}
	}
	return power
}

// shorten is e, or, if that is long, a number of some twelve primes' length, to which powers are the same: the elements but 0 are a group of p^12 - 1, and the number is not 0, so that the power of 0 is right too.
func (t *Tower) shorten(e []byte) []byte {
	if nat.Bits(e) <= 12*8*t.f.Size() {
		return e
	}
	p := nat.Add(t.f.Encode(t.f.Neg(api.Num{1})), []byte{1})
	order := []byte{1}
	for range 12 {
		order = nat.Mul(order, p)
	}
	order, _ = nat.Sub(order, []byte{1})
	_, rest, _ := nat.DivMod(e, order)
	return nat.Add(rest, order)
}

// Frob12 raises to the power of the prime, so many times. Each part of F2 is conjugated as many times, and w^i becomes w^i times x to the power i (p^times - 1)/6, as w^6 is x.
func (t *Tower) Frob12(a api.F12, times int) api.F12 {
	times = (times%12 + 12) % 12
	turn := api.F2{{1}} // x to the power (p^times - 1)/6
	for range times {
		turn = t.Mul2(t.Conj2(turn), t.turn)
	}
	factor := turn // what w^i becomes, by w^i
	a[0][0] = t.conjugate(a[0][0], times)
	for i := 1; i < 6; i++ {
		part := &a[i%2][i/2] // with w^i, as w^2 is v
		*part = t.Mul2(t.conjugate(*part, times), factor)
		factor = t.Mul2(factor, turn)
	}
	return a
}

// conjugate is a conjugated so many times.
func (t *Tower) conjugate(a api.F2, times int) api.F2 {
	if times%2 == 1 {
		return t.Conj2(a)
	}
	return t.Add2(api.F2{}, a)
}
