package field

import "quarry/api"

// Inv is the inverse.
func (f *Field) Inv(a api.Num) (api.Num, bool) {
	f.reduce(&a)
	if a == (api.Num{}) {
		return api.Num{}, false
	}
	prime, x, y := f.prime, api.Num{1}, api.Num{}
	return f.euclid(&a, &prime, &x, &y), true
}

// euclid is the inverse of the a with a * x = u and a * y = v modulo the prime: these hold all along, while u and v go down till u is 1. (v is odd, and no number but 1 divides both u and v, so that they meet at 1 alone.)
func (f *Field) euclid(u, v, x, y *api.Num) api.Num {
	for *u != (api.Num{1}) {
		if u[0]%2 == 0 {
			halve(u)
			f.half(x)
			continue
		}
		if below(u, v) {
			u, v, x, y = v, u, y, x
		}
		minus(u, u, v)
		f.sub(x, x, y)
	}
	return *x
}

// half makes a what it is divided by 2 modulo the prime: of a and the prime together, if a is odd.
func (f *Field) half(a *api.Num) {
	if a[0]%2 == 1 {
		plus(a, a, &f.prime)
	}
	halve(a)
}
