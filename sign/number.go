package sign

import (
	"quarry/api"
	"quarry/curve"
	"quarry/field"
	"quarry/word"
)

// coordinates is the field of points' coordinates.
func coordinates() *field.Field { return known(api.SecpP) }

// scalars is the field of keys, and of what signatures are made of.
func scalars() *field.Field { return known(api.SecpN) }

// known is a field whose kind there is.
func known(kind int) *field.Field {
	f, _ := field.New(kind)
	return f
}

// order is how many points Secp has.
func order() api.Word { return narrow(scalars().Modulus()) }

// inOrder: is each of the numbers from 1 to the order less 1?
func inOrder(numbers ...api.Word) bool {
	end := order()
	for _, n := range numbers {
		if n == (api.Word{}) || word.Cmp(n, end) >= 0 {
			return false
		}
	}
	return true
}

// wide is a word as fields have numbers.
func wide(a api.Word) api.Num { return api.Num{a[0], a[1], a[2], a[3]} }

// narrow is a number of fields, below 2^256, as a word.
func narrow(a api.Num) api.Word { return api.Word{a[0], a[1], a[2], a[3]} }

// number is what a hash's bytes are, be it above the order.
func number(h api.Hash) api.Num {
	a, _ := word.From(h[:])
	return wide(a)
}

// isOdd: is it an odd number?
func isOdd(a api.Num) bool { return a[0]%2 == 1 }

// start is Secp's generator.
func start() api.P1 {
	g, _ := curve.Gen1(api.Secp)
	return g
}

// multiple is a point of Secp, k times.
func multiple(p api.P1, k api.Num) api.P1 {
	p, _ = curve.Mul1(api.Secp, p, scalars().Encode(k)) // it refuses none that is on the curve
	return p
}

// constant is b of Secp's y^2 = x^3 + b.
const constant = 7

// above is the point with that x and an odd or an even y, if Secp has points with that x: of those none has y 0.
func above(x api.Num, odd bool) (api.P1, bool) {
	f := coordinates()
	y, ok := f.Sqrt(f.Add(f.Mul(f.Mul(x, x), x), api.Num{constant}))
	if !ok {
		return api.P1{}, false
	}
	if isOdd(y) != odd {
		y = f.Neg(y)
	}
	return api.P1{X: x, Y: y}, true
}
