package word_test

import (
	"math/big"
	"testing"

	"quarry/api"
	"quarry/word"
)

// checkQuotients holds Div and Mod, Sdiv and Smod of a and b against math/big.
func checkQuotients(t *testing.T, a, b api.Word) {
	t.Helper()
	var quo, rem, squo, srem big.Int // all 0, if b is 0
	if b != (api.Word{}) {
		quo.QuoRem(value(a), value(b), &rem)
		squo.QuoRem(signed(a), signed(b), &srem)
	}
	check(t, word.Div(a, b), &quo, "Div", a, b)
	check(t, word.Mod(a, b), &rem, "Mod", a, b)
	check(t, word.Sdiv(a, b), &squo, "Sdiv", a, b)
	check(t, word.Smod(a, b), &srem, "Smod", a, b)
}

// P1.4, quotients and what is left.
func TestQuotients(t *testing.T) {
	for _, l := range [][]api.Word{edges(), corners()} {
		for _, a := range l {
			for _, b := range l {
				checkQuotients(t, a, b)
			}
		}
	}
}

// P1.4, small numbers of all signs.
func TestSmallQuotients(t *testing.T) {
	for a := int64(-20); a <= 20; a++ {
		for b := int64(-20); b <= 20; b++ {
			checkQuotients(t, num(a), num(b))
		}
	}
}

// P1.4, quotients whose digits are hard to guess: what is taken away is too much, or the guess would pass a limb.
func TestHardQuotients(t *testing.T) {
	for _, l := range [][2]api.Word{
		{{0, 0, 1 << 63, 1<<63 - 1}, {1, 0, 1 << 63}},
		{{0, full - 1, 1 << 63}, {full, 1 << 63}},
		{{3, 0, 1 << 63}, {1, 0, 1 << 61}},
		{{0, 0, 0, 1 << 63}, {1, 0, 1 << 63}},
		{{0, 0, 1 << 63, 1 << 63}, {full, 0, 1<<63 + 1}},
		{{0, 0, full - 1, 1 << 63}, {full, full, 1 << 63}},
		{{full, full, full, full - 1}, {full, full, full}},
		{{0, 0, 0, full}, {full, full}},
		{{full, full, full, full}, {full, full, full, full}},
		{{full - 1, full, full, full}, {full, full, full, full}},
	} {
		checkQuotients(t, l[0], l[1])
		checkQuotients(t, l[1], l[0])
	}
	for _, b := range corners() { // just at a multiple of b, and beside it
		for _, k := range []api.Word{num(1), num(2), {full}, {0, 1}, {full, full}} {
			a := toWord(new(big.Int).Mul(value(b), value(k)))
			for _, more := range []int64{-1, 0, 1} {
				checkQuotients(t, toWord(new(big.Int).Add(value(a), big.NewInt(more))), b)
			}
		}
	}
}

// checkModulo holds Addmod and Mulmod against math/big.
func checkModulo(t *testing.T, a, b, m api.Word) {
	t.Helper()
	sum, product := new(big.Int).Add(value(a), value(b)), new(big.Int).Mul(value(a), value(b))
	if m == (api.Word{}) {
		sum, product = new(big.Int), new(big.Int)
	} else {
		sum.Mod(sum, value(m))
		product.Mod(product, value(m))
	}
	check(t, word.Addmod(a, b, m), sum, "Addmod", a, b, m)
	check(t, word.Mulmod(a, b, m), product, "Mulmod", a, b, m)
}

// P1.4, sums and products that are not cut ahead of m.
func TestModulo(t *testing.T) {
	l := few()
	for _, a := range l {
		for _, b := range l {
			for _, m := range l {
				checkModulo(t, a, b, m)
			}
		}
	}
	l = corners()
	for i, a := range l {
		for k, b := range l {
			checkModulo(t, a, b, l[(i*31+k*17)%len(l)])
			checkModulo(t, a, a, b)
		}
	}
}

// P1.7: a is quotient times b and what is left, and that is below b.
func TestQuotientAndRest(t *testing.T) {
	for _, l := range [][]api.Word{edges(), corners()} {
		for _, a := range l {
			for _, b := range l {
				if b == (api.Word{}) {
					continue
				}
				rest := word.Mod(a, b)
				if word.Add(word.Mul(word.Div(a, b), b), rest) != a || word.Cmp(rest, b) != -1 {
					t.Fatalf("Div, Mod of %x, %x", value(a), value(b))
				}
			}
		}
	}
}
