package word_test

import (
	"math/big"
	"testing"

	"quarry/api"
	"quarry/word"
)

// checkSums holds Add, Sub, Mul and Wide of a and b against math/big.
func checkSums(t *testing.T, a, b api.Word) {
	t.Helper()
	x, y := value(a), value(b)
	check(t, word.Add(a, b), new(big.Int).Add(x, y), "Add", a, b)
	check(t, word.Sub(a, b), new(big.Int).Sub(x, y), "Sub", a, b)
	whole := new(big.Int).Mul(x, y)
	check(t, word.Mul(a, b), whole, "Mul", a, b)
	hi, lo := word.Wide(a, b)
	check(t, lo, whole, "the lower half of Wide", a, b)
	check(t, hi, new(big.Int).Rsh(whole, 256), "the upper half of Wide", a, b)
}

// P1.3.
func TestSums(t *testing.T) {
	for _, l := range [][]api.Word{edges(), corners()} {
		for _, a := range l {
			for _, b := range l {
				checkSums(t, a, b)
			}
		}
	}
}

// P1.4, Exp.
func TestExp(t *testing.T) {
	end := power(256, 0)
	l := few()
	for _, a := range l {
		for _, b := range l {
			check(t, word.Exp(a, b), new(big.Int).Exp(value(a), value(b), end), "Exp", a, b)
		}
		for n := range int64(20) {
			check(t, word.Exp(a, num(n)), new(big.Int).Exp(value(a), big.NewInt(n), nil), "Exp", a, num(n))
		}
	}
	for n := range uint(300) {
		check(t, word.Exp(num(2), num(int64(n))), power(n, 0), "Exp", num(2), num(int64(n)))
	}
	for _, b := range huge() {
		check(t, word.Exp(num(3), b), new(big.Int).Exp(big.NewInt(3), value(b), end), "Exp", num(3), b)
		check(t, word.Exp(num(0), b), big.NewInt(0), "Exp", num(0), b)
		check(t, word.Exp(num(1), b), big.NewInt(1), "Exp", num(1), b)
	}
}
