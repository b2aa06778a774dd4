package nat_test

import (
	"bytes"
	"math/big"
	"testing"

	"quarry/nat"
)

// checkSums holds Add, Sub and Mul of a and b against math/big.
func checkSums(t *testing.T, a, b []byte) {
	t.Helper()
	x, y := value(a), value(b)
	check(t, nat.Add(a, b), new(big.Int).Add(x, y), "Add", a, b)
	check(t, nat.Mul(a, b), new(big.Int).Mul(x, y), "Mul", a, b)
	rest, ok := nat.Sub(a, b)
	if ok != (x.Cmp(y) >= 0) {
		t.Fatalf("Sub of %x, %x: %v", a, b, ok)
	}
	if !ok && len(rest) != 0 {
		t.Fatalf("Sub of %x, %x is refused, and tells %x", a, b, rest)
	}
	if ok {
		check(t, rest, new(big.Int).Sub(x, y), "Sub", a, b)
	}
}

// P2.2, sums, differences and products.
func TestSums(t *testing.T) {
	for _, l := range [][][]byte{edges(), corners()} {
		for _, a := range l {
			for _, b := range l {
				checkSums(t, a, b)
			}
		}
	}
}

// P2.2, numbers of very different and of great lengths; carries and borrows that go from end to end.
func TestLongSums(t *testing.T) {
	ones := bytes.Repeat([]byte{255}, 1000)
	for _, wide := range []int{0, 1, 7, 8, 9, 64, 500, 1000, 1001, 3000} {
		for _, a := range [][]byte{ones, power(8000, 0), power(8000, 1), mixed(1000), padded(mixed(999), 40)} {
			for _, b := range [][]byte{mixed(wide), bytes.Repeat([]byte{255}, wide), padded([]byte{1}, wide)} {
				checkSums(t, a, b)
				checkSums(t, b, a)
			}
		}
	}
}

// P2.2: the same bytes for both numbers.
func TestSumsOfOne(t *testing.T) {
	for _, a := range append(edges(), mixed(700)) {
		checkSums(t, a, a)
	}
}
