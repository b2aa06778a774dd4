package nat_test

import (
	"bytes"
	"math/big"
	"testing"

	"quarry/nat"
)

// checkQuotient holds DivMod of a and b against math/big.
func checkQuotient(t *testing.T, a, b []byte) {
	t.Helper()
	q, r, ok := nat.DivMod(a, b)
	if value(b).Sign() == 0 {
		if ok || len(q) != 0 || len(r) != 0 {
			t.Fatalf("DivMod of %x, %x: %x, %x, %v", a, b, q, r, ok)
		}
		return
	}
	if !ok {
		t.Fatalf("DivMod of %x, %x is refused", a, b)
	}
	quo, rem := new(big.Int).QuoRem(value(a), value(b), new(big.Int))
	check(t, q, quo, "the quotient of DivMod", a, b)
	check(t, r, rem, "the rest of DivMod", a, b)
}

// P2.2, DivMod.
func TestQuotients(t *testing.T) {
	for _, l := range [][][]byte{edges(), corners()} {
		for _, a := range l {
			for _, b := range l {
				checkQuotient(t, a, b)
			}
		}
	}
	for _, a := range edges() {
		checkQuotient(t, a, a)
		for _, zeros := range []int{0, 1, 8, 9, 100} {
			checkQuotient(t, a, make([]byte, zeros))
			checkQuotient(t, padded(a, zeros), padded([]byte{3}, zeros))
		}
	}
}

// P2.2, DivMod just at a multiple of the divisor, and beside it.
func TestQuotientsAtMultiples(t *testing.T) {
	for _, b := range corners() {
		for _, k := range [][]byte{{1}, {2}, power(64, -1), power(64, 0), power(128, -1), mixed(17)} {
			n := new(big.Int).Mul(value(b), value(k))
			checkQuotient(t, n.Bytes(), b)
			checkQuotient(t, new(big.Int).Add(n, big.NewInt(1)).Bytes(), b)
			if n.Sign() > 0 {
				checkQuotient(t, new(big.Int).Sub(n, big.NewInt(1)).Bytes(), b)
			}
		}
	}
}

// limbs is a number by its limbs of 64 bits, the highest first.
func limbs(l ...uint64) []byte {
	n := new(big.Int)
	for _, v := range l {
		n.Lsh(n, 64)
		n.Or(n, new(big.Int).SetUint64(v))
	}
	return n.Bytes()
}

// P2.2, quotients whose digits are hard to guess: a guess is one too much and is to be given back, or it would pass a limb.
func TestHardQuotients(t *testing.T) {
	const half, full = 1 << 63, 1<<64 - 1
	for _, l := range [][2][]byte{
		{limbs(half-1, half, 0, 0), limbs(half, 0, 1)},
		{limbs(half, full-1, 0), limbs(half, full)},
		{limbs(half, 0, 3), limbs(half/4, 0, 1)},
		{limbs(half, 0, 0, 0), limbs(half, 0, 1)},
		{limbs(half, half, 0, 0), limbs(half+1, 0, full)},
		{limbs(half, full-1, 0, 0), limbs(half, full, full)},
		{limbs(full-1, full, full, full), limbs(full, full, full)},
		{limbs(full, 0, 0, 0), limbs(full, full)},
		{limbs(half, 0, 0), limbs(half, full)},
		{limbs(half, 0, 0, 0, 0), limbs(half, full, 1)},
		{limbs(full, full, full, full), limbs(full, full, full, full)},
		{limbs(full, full, full, full-1), limbs(full, full, full, full)},
		{limbs(1, 0, 0, 0, 0, 0), limbs(1, 0, 0)},
		{limbs(1, 0, 0, 0, 0, 0), limbs(half, 0, full)},
	} {
		checkQuotient(t, l[0], l[1])
		checkQuotient(t, l[1], l[0])
		for shift := range uint(130) { // the same with its highest bit elsewhere
			a := new(big.Int).Lsh(value(l[0]), shift)
			checkQuotient(t, a.Bytes(), l[1])
			checkQuotient(t, a.Bytes(), new(big.Int).Lsh(value(l[1]), shift).Bytes())
		}
	}
}

// P2.2, DivMod of long numbers.
func TestLongQuotients(t *testing.T) {
	for _, wide := range []int{1, 7, 8, 9, 15, 16, 17, 24, 100, 999, 1000, 1001, 1500} {
		for _, a := range [][]byte{mixed(1000), bytes.Repeat([]byte{255}, 1000), power(8000, 0)} {
			checkQuotient(t, a, mixed(wide))
			checkQuotient(t, a, bytes.Repeat([]byte{255}, wide))
			checkQuotient(t, a, power(uint(8*wide-8), 1))
		}
	}
}

// P2.5: a is q times b and r, and r is below b.
func TestQuotientAndRest(t *testing.T) {
	for _, l := range [][][]byte{edges(), corners(), {mixed(1000), mixed(300), mixed(8)}} {
		for _, a := range l {
			for _, b := range l {
				if value(b).Sign() == 0 {
					continue
				}
				q, r, ok := nat.DivMod(a, b)
				if !ok || nat.Cmp(nat.Add(nat.Mul(q, b), r), a) != 0 || nat.Cmp(r, b) != -1 {
					t.Fatalf("DivMod of %x, %x: %x, %x, %v", a, b, q, r, ok)
				}
			}
		}
	}
}
