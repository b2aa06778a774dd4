package nat_test

import (
	"bytes"
	"math/big"
	"testing"

	"quarry/nat"
)

// checkPower holds ModExp against math/big.
func checkPower(t *testing.T, b, e, m []byte) {
	t.Helper()
	want := new(big.Int) // math/big takes no modulus as one without end
	if value(m).Sign() != 0 {
		want.Exp(value(b), value(e), value(m))
	}
	check(t, nat.ModExp(b, e, m), want, "ModExp", b, e, m)
}

// P2.3, odd and even moduli, 0 and 1 in each place, the base below and above the modulus.
func TestModExp(t *testing.T) {
	l := few()
	for _, b := range l {
		for _, e := range l {
			for _, m := range l {
				checkPower(t, b, e, m)
			}
		}
	}
}

// P2.3, all small numbers.
func TestSmallPowers(t *testing.T) {
	for b := range byte(9) {
		for e := range byte(10) {
			for m := range byte(20) {
				checkPower(t, []byte{b}, []byte{e}, []byte{m})
				checkPower(t, []byte{0, b}, []byte{0, 0, e}, []byte{0, m})
			}
		}
	}
}

// P2.3: to the power 0 it is 1, modulo 1 it is 0, modulo 0 there is none.
func TestPowersOfNothing(t *testing.T) {
	zeros := [][]byte{nil, {}, {0}, make([]byte, 40)}
	for _, b := range edges() {
		for _, zero := range zeros {
			if p := nat.ModExp(b, zero, []byte{7}); !bytes.Equal(p, []byte{1}) {
				t.Fatalf("ModExp of %x, %x, 7: %x", b, zero, p)
			}
			for _, e := range edges() {
				if p := nat.ModExp(b, e, zero); len(p) != 0 {
					t.Fatalf("ModExp of %x, %x, 0: %x", b, e, p)
				}
			}
		}
		for _, e := range edges() {
			if p := nat.ModExp(b, e, []byte{0, 1}); len(p) != 0 {
				t.Fatalf("ModExp of %x, %x, 1: %x", b, e, p)
			}
		}
	}
}

// P2.3, long numbers, and lengths that differ.
func TestLongPowers(t *testing.T) {
	for _, n := range [][3]int{{1, 1, 300}, {300, 1, 1}, {1, 300, 1}, {32, 32, 32}, {64, 3, 64}, {64, 65, 33}, {128, 128, 128}, {500, 20, 256}, {2000, 2, 8}, {3, 5000, 9}} {
		b, e, m := mixed(n[0]), mixed(n[1]+1), mixed(n[2]+2)
		checkPower(t, b, e, m)
		m[len(m)-1] |= 1
		checkPower(t, b, e, m)
		m[len(m)-1] = 0
		checkPower(t, b, e, m)
		checkPower(t, b, e, bytes.Repeat([]byte{255}, n[2]))
		checkPower(t, b, e, power(uint(8*n[2]), 0))
		checkPower(t, m, e, m)
	}
}

// P2.3: Fermat's small theorem, by a prime of 256 bits and one of 381.
func TestFermat(t *testing.T) {
	for _, text := range []string{"fffffffffffffffffffffffffffffffffffffffffffffffffffffffefffffc2f", "1a0111ea397fe69a4b1ba7b6434bacd764774b84f38512bf6730d2a0f6b0f6241eabfffeb153ffffb9feffffffffaaab"} {
		p, _ := new(big.Int).SetString(text, 16)
		less, ok := nat.Sub(p.Bytes(), []byte{1})
		for _, a := range [][]byte{{2}, {3}, mixed(20), less} {
			if !ok || !bytes.Equal(nat.ModExp(a, less, p.Bytes()), []byte{1}) {
				t.Errorf("ModExp of %x to the prime less 1, %x", a, less)
			}
			if nat.Cmp(nat.ModExp(a, p.Bytes(), p.Bytes()), a) != 0 {
				t.Errorf("ModExp of %x to the prime", a)
			}
		}
	}
}
