package word_test

import (
	"math/big"
	"testing"

	"quarry/word"
)

// P1.5, of each k that has a byte, of those beyond, and of huge ones.
func TestSignextend(t *testing.T) {
	l := append(edges(), corners()...)
	for k := range uint(31) { // numbers about the sign bit of byte k, with something above it and with nothing
		for _, more := range []int64{-1, 0, 1} {
			a := power(8*k+7, more)
			l = append(l, toWord(a), toWord(new(big.Int).Add(a, power(8*k+8, 0))))
		}
	}
	for _, a := range l {
		for k := range uint(40) {
			want := value(a)
			if k < 31 {
				want.Mod(want, power(8*k+8, 0))
				if want.Bit(int(8*k+7)) == 1 {
					want.Sub(want, power(8*k+8, 0))
				}
			}
			check(t, word.Signextend(num(int64(k)), a), want, "Signextend", num(int64(k)), a)
		}
		for _, k := range huge() {
			check(t, word.Signextend(k, a), value(a), "Signextend", k, a)
		}
	}
}

// P1.6, bit by bit.
func TestBitwise(t *testing.T) {
	l := edges()
	for _, a := range l {
		x := value(a)
		check(t, word.Not(a), new(big.Int).Not(x), "Not", a)
		for _, b := range l {
			y := value(b)
			check(t, word.And(a, b), new(big.Int).And(x, y), "And", a, b)
			check(t, word.Or(a, b), new(big.Int).Or(x, y), "Or", a, b)
			check(t, word.Xor(a, b), new(big.Int).Xor(x, y), "Xor", a, b)
		}
	}
}

// P1.6, Byte.
func TestByte(t *testing.T) {
	for _, a := range append(edges(), corners()...) {
		var b [32]byte
		value(a).FillBytes(b[:])
		for i, v := range b {
			check(t, word.Byte(num(int64(i)), a), big.NewInt(int64(v)), "Byte", num(int64(i)), a)
		}
		for i := range int64(240) {
			check(t, word.Byte(num(32+i), a), big.NewInt(0), "Byte", num(32+i), a)
		}
		for _, i := range huge() {
			check(t, word.Byte(i, a), big.NewInt(0), "Byte", i, a)
		}
	}
}

// P1.6, shifts by each number of bits, by a few more, and by far too many.
func TestShifts(t *testing.T) {
	for _, a := range edges() {
		x, s := value(a), signed(a)
		for n := range uint(330) {
			k := num(int64(n))
			check(t, word.Shl(k, a), new(big.Int).Lsh(x, n), "Shl", k, a)
			check(t, word.Shr(k, a), new(big.Int).Rsh(x, n), "Shr", k, a)
			check(t, word.Sar(k, a), new(big.Int).Rsh(s, n), "Sar", k, a)
		}
		sign := big.NewInt(int64(min(s.Sign(), 0)))
		for _, k := range append(huge(), num(511), num(512), num(1000), num(65536)) {
			check(t, word.Shl(k, a), big.NewInt(0), "Shl", k, a)
			check(t, word.Shr(k, a), big.NewInt(0), "Shr", k, a)
			check(t, word.Sar(k, a), sign, "Sar", k, a)
		}
	}
}
