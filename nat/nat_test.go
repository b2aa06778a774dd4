package nat_test

import (
	"bytes"
	"math"
	"testing"

	"quarry/nat"
)

// P2.1, Trim and Bits.
func TestTrimAndBits(t *testing.T) {
	for _, a := range edges() {
		for _, zeros := range []int{0, 1, 7, 8, 9, 100} {
			b := padded(a, zeros)
			check(t, nat.Trim(b), value(a), "Trim", b)
			if n := nat.Bits(b); n != value(a).BitLen() {
				t.Fatalf("Bits of %x: %d", b, n)
			}
		}
	}
	for n := range uint(600) {
		if nat.Bits(power(n, 0)) != int(n)+1 || nat.Bits(power(n, -1)) != int(n) {
			t.Fatalf("Bits of 2^%d, or of that less 1", n)
		}
	}
	if a := nat.Trim([]byte{0, 0, 1, 0, 2, 0, 0}); !bytes.Equal(a, []byte{1, 0, 2, 0, 0}) {
		t.Errorf("Trim takes other zeros than those ahead: %x", a)
	}
}

// P2.1, Cmp: by the values, however many zeros stand ahead.
func TestCmp(t *testing.T) {
	l := edges()
	for _, a := range l {
		for _, b := range l {
			want := value(a).Cmp(value(b))
			if nat.Cmp(a, b) != want || nat.Cmp(padded(a, 9), b) != want || nat.Cmp(a, padded(b, 300)) != want {
				t.Fatalf("Cmp of %x, %x is not %d", a, b, want)
			}
		}
	}
	for i, c := range []struct {
		a, b []byte
		want int
	}{{[]byte{2}, []byte{1, 0}, -1}, {[]byte{1, 0}, []byte{2}, 1}, {[]byte{1, 2, 3}, []byte{1, 2, 4}, -1}, {[]byte{1, 2, 3}, []byte{1, 1, 4}, 1}, {nil, []byte{0, 0}, 0}, {nil, []byte{0, 1}, -1}} {
		if got := nat.Cmp(c.a, c.b); got != c.want {
			t.Errorf("row %d: %d, must be %d", i, got, c.want)
		}
	}
}

// P2.1, Bit: each bit of a number, those beyond it, and those below 0.
func TestBit(t *testing.T) {
	for _, a := range edges() {
		n := value(a)
		for i := range 8*len(a) + 70 {
			if b := nat.Bit(a, i); b != int(n.Bit(i)) || b != nat.Bit(padded(a, 3), i) {
				t.Fatalf("Bit %d of %x: %d", i, a, b)
			}
		}
		for _, i := range []int{-1, -2, -7, -8, -9, -64, math.MinInt32, math.MinInt, math.MaxInt32, math.MaxInt - 7, math.MaxInt} {
			if b := nat.Bit(a, i); b != 0 {
				t.Fatalf("Bit %d of %x: %d", i, a, b)
			}
		}
	}
}

// P2.4: a's own bytes, one less, one more, and far more; with and without zeros ahead in a.
func TestFill(t *testing.T) {
	for _, a := range append(edges(), mixed(65535), mixed(65536), padded(mixed(65536), 5)) {
		n := value(a)
		need := len(n.Bytes())
		for _, wide := range []int{need, need + 1, need + 8, 2*need + 100, 65535, 65536} {
			if wide < need || wide > 65536 {
				continue
			}
			b, ok := nat.Fill(a, wide)
			if !ok || !bytes.Equal(b, n.FillBytes(make([]byte, wide))) {
				t.Fatalf("Fill of %d bytes with %d: %v, %d bytes", len(a), wide, ok, len(b))
			}
		}
		for _, wide := range []int{need - 1, need - 2, need / 2, 0} {
			if wide >= need {
				continue
			}
			if b, ok := nat.Fill(a, wide); ok || len(b) != 0 {
				t.Fatalf("Fill of %d bytes with %d: %v, %d bytes", len(a), wide, ok, len(b))
			}
		}
	}
}

// P2.4: wides that are refused whatever the number is.
func TestFillRefuses(t *testing.T) {
	for _, a := range [][]byte{nil, {0}, {1}, {1, 0}, make([]byte, 70000), mixed(65537), padded([]byte{1}, 65537)} {
		for _, wide := range []int{-1, -2, -8, -65536, math.MinInt32, math.MinInt, 65537, 65538, 1 << 20, math.MaxInt32, math.MaxInt} {
			if b, ok := nat.Fill(a, wide); ok || len(b) != 0 {
				t.Errorf("Fill of %d bytes with %d: %v, %d bytes", len(a), wide, ok, len(b))
			}
		}
	}
	if b, ok := nat.Fill(mixed(65537), 65536); ok || len(b) != 0 {
		t.Error("Fill of a number of 65537 bytes")
	}
	if b, ok := nat.Fill(make([]byte, 70000), 65536); !ok || !bytes.Equal(b, make([]byte, 65536)) {
		t.Error("Fill of 70000 zeros")
	}
}

// mixed is a number of so many bytes.
func mixed(wide int) []byte {
	m := mixer(wide)
	return m.number(wide)
}
