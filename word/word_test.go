package word_test

import (
	"bytes"
	"math/big"
	"testing"

	"quarry/api"
	"quarry/word"
)

// P1.1, Of and Small; the limbs are held against numbers that are written out.
func TestOfAndSmall(t *testing.T) {
	for _, n := range []uint64{0, 1, 2, 255, 256, 1 << 32, 1<<63 - 1, 1 << 63, full - 1, full} {
		if a := word.Of(n); a != (api.Word{n, 0, 0, 0}) {
			t.Errorf("Of(%d) is %x", n, a)
		}
		if m, ok := word.Small(api.Word{n, 0, 0, 0}); m != n || !ok {
			t.Errorf("Small of %d: %d, %v", n, m, ok)
		}
	}
	for _, a := range []api.Word{{0, 1}, {5, 1}, {0, 0, 1}, {5, 0, 1}, {0, 0, 0, 1}, {5, 0, 0, 1}, {5, 1 << 63}, {5, 0, 1 << 63}, {5, 0, 0, 1 << 63}, {full, full, full, full}} {
		if m, ok := word.Small(a); m != 0 || ok {
			t.Errorf("Small of %x: %d, %v, must be 0, false", a, m, ok)
		}
	}
	for _, a := range append(edges(), corners()...) {
		n, fits := value(a), value(a).IsUint64()
		if !fits {
			n.SetInt64(0)
		}
		if m, ok := word.Small(a); m != n.Uint64() || ok != fits {
			t.Errorf("Small of %x: %d, %v", a, m, ok)
		}
	}
}

// P1.1, From: any number of bytes up to 32, zeros ahead or none.
func TestFrom(t *testing.T) {
	for n := range 33 {
		b := make([]byte, n)
		for i := range b {
			b[i] = byte(0x80 + 7*i)
		}
		for zeros := range n + 1 { // the same length with more and more zeros ahead
			clear(b[:zeros])
			a, ok := word.From(b)
			if !ok || !same(a, new(big.Int).SetBytes(b)) {
				t.Fatalf("From of %x: %x, %v", b, a, ok)
			}
		}
	}
	if a, ok := word.From(nil); !ok || a != (api.Word{}) {
		t.Error("From of nil")
	}
	if a, ok := word.From([]byte{1, 2, 3, 4, 5, 6, 7, 8, 9, 10}); !ok || a != (api.Word{0x030405060708090a, 0x0102}) {
		t.Errorf("From of ten bytes: %x, %v", a, ok)
	}
	for _, n := range []int{33, 34, 40, 64, 1000} {
		zeros, ones := make([]byte, n), bytes.Repeat([]byte{1}, n)
		last := make([]byte, n)
		last[n-1] = 9
		for _, b := range [][]byte{zeros, ones, last} {
			if a, ok := word.From(b); ok || a != (api.Word{}) {
				t.Errorf("From of %d bytes: %x, %v", n, a, ok)
			}
		}
	}
}

// P1.1, Bytes, Short and Bits.
func TestOut(t *testing.T) {
	for _, a := range append(edges(), corners()...) {
		n := value(a)
		var want [32]byte
		n.FillBytes(want[:])
		if b := word.Bytes(a); b != want {
			t.Fatalf("Bytes of %x: %x", n, b)
		}
		if b := word.Short(a); !bytes.Equal(b, n.Bytes()) {
			t.Fatalf("Short of %x: %x", n, b)
		}
		if b := word.Bits(a); b != n.BitLen() {
			t.Fatalf("Bits of %x: %d", n, b)
		}
	}
	if b := word.Bytes(api.Word{0x1718191a1b1c1d1e, 0x0f10111213141516, 0x0708090a0b0c0d0e, 0x0001020304050607 - 1}); b[0] != 0 || b[7] != 6 || b[8] != 7 || b[31] != 0x1e {
		t.Errorf("Bytes: %x", b)
	}
	for n := range uint(256) {
		if a := two(n, 0); word.Bits(a) != int(n)+1 || word.Bits(two(n, -1)) != int(n) || len(word.Short(a)) != int(n)/8+1 {
			t.Errorf("Bits, Short of 2^%d", n)
		}
	}
	if word.Bits(two(256, -1)) != 256 || len(word.Short(two(256, -1))) != 32 {
		t.Error("Bits, Short of 2^256 - 1")
	}
}

// R2: From leaves its bytes as they are, and what Short tells is new memory.
func TestMemory(t *testing.T) {
	room := []byte{9, 1, 2, 3, 8, 8, 8, 8, 8, 8, 8, 8, 8, 8, 8, 8, 8, 8, 8, 8, 8, 8, 8, 8, 8, 8, 8, 8, 8, 8, 8, 8, 8, 8, 8, 8, 8, 8, 8, 8}
	was := bytes.Clone(room)
	a, ok := word.From(room[1:4])
	if !ok || a != num(0x010203) || !bytes.Equal(room, was) {
		t.Errorf("From of a piece: %x, %v; behind it %x", a, ok, room)
	}
	word.From(room)
	if !bytes.Equal(room, was) {
		t.Errorf("From of too many bytes: behind it %x", room)
	}
	for _, n := range []int64{0, 1, 0x1234, -1} {
		a := num(n)
		b, c := word.Short(a), word.Short(a)
		all := b[:cap(b)]
		for i := range all {
			all[i] = 0x55
		}
		if !bytes.Equal(c, value(a).Bytes()) || !bytes.Equal(word.Short(a), c) {
			t.Errorf("Short of %x: what it told shares memory", value(a))
		}
	}
}

// P1.2.
func TestOrder(t *testing.T) {
	l := append(edges(), num(0), num(0))
	for _, a := range l {
		for _, b := range l {
			if c, want := word.Cmp(a, b), value(a).Cmp(value(b)); c != want {
				t.Fatalf("Cmp of %x, %x: %d", value(a), value(b), c)
			}
			if c, want := word.Scmp(a, b), signed(a).Cmp(signed(b)); c != want {
				t.Fatalf("Scmp of %x, %x: %d", signed(a), signed(b), c)
			}
		}
	}
	l = corners()
	for _, a := range l {
		for _, b := range l {
			if word.Cmp(a, b) != value(a).Cmp(value(b)) || word.Scmp(a, b) != signed(a).Cmp(signed(b)) {
				t.Fatalf("Cmp, Scmp of %x, %x", value(a), value(b))
			}
		}
	}
}

// P1.7: what goes out comes in again.
func TestThereAndBack(t *testing.T) {
	for _, a := range append(edges(), corners()...) {
		b := word.Bytes(a)
		if c, ok := word.From(b[:]); !ok || c != a {
			t.Fatalf("From(Bytes(%x)): %x, %v", value(a), value(c), ok)
		}
		if c, ok := word.From(word.Short(a)); !ok || c != a {
			t.Fatalf("From(Short(%x)): %x, %v", value(a), value(c), ok)
		}
	}
}
