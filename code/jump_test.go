package code_test

import (
	"bytes"
	"math"
	"slices"
	"testing"

	"quarry/api"
	"quarry/code"
)

// plainJumps says of each place of a code whether may be jumped there: each byte is looked at with whose own it is.
func plainJumps(c []byte) []bool {
	jump, owned := make([]bool, len(c)), 0
	for i, op := range c {
		if owned > 0 {
			owned--
			continue
		}
		switch {
		case op == 0x5b:
			jump[i] = true
		case op >= 0x60 && op <= 0x7f:
			owned = int(op) - 0x60 + 1
		}
	}
	return jump
}

// sameJumps holds Jumps and Jump of a code, at each place and beside them, against plainJumps.
func sameJumps(t *testing.T, c []byte) {
	t.Helper()
	var want []int
	for at, jump := range plainJumps(c) {
		if jump {
			want = append(want, at)
		}
		if code.Jump(c, api.Word{uint64(at)}) != jump {
			t.Fatalf("Jump(%x, %d) is not %v", c, at, jump)
		}
		for _, far := range []api.Word{{uint64(at), 1}, {uint64(at), 0, 1}, {uint64(at), 0, 0, 1}, {uint64(at), 1 << 63}, {uint64(at) | 1<<63}, {uint64(at) | 1<<32}, {^uint64(at)}} {
			if code.Jump(c, far) {
				t.Fatalf("Jump(%x, %v)", c, far)
			}
		}
	}
	if got := code.Jumps(c); !slices.Equal(got, want) {
		t.Fatalf("Jumps(%x): %v, not %v", c, got, want)
	}
	for _, beside := range []uint64{uint64(len(c)), uint64(len(c)) + 1, math.MaxInt64, math.MaxInt64 + 1, math.MaxUint64} {
		if code.Jump(c, api.Word{beside}) {
			t.Fatalf("Jump(%x, %d)", c, beside)
		}
	}
}

// TestJumpsShort: P18.2: all short codes of those bytes that matter.
func TestJumpsShort(t *testing.T) {
	t.Parallel()
	for _, c := range short() {
		sameJumps(t, c)
	}
}

// TestJumpsBehind: P18.2: each operation with 40 bytes 0x5b behind it, and ahead of it each PUSH, which may hide it.
func TestJumpsBehind(t *testing.T) {
	t.Parallel()
	for op := range 256 {
		c := append([]byte{byte(op)}, bytes.Repeat([]byte{0x5b}, 40)...)
		for n := range c {
			sameJumps(t, c[:n+1])
		}
		for push := 0x60; push < 0x80 && op > 0x58 && op < 0x82; push++ {
			for zeros := range 34 {
				ahead := append([]byte{byte(push)}, make([]byte, zeros)...)
				sameJumps(t, append(ahead, c...))
			}
		}
	}
}

// TestJumpsAny: P18.2: codes without any order.
func TestJumpsAny(t *testing.T) {
	t.Parallel()
	m := mixer(182)
	for range 3000 {
		sameJumps(t, m.code(200))
	}
	sameJumps(t, nil)
	sameJumps(t, []byte{})
}

// TestJumpsLong: P18.2: a code of a million places, all or every other one to be jumped to.
func TestJumpsLong(t *testing.T) {
	t.Parallel()
	all := bytes.Repeat([]byte{0x5b}, 1<<20)
	if got := code.Jumps(all); len(got) != len(all) || got[len(got)-1] != len(all)-1 {
		t.Errorf("%d places", len(got))
	}
	hidden := bytes.Repeat([]byte{0x5b, 0x60, 0x5b, 0x5b}, 1<<18)
	if got := code.Jumps(hidden); len(got) != len(hidden)/2 || got[2] != 4 || got[3] != 7 {
		t.Errorf("%d places", len(got))
	}
	for at := len(hidden) - 4; at < len(hidden); at++ {
		if code.Jump(hidden, api.Word{uint64(at)}) != (at%4 == 0 || at%4 == 3) {
			t.Errorf("Jump to %d", at)
		}
	}
}
