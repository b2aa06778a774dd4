package fork_test

import (
	"strconv"
	"strings"
	"testing"

	"quarry/api"
	"quarry/fork"
)

// grid tells of each operation the first fork that has it, as a hex digit, or a dot if none has: sixteen operations a line.
const grid = `
000000000000....
00000000000555..
0...............
0000000000000445
00000077AFF.....
000000000000FFFE
0000000000000000
0000000000000000
0000000000000000
0000000000000000
00000...........
................
................
................
................
000015....4..4.0
`

// firstOf are the grid's forks, 16 where it has a dot.
func firstOf(t *testing.T) (first [256]int) {
	t.Helper()
	digits := strings.Join(strings.Fields(grid), "")
	if len(digits) != 256 {
		t.Fatalf("the grid has %d digits", len(digits))
	}
	for i := range first {
		n, err := strconv.ParseUint(digits[i:i+1], 16, 8)
		if err != nil {
			n = 16
		}
		first[i] = int(n)
	}
	return first
}

// TestOp: P13.3: each operation of each fork, and what follows of P13.6.
func TestOp(t *testing.T) {
	for op, first := range firstOf(t) {
		for f := range 16 {
			if got := fork.Op(f, op); got != (f >= first) {
				t.Errorf("Op(%d, %#x): %v", f, op, got)
			}
			if f > 0 && fork.Op(f-1, op) && !fork.Op(f, op) {
				t.Errorf("the operation %#x is lost at fork %d", op, f)
			}
		}
	}
}

// TestOpNone: P13.3: numbers that no fork and no operation has, some of which have such a number's lowest byte.
func TestOpNone(t *testing.T) {
	for _, f := range noForks() {
		for op := -300; op < 600; op++ {
			if fork.Op(f, op) {
				t.Errorf("Op(%d, %#x) is true", f, op)
			}
		}
	}
	far := []int{1 << 32, 1<<32 + 1, -1 << 32, minInt, minInt + 1, maxInt}
	for f := range 16 {
		for op := -300; op < 600; op++ {
			if (op < 0 || op > 255) && fork.Op(f, op) {
				t.Errorf("Op(%d, %d) is true", f, op)
			}
		}
		for _, op := range far {
			if fork.Op(f, op) {
				t.Errorf("Op(%d, %d) is true", f, op)
			}
		}
	}
}

// TestNative: P13.4: each last byte, at each fork.
func TestNative(t *testing.T) {
	most := [16]int{4, 4, 4, 4, 8, 8, 8, 9, 9, 9, 9, 9, 9, 9, 9, 10}
	for f := range 16 {
		for n := range 256 {
			want := n
			if n > most[f] {
				want = 0
			}
			if got := fork.Native(f, api.Address{19: byte(n)}); got != want {
				t.Errorf("Native(%d, %d): %d; must be %d", f, n, got, want)
			}
		}
	}
}

// TestNativeOther: P13.4: addresses that have another byte ahead, and no fork.
func TestNativeOther(t *testing.T) {
	for n := range 12 {
		for i := range 160 - 8 {
			a := api.Address{19: byte(n)}
			a[i/8] |= 1 << (i % 8)
			for f := range 16 {
				if got := fork.Native(f, a); got != 0 {
					t.Errorf("Native(%d, %x): %d", f, a, got)
				}
			}
		}
		for _, f := range noForks() {
			if got := fork.Native(f, api.Address{19: byte(n)}); got != 0 {
				t.Errorf("Native(%d, %d): %d", f, n, got)
			}
		}
	}
}
