package gas_test

import (
	"math"
	"strconv"
	"strings"
	"testing"

	"quarry/api"
	"quarry/fork"
	"quarry/gas"
)

// takes tells what operations take at all forks that have them, in hex digits, as the chapter's table does; those that stand in no line take nothing.
const takes = `
1 5b
2 30 32-34 36 38 3a 3d 41-46 48 4a 50 58-5a 5f
3 01 03 10-1d 35 37 39 3e 49 51-53 5e 60-9f
5 02 04-07 0b 47
8 08 09 56
10 0a 57
20 40
30 20
100 5c 5d
375 a0-a4
32000 f0 f5
`

// differs tells what other operations take, fork by fork from Frontier on; the last number holds for all that follow.
const differs = `
31 20 20 400 400 400 400 400 700 700 0
3b-3c 20 20 700 700 700 700 700 700 700 0
3f 0 0 0 0 0 400 400 700 700 0
54 50 50 200 200 200 200 200 800 800 0
f1-f2 40 40 700 700 700 700 700 700 700 0
f4 0 40 700 700 700 700 700 700 700 0
fa 0 0 0 0 700 700 700 700 700 0
ff 0 0 5000
`

// number is the number that the digits say.
func number(t *testing.T, text string, base int) uint64 {
	t.Helper()
	v, err := strconv.ParseUint(text, base, 64)
	if err != nil {
		t.Fatal(err)
	}
	return v
}

// span is the operations of a piece of these tables.
func span(t *testing.T, piece string) (ops []int) {
	t.Helper()
	first, last, two := strings.Cut(piece, "-")
	if !two {
		last = first
	}
	for op := number(t, first, 16); op <= number(t, last, 16); op++ {
		ops = append(ops, int(op))
	}
	return ops
}

// baseOf is what each operation takes at a fork that has it.
func baseOf(t *testing.T, at int) (base [256]uint64) {
	t.Helper()
	met := map[int]bool{}
	set := func(op int, gas uint64) {
		if met[op] {
			t.Fatalf("the operation %#x stands twice", op)
		}
		met[op] = true
		base[op] = gas
	}
	for line := range strings.Lines(strings.TrimSpace(takes)) {
		pieces := strings.Fields(line)
		for _, piece := range pieces[1:] {
			for _, op := range span(t, piece) {
				set(op, number(t, pieces[0], 10))
			}
		}
	}
	for line := range strings.Lines(strings.TrimSpace(differs)) {
		pieces := strings.Fields(line)
		for _, op := range span(t, pieces[0]) {
			set(op, number(t, pieces[1+min(at, len(pieces)-2)], 10))
		}
	}
	return base
}

// TestBase: P17.1: each operation of each fork, and each number of one byte that is none there.
func TestBase(t *testing.T) {
	t.Parallel()
	for at := range forks {
		base := baseOf(t, at)
		r := rules(t, at)
		for op := range 256 {
			want := base[op]
			if !fork.Op(at, op) {
				want = 0
			}
			if got := gas.Base(r, op); got != want {
				t.Errorf("Base at %d of %#x: %d, not %d", at, op, got, want)
			}
		}
	}
}

// TestBaseAll: P17.1: of the operations of the last fork, those that take nothing in any case are told by name.
func TestBaseAll(t *testing.T) {
	t.Parallel()
	free := map[int]bool{0x00: true, 0x55: true, 0xf3: true, 0xfd: true, 0x31: true, 0x3b: true, 0x3c: true, 0x3f: true, 0x54: true, 0xf1: true, 0xf2: true, 0xf4: true, 0xfa: true}
	r := rules(t, api.Cancun)
	for op := range 256 {
		if got := gas.Base(r, op); (got > 0) != (fork.Op(api.Cancun, op) && !free[op]) {
			t.Errorf("Base of %#x: %d", op, got)
		}
	}
}

// TestBaseNone: P17.1: numbers that no operation has, some of which have such a one's lowest byte, take nothing.
func TestBaseNone(t *testing.T) {
	t.Parallel()
	for at := range forks {
		r := rules(t, at)
		for op := -600; op < 1200; op++ {
			if got := gas.Base(r, op); (op < 0 || op > 255) && got != 0 {
				t.Errorf("Base at %d of %d: %d", at, op, got)
			}
		}
		for _, op := range []int{1<<32 + 1, -1<<32 + 1, 1<<62 + 0x20, math.MinInt + 0x20, math.MinInt, math.MaxInt} {
			if got := gas.Base(r, op); got != 0 {
				t.Errorf("Base at %d of %d: %d", at, op, got)
			}
		}
	}
}

// TestBaseComes: P17.1: an operation takes nothing ahead of the fork at which it comes.
func TestBaseComes(t *testing.T) {
	t.Parallel()
	for _, x := range []struct {
		op, first int
		gas       uint64
	}{
		{0xf4, api.Homestead, 40}, {0x3d, api.Byzantium, 2}, {0x3e, api.Byzantium, 3}, {0xfa, api.Byzantium, 700},
		{0x1b, api.Constantinople, 3}, {0x1d, api.Constantinople, 3}, {0x3f, api.Constantinople, 400}, {0xf5, api.Constantinople, 32000},
		{0x46, api.Istanbul, 2}, {0x47, api.Istanbul, 5}, {0x48, api.London, 2}, {0x5f, api.Shanghai, 2},
		{0x49, api.Cancun, 3}, {0x4a, api.Cancun, 2}, {0x5c, api.Cancun, 100}, {0x5d, api.Cancun, 100}, {0x5e, api.Cancun, 3},
	} {
		if got := gas.Base(rules(t, x.first-1), x.op); got != 0 {
			t.Errorf("Base at %d of %#x: %d, though it isn't there", x.first-1, x.op, got)
		}
		if got := gas.Base(rules(t, x.first), x.op); got != x.gas {
			t.Errorf("Base at %d of %#x: %d, not %d", x.first, x.op, got, x.gas)
		}
	}
}
