package code_test

import (
	"strconv"
	"strings"
	"testing"

	"quarry/api"
	"quarry/code"
)

// TestName: P18.1: each operation of each fork by the chapter's table, none beside them.
func TestName(t *testing.T) {
	t.Parallel()
	for at := range forks {
		rows := table(t, at)
		for op := -300; op < 600; op++ {
			if got := code.Name(at, op); got != rows[op].name {
				t.Errorf("Name(%d, %#x): %q, not %q", at, op, got, rows[op].name)
			}
		}
		for _, op := range noOps() {
			if got := code.Name(at, op); got != "" {
				t.Errorf("Name(%d, %d): %q", at, op, got)
			}
		}
	}
}

// TestNamed: P18.1: each name that there is at any fork, at each fork: the one operation that has it there.
func TestNamed(t *testing.T) {
	t.Parallel()
	all := map[string]bool{}
	for at := range forks {
		for _, r := range table(t, at) {
			all[r.name] = true
		}
	}
	if len(all) != 79+1+69 {
		t.Errorf("%d names", len(all))
	}
	for at := range forks {
		ops := map[string]int{}
		for op, r := range table(t, at) {
			ops[r.name] = op
		}
		for name := range all {
			want, there := ops[name]
			if got, ok := code.Named(at, name); got != want || ok != there {
				t.Errorf("Named(%d, %q): %#x %v, not %#x %v", at, name, got, ok, want, there)
			}
		}
	}
}

// TestNamedRandao: P18.1: the operation 0x44 has one name before Paris, and another from there on.
func TestNamedRandao(t *testing.T) {
	t.Parallel()
	for at := range forks {
		old, isOld := code.Named(at, "DIFFICULTY")
		late, isLate := code.Named(at, "PREVRANDAO")
		if isOld != (at < api.Paris) || isLate == isOld || old+late != 0x44 {
			t.Errorf("at %d: DIFFICULTY %#x %v, PREVRANDAO %#x %v", at, old, isOld, late, isLate)
		}
	}
}

// TestNamedNone: P18.1: names that no operation has: other letters, more or fewer, other numbers, other runes that look like these.
func TestNamedNone(t *testing.T) {
	t.Parallel()
	names := []string{
		"", " ", "INVALID", "invalid", "PUSH", "PUSH00", "PUSH01", "PUSH33", "PUSH-1", "PUSH+1", "PUSH 1", "DUP", "DUP0", "DUP17", "DUP01",
		"SWAP", "SWAP0", "SWAP17", "LOG", "LOG5", "LOG-1", "LOG00", "KECCAK", "SHA3", "SUICIDE", "RANDOM", "GASPRIC", "CALLE", "PUSH255",
		"0x01", "\u212aECCAK256", "\u017fTOP", "\uff21DD", "PUSH\u0661", "A\x00", "\xff", strings.Repeat("PUSH1", 1<<16),
	}
	for op := range 256 {
		if name := code.Name(api.Cancun, op); name != "" {
			small := strings.ToLower(name)
			names = append(names, small, name[:1]+small[1:], name+" ", " "+name, name+"\n", name+"Z", name+"\x00", "Z"+name, "0x"+strconv.FormatInt(int64(op), 16))
		}
	}
	for at := range forks {
		for _, name := range names {
			if op, ok := code.Named(at, name); op != 0 || ok {
				t.Errorf("Named(%d, %.20q): %#x %v", at, name, op, ok)
			}
		}
	}
}

// TestPops: P18.1: how many words each operation of each fork takes and lays.
func TestPops(t *testing.T) {
	t.Parallel()
	for at := range forks {
		rows := table(t, at)
		for op := -300; op < 600; op++ {
			want, there := rows[op]
			if takes, lays, ok := code.Pops(at, op); takes != want.takes || lays != want.lays || ok != there {
				t.Errorf("Pops(%d, %#x): %d %d %v, not %v %v", at, op, takes, lays, ok, want, there)
			}
		}
		for _, op := range noOps() {
			if takes, lays, ok := code.Pops(at, op); takes != 0 || lays != 0 || ok {
				t.Errorf("Pops(%d, %d): %d %d %v", at, op, takes, lays, ok)
			}
		}
	}
}

// TestNoFork: P18.1: numbers that no fork has have no operations.
func TestNoFork(t *testing.T) {
	t.Parallel()
	for _, at := range noForks() {
		for _, op := range append(noOps(), 0, 1, 0x44, 0x5b, 0x60, 0xff) {
			if got := code.Name(at, op); got != "" {
				t.Errorf("Name(%d, %#x): %q", at, op, got)
			}
			if takes, lays, ok := code.Pops(at, op); takes != 0 || lays != 0 || ok {
				t.Errorf("Pops(%d, %#x): %d %d %v", at, op, takes, lays, ok)
			}
		}
		for _, name := range []string{"", "STOP", "ADD", "DIFFICULTY", "PREVRANDAO", "PUSH1", "INVALID"} {
			if op, ok := code.Named(at, name); op != 0 || ok {
				t.Errorf("Named(%d, %q): %#x %v", at, name, op, ok)
			}
		}
	}
}
