package code_test

import (
	"bytes"
	"fmt"
	"slices"
	"strings"
	"testing"

	"quarry/api"
	"quarry/code"
)

// plainList is List by the chapter's words, over the chapter's table at a fork.
func plainList(rows map[int]row, c []byte) []string {
	var all []string
	for at := 0; at < len(c); {
		op := int(c[at])
		r, there := rows[op]
		switch {
		case !there:
			all = append(all, fmt.Sprintf("%d INVALID 0x%02x", at, op))
			at++
		case op >= 0x60 && op <= 0x7f:
			behind := c[at+1:]
			behind = behind[:min(len(behind), op-0x5f)]
			all = append(all, fmt.Sprintf("%d %s 0x%x", at, r.name, behind))
			at += 1 + len(behind)
		default:
			all = append(all, fmt.Sprintf("%d %s", at, r.name))
			at++
		}
	}
	return all
}

// tables are the chapter's tables of some forks, of which each operation is there at one and not at another, if it can be, and of one that there is not.
func tables(t *testing.T) map[int]map[int]row {
	t.Helper()
	all := map[int]map[int]row{}
	for _, at := range []int{api.Frontier, api.Byzantium, api.Gray, api.Cancun, forks} {
		all[at] = table(t, at)
	}
	return all
}

// sameList holds List of a code against plainList, and P18.5: Read of its lines, with and without a line's end behind the last, is the code.
func sameList(t *testing.T, rows map[int]row, at int, c []byte) {
	t.Helper()
	want := plainList(rows, c)
	got := code.List(at, c)
	if !slices.Equal(got, want) {
		t.Fatalf("List(%d, %x): %q, not %q", at, c, got, want)
	}
	text := strings.Join(got, "\n")
	for _, whole := range []string{text, text + "\n", "\n" + text + "\n\n"} {
		if back, fault := code.Read(at, whole); !bytes.Equal(back, c) || fault != (api.Fault{}) {
			t.Fatalf("Read(%d, %q): %x %v, not %x", at, whole, back, fault, c)
		}
	}
}

// TestListEach: P18.3, P18.5: each operation, with each number of bytes behind it that is not far from how many are its own, if it is a PUSH.
func TestListEach(t *testing.T) {
	t.Parallel()
	behind := make([]byte, 36)
	for i := range behind {
		behind[i] = byte(0x5b + 7*i)
	}
	for at, rows := range tables(t) {
		for op := range 256 {
			for _, n := range []int{0, 1, op - 0x61, op - 0x60, op - 0x5f, op - 0x5e, len(behind)} {
				n = max(0, min(n, len(behind)))
				sameList(t, rows, at, append([]byte{byte(op)}, behind[:n]...))
			}
		}
	}
}

// TestListShort: P18.3, P18.5: all short codes of those bytes that matter.
func TestListShort(t *testing.T) {
	t.Parallel()
	for at, rows := range tables(t) {
		for _, c := range short() {
			sameList(t, rows, at, c)
		}
	}
}

// TestListAny: P18.3, P18.5: codes without any order, and places of several digits.
func TestListAny(t *testing.T) {
	t.Parallel()
	m := mixer(183)
	for at, rows := range tables(t) {
		for range 300 {
			sameList(t, rows, at, m.code(300))
		}
		sameList(t, rows, at, m.code(20000))
		sameList(t, rows, at, bytes.Repeat([]byte{0x60, 0x0a}, 6000))
	}
}

// TestListNone: P18.3: no code has no lines; a fork that is none has no operation, and so no bytes of one's own.
func TestListNone(t *testing.T) {
	t.Parallel()
	for at := range forks {
		if len(code.List(at, nil)) != 0 || len(code.List(at, []byte{})) != 0 {
			t.Errorf("List at %d of no code", at)
		}
	}
	for _, at := range noForks() {
		c := []byte{0x60, 0x05, 0x7f, 0x00}
		sameList(t, nil, at, c)
		if got := code.List(at, c); !slices.Equal(got, []string{"0 INVALID 0x60", "1 INVALID 0x05", "2 INVALID 0x7f", "3 INVALID 0x00"}) {
			t.Errorf("List(%d, %x): %q", at, c, got)
		}
	}
}
