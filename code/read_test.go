package code_test

import (
	"bytes"
	"encoding/hex"
	"fmt"
	"regexp"
	"strconv"
	"strings"
	"testing"

	"quarry/api"
	"quarry/code"
)

// pieces are a line's pieces, by the white space that chapter 4 names.
func pieces(line string) []string {
	return strings.FieldsFunc(line, func(r rune) bool { return strings.ContainsRune("\t\n\v\f\r \u0085\u00a0", r) })
}

// What pieces must look like.
var (
	place = regexp.MustCompile(`^[0-9]+$`)
	digit = regexp.MustCompile(`^0x([0-9a-fA-F]{2})*$`)
)

// plainLine is what a line with pieces stands for; last says whether it is the last one with any.
func plainLine(rows map[int]row, p []string, last bool) ([]byte, bool) {
	if len(p) < 2 || !place.MatchString(p[0]) {
		return nil, false
	}
	op, there := -1, false
	for n := range 256 {
		if rows[n].name == p[1] {
			op, there = n, true
		}
	}
	if len(p) == 2 {
		return []byte{byte(op)}, there && (op < 0x60 || op > 0x7f)
	}
	if len(p) > 3 || !digit.MatchString(p[2]) {
		return nil, false
	}
	b, _ := hex.DecodeString(p[2][2:])
	if p[1] == "INVALID" {
		return b, len(b) == 1 && rows[int(b[0])].name == ""
	}
	n := op - 0x5f
	return append([]byte{byte(op)}, b...), there && op >= 0x60 && op <= 0x7f && (len(b) == n || len(b) < n && last)
}

// plainRead is Read by the chapter's words, over the chapter's table at a fork.
func plainRead(rows map[int]row, text string) ([]byte, api.Fault) {
	var all [][]string
	last := 0
	for i, line := range strings.Split(text, "\n") {
		all = append(all, pieces(line))
		if len(all[i]) > 0 {
			last = i
		}
	}
	var c []byte
	for i, p := range all {
		if len(p) == 0 {
			continue
		}
		b, ok := plainLine(rows, p, i == last)
		if !ok {
			return nil, api.Fault{Why: api.ErrForm, At: i}
		}
		c = append(c, b...)
	}
	return c, api.Fault{}
}

// sameRead holds Read of a text against plainRead.
func sameRead(t *testing.T, rows map[int]row, at int, text string) {
	t.Helper()
	want, wrong := plainRead(rows, text)
	if got, fault := code.Read(at, text); !bytes.Equal(got, want) || fault != wrong {
		t.Fatalf("Read(%d, %q): %x %v, not %x %v", at, text, got, fault, want, wrong)
	}
}

// TestReadEach: P18.4: each name, be it there or not, with no piece behind it, and with each number of bytes, in the last line and ahead of others.
func TestReadEach(t *testing.T) {
	t.Parallel()
	names := map[string]bool{"INVALID": true, "NONE": true}
	for _, rows := range tables(t) {
		for _, r := range rows {
			names[r.name] = true
		}
	}
	for _, at := range []int{api.Gray, api.Cancun} {
		rows := table(t, at)
		for name := range names {
			sameRead(t, rows, at, "0 "+name)
			sameRead(t, rows, at, "0 "+name+"\n1 STOP")
			for n := range 35 {
				line := "0 " + name + " 0x" + strings.Repeat("0c", n)
				for _, behind := range []string{"", "\n", "\n1 STOP", "\n\n1 FLY", "\n \t\r\n\u00a0"} {
					sameRead(t, rows, at, line+behind)
				}
			}
		}
	}
}

// TestReadInvalid: P18.4: INVALID with each byte at each fork: just those that are no operation there.
func TestReadInvalid(t *testing.T) {
	t.Parallel()
	for at := range forks {
		rows := table(t, at)
		for op := range 256 {
			got, fault := code.Read(at, fmt.Sprintf("7 INVALID 0x%02X", op))
			if _, there := rows[op]; there {
				if len(got) != 0 || fault != (api.Fault{Why: api.ErrForm}) {
					t.Errorf("INVALID %#x at %d: %x %v", op, at, got, fault)
				}
			} else if !bytes.Equal(got, []byte{byte(op)}) || fault != (api.Fault{}) {
				t.Errorf("INVALID %#x at %d: %x %v", op, at, got, fault)
			}
		}
	}
}

// TestReadPlace: P18.4: places are decimal digits, one or more, whatever number they are.
func TestReadPlace(t *testing.T) {
	t.Parallel()
	rows := table(t, api.Cancun)
	for _, first := range []string{"0", "9", "00", "007", "18446744073709551616", strings.Repeat("9", 5000)} {
		if got, fault := code.Read(api.Cancun, first+" ADD"); !bytes.Equal(got, []byte{1}) || fault != (api.Fault{}) {
			t.Errorf("the place %.20q: %x %v", first, got, fault)
		}
	}
	for _, first := range []string{
		"", "-1", "+1", "0x0", "0a", "a0", "1.", "1_0", "1,0", "\uff11", "\u0661", "1\u0660", "1\u00b2", "\x00", "0\x00", "\xff", "0\xff", "/", ":", "1:", "/1", "ADD", "INVALID", "0\u200b", "\ufeff0", "0\u2003",
	} {
		text := first + " ADD"
		sameRead(t, rows, api.Cancun, text)
		if got, fault := code.Read(api.Cancun, text); len(got) != 0 || fault != (api.Fault{Why: api.ErrForm}) {
			t.Errorf("the place %q: %x %v", first, got, fault)
		}
	}
	for r := rune(0); r < 0x3000; r++ {
		sameRead(t, rows, api.Cancun, "0"+string(r)+" ADD")
		sameRead(t, rows, api.Cancun, string(r)+"0 ADD")
	}
}

// TestReadBytes: P18.4: bytes are read as hexa.Bytes does, whatever the case of digits.
func TestReadBytes(t *testing.T) {
	t.Parallel()
	rows := table(t, api.London)
	for _, last := range []string{
		"0xabcdef", "0xABCDEF", "0xaBcDeF", "0Xabcdef", "abcdef", "0x", "0x0", "0x00", "0x000", "0x0g", "0xg0", "0x\u0660\u0660", "0x\xff0", "0x0000000", "0x00000000", "x", "0",
		"0x 00", "0x00 00", "0x00\u00a000", "0x00\u200300", "-0x00",
	} {
		for _, name := range []string{"PUSH1", "PUSH2", "PUSH3", "PUSH4", "ADD", "INVALID", "PUSH0", "JUMPDEST"} {
			sameRead(t, rows, api.London, "0 "+name+" "+last)
			sameRead(t, rows, api.London, "0 STOP\n5 "+name+" "+last+"\n\n")
			sameRead(t, rows, api.London, "0 STOP\n5 "+name+" "+last+"\n\n7 STOP")
		}
	}
}

// TestReadLines: P18.4: lines end with U+000A alone, pieces with all white space; lines without pieces are passed over, but counted.
func TestReadLines(t *testing.T) {
	t.Parallel()
	rows := table(t, api.Shanghai)
	for _, white := range []string{" ", "\t", "\v", "\f", "\r", "\u0085", "\u00a0", "  ", "\r\n", "\n", "\n\n", " \n ", "\u2028", "\u2003", "\x85", "\xa0", "\xc2\n", "\xe2\x80\n", ""} {
		for _, text := range []string{
			"0~ADD", "~0 ADD", "0 ADD~", "0 ADD~1 MUL", "0 ADD~~1 MUL", "~~", "0 PUSH2~0x0102", "0 PUSH2 0x01~", "0 PUSH2 0x01~2 ADD", "0 PUSH2 0x~~3", "~0 ADD~\n~~1 FLY~\n2 ADD",
		} {
			sameRead(t, rows, api.Shanghai, strings.ReplaceAll(text, "~", white))
		}
	}
	for n := range 50 {
		text := strings.Repeat("\n \r\n", n)
		if got, fault := code.Read(api.Shanghai, text+"0 ADD\n"+text+"0 add\n"+text+"x"); len(got) != 0 || fault != (api.Fault{Why: api.ErrForm, At: 4*n + 1}) {
			t.Errorf("%d blank lines: %x %v", 4*n, got, fault)
		}
	}
}

// TestReadShort: P18.4: fewer own bytes are wrong just where a line with pieces follows, be it right or wrong; the fault is told of the first wrong line.
func TestReadShort(t *testing.T) {
	t.Parallel()
	rows := table(t, api.Cancun)
	some := []string{"0 ADD", "1 PUSH2 0x0102", "1 PUSH2 0x01", "1 PUSH2 0x", "2 PUSH1 0x", "3 INVALID 0x0c", "3 INVALID 0x", "0 FLY", "x", "", " \t"}
	for _, a := range some {
		for _, b := range some {
			for _, c := range some {
				for _, d := range some {
					sameRead(t, rows, api.Cancun, a+"\n"+b+"\n"+c+"\n"+d)
				}
			}
		}
	}
}

// TestReadPieces: P18.4: all lines of up to four pieces of these, alone and with one ahead.
func TestReadPieces(t *testing.T) {
	t.Parallel()
	some := []string{"0", "12", "x", "ADD", "add", "PUSH1", "PUSH0", "INVALID", "0x", "0x0c", "0x01", "0x0102", "DIFFICULTY", "PREVRANDAO"}
	for _, at := range []int{api.Gray, api.Cancun} {
		rows := table(t, at)
		all := []string{""}
		for from := 0; from < 1+14+14*14+14*14*14; from++ {
			for _, piece := range some {
				all = append(all, all[from]+" "+piece)
			}
		}
		for _, line := range all {
			sameRead(t, rows, at, line)
		}
	}
}

// TestReadTurned: P18.4: what List writes, with a rune of it turned, doubled or left out.
func TestReadTurned(t *testing.T) {
	t.Parallel()
	m := mixer(184)
	runes := []string{" ", "\n", "0", "1", "9", "a", "F", "x", "X", "P", "D", "", "\u00a0", "\xff", "\u0663"}
	for at, rows := range tables(t) {
		for range 1000 {
			text := strings.Join(plainList(rows, m.code(12)), "\n")
			for range 1 + m.below(3) {
				from := m.below(len(text) + 1)
				to := min(len(text), from+m.below(3))
				text = text[:from] + runes[m.below(len(runes))] + text[to:]
			}
			sameRead(t, rows, at, text)
		}
	}
}

// TestReadNoFork: P18.4: at a fork that is none each byte is INVALID.
func TestReadNoFork(t *testing.T) {
	t.Parallel()
	for _, at := range noForks() {
		for op := range 256 {
			got, fault := code.Read(at, "0 INVALID 0x"+hex.EncodeToString([]byte{byte(op)}))
			if !bytes.Equal(got, []byte{byte(op)}) || fault != (api.Fault{}) {
				t.Errorf("INVALID %#x at %d: %x %v", op, at, got, fault)
			}
		}
		for _, text := range []string{"0 STOP", "0 PUSH1 0x00", "0 PUSH1 0x"} {
			if got, fault := code.Read(at, "\n"+text); len(got) != 0 || fault != (api.Fault{Why: api.ErrForm, At: 1}) {
				t.Errorf("Read(%d, %q): %x %v", at, text, got, fault)
			}
		}
	}
}

// TestReadLong: P18.4: a hundred thousand lines, of which the last one alone may be wrong.
func TestReadLong(t *testing.T) {
	t.Parallel()
	const n = 100000
	var text strings.Builder
	for i := range n {
		text.WriteString(strconv.Itoa(i) + " SWAP16\n")
	}
	got, fault := code.Read(api.Frontier, text.String())
	if !bytes.Equal(got, bytes.Repeat([]byte{0x9f}, n)) || fault != (api.Fault{}) {
		t.Errorf("%d bytes, %v", len(got), fault)
	}
	if got, fault := code.Read(api.Frontier, text.String()+"0"); len(got) != 0 || fault != (api.Fault{Why: api.ErrForm, At: n}) {
		t.Errorf("%d bytes, %v", len(got), fault)
	}
}
