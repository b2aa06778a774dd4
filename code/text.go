package code

import (
	"strconv"
	"strings"

	"quarry/api"
	"quarry/hexa"
)

// invalid stands in a line for the name of an operation that isn't there.
const invalid = "INVALID"

// List writes a code down, a line for each operation.
func List(fork int, code []byte) []string {
	var lines []string
	for at := 0; at < len(code); {
		text, next := line(fork, code, at)
		lines = append(lines, text)
		at = next
	}
	return lines
}

// line is the line of the operation at a place, and the next one's place.
func line(fork int, code []byte, at int) (text string, next int) {
	op := int(code[at])
	name := Name(fork, op)
	text, next = strconv.Itoa(at)+" ", at+1
	if name == "" {
		return text + invalid + " " + hexa.Text(code[at:next]), next
	}
	if own(op) == 0 {
		return text + name, next
	}
	next = min(next+own(op), len(code))
	return text + name + " " + hexa.Text(code[at+1:next]), next
}

// Read reads it again.
func Read(fork int, text string) ([]byte, api.Fault) {
	var code []byte
	known := names(fork)
	number, cut := 0, -1 // the line that is read, and the one whose own bytes were too few
	for row := range strings.SplitSeq(text, "\n") {
		if pieces := hexa.Fields(row); len(pieces) > 0 {
			if cut >= 0 { // a line with pieces behind it makes it wrong, whatever they are
				return nil, api.Fault{Why: api.ErrForm, At: cut}
			}
			b, missing, ok := written(fork, known, pieces)
			if !ok {
				return nil, api.Fault{Why: api.ErrForm, At: number}
			}
			if missing > 0 {
				cut = number
			}
			code = append(code, b...)
		}
		number++
	}
	return code, api.Fault{}
}

// names are the operations that are there, by their names: to look through all of them for each line would take long.
func names(fork int) map[string]int {
	known := make(map[string]int, ops)
	for op := range ops {
		if there(fork, op) {
			known[Name(fork, op)] = op
		}
	}
	return known
}

// written is the bytes that a line stands for, and how many of the operation's own are missing; not ok, if List writes no such line.
func written(fork int, known map[string]int, pieces []string) (code []byte, missing int, ok bool) {
	if len(pieces) < 2 || len(pieces) > 3 || !digits(pieces[0]) {
		return nil, 0, false
	}
	var last []byte
	if len(pieces) == 3 {
		b, fault := hexa.Bytes(pieces[2])
		if fault.Why != api.OK {
			return nil, 0, false
		}
		last = b
	}
	if pieces[1] == invalid {
		return last, 0, len(last) == 1 && !there(fork, int(last[0]))
	}
	op, ok := known[pieces[1]]
	n := own(op)
	if !ok || (n > 0) != (len(pieces) == 3) || len(last) > n {
		return nil, 0, false
	}
	return append([]byte{byte(op)}, last...), n - len(last), true
}

// digits: is a piece, which is never empty, of decimal digits alone?
func digits(piece string) bool {
	for _, r := range piece {
		if r < '0' || r > '9' {
			return false
		}
	}
	return true
}
