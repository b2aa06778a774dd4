package code

import (
	"quarry/api"
	"quarry/word"
)

// Jumps are the places to which may be jumped, rising.
func Jumps(code []byte) []int {
	var places []int
	for at := 0; at < len(code); at += 1 + own(int(code[at])) {
		if code[at] == jumpdest {
			places = append(places, at)
		}
	}
	return places
}

// Jump: may be jumped there?
func Jump(code []byte, at api.Word) bool {
	to, small := word.Small(at)
	if !small || to >= uint64(len(code)) || code[to] != jumpdest {
		return false
	}
	place := 0
	for place < int(to) { // what is a PUSH's own is known from the beginning alone
		place += 1 + own(int(code[place]))
	}
	return place == int(to)
}

// own is how many bytes behind an operation are its own.
func own(op int) int {
	if op < push0 || op >= dup1 {
		return 0
	}
	return op - push0
}
