package trie

import (
	"slices"

	"quarry/api"
)

// What a compact row begins with tells by these that it is a leaf's, and that it is odd.
const (
	leafMark = 32
	oddMark  = 16
)

// Compact writes nibbles as bytes: ErrForm, if one is above 15.
func Compact(nibbles []byte, leaf bool) ([]byte, api.Errno) {
	if slices.ContainsFunc(nibbles, func(n byte) bool { return n > 15 }) {
		return nil, api.ErrForm
	}
	var first byte
	if leaf {
		first = leafMark
	}
	rest := nibbles
	if len(nibbles)%2 == 1 {
		first += oddMark + nibbles[0]
		rest = nibbles[1:]
	}
	raw := make([]byte, 1, 1+len(rest)/2)
	raw[0] = first
	for i := 0; i < len(rest); i += 2 {
		raw = append(raw, rest[i]<<4|rest[i+1])
	}
	return raw, api.OK
}

// Expand reads them again: ErrForm, if Compact never writes raw.
func Expand(raw []byte) (nibbles []byte, leaf bool, e api.Errno) {
	if len(raw) == 0 || raw[0] >= 2*leafMark {
		return nil, false, api.ErrForm
	}
	leaf = raw[0]&leafMark != 0
	if raw[0]&oddMark != 0 {
		return row(string(raw), 1, 2*len(raw)), leaf, api.OK
	}
	if nibble(string(raw[:1]), 1) != 0 {
		return nil, false, api.ErrForm
	}
	return row(string(raw), 2, 2*len(raw)), leaf, api.OK
}

// nibble is a key's nibble at a place.
func nibble(key string, at int) byte {
	if at%2 == 0 {
		return key[at/2] >> 4
	}
	return key[at/2] & 15
}

// row are a key's nibbles from a place on, ahead of another one.
func row(key string, from, end int) []byte {
	nibbles := make([]byte, 0, end-from)
	for at := from; at < end; at++ {
		nibbles = append(nibbles, nibble(key, at))
	}
	return nibbles
}

// alike is with how many nibbles both keys begin; they are known to begin so with as many as known says.
func alike(a, b string, known int) int {
	i, end := known/2, min(len(a), len(b))
	for i < end && a[i] == b[i] {
		i++
	}
	if i < end && nibble(a, 2*i) == nibble(b, 2*i) {
		return 2*i + 1
	}
	return 2 * i
}
