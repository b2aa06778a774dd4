package rlp

import (
	"bytes"

	"quarry/api"
)

// Decode is the item whose form raw is. Of what is wrong the first is answered, as raw is read from its beginning on: ErrForm, but ErrDepth at the head of a list that is in MaxNest lists.
func Decode(raw []byte) (api.Item, api.Errno) {
	x, rest, e := read(raw, 0)
	if e != api.OK {
		return api.Item{}, e
	}
	if len(rest) > 0 {
		return api.Item{}, api.ErrForm
	}
	return x, api.OK
}

// Split is the payload of the item at the beginning of raw, whether that is a list, and what is behind it: ErrForm, where no whole one stands.
func Split(raw []byte) (list bool, content, rest []byte, e api.Errno) {
	payload, rest, ok := first(raw)
	if !ok {
		return false, nil, nil, api.ErrForm
	}
	if t, ok := payload.(text); ok {
		return false, bytes.Clone(t), bytes.Clone(rest), api.OK
	}
	return true, bytes.Clone(payload.(row)), bytes.Clone(rest), api.OK
}

// read is the item at the beginning of raw, which is in so many lists as around says, and what is behind it.
func read(raw []byte, around int) (x api.Item, rest []byte, e api.Errno) {
	payload, rest, ok := first(raw)
	if !ok {
		return api.Item{}, nil, api.ErrForm
	}
	if t, ok := payload.(text); ok {
		return api.Item{Bytes: bytes.Clone(t)}, rest, api.OK
	}
	if around == api.MaxNest {
		return api.Item{}, nil, api.ErrDepth
	}
	l, e := readRow(payload.(row), around+1)
	return api.Item{List: true, Items: l}, rest, e
}

// readRow is the items of r, which are in so many lists as around says. None of them can end behind it, as none is given more to read.
func readRow(r row, around int) ([]api.Item, api.Errno) {
	var l []api.Item
	for len(r) > 0 {
		x, rest, e := read(r, around)
		if e != api.OK {
			return nil, e
		}
		l, r = append(l, x), rest
	}
	return l, api.OK
}

// first is the payload of the item at the beginning of raw, a text or a row that stand in raw's own memory, and what is behind it.
func first(raw []byte) (payload any, rest []byte, ok bool) {
	if len(raw) == 0 {
		return nil, nil, false
	}
	if raw[0] < textBase {
		return text(raw[:1]), raw[1:], true
	}
	base := byte(textBase)
	if raw[0] >= listBase {
		base = listBase
	}
	n, behind, ok := length(raw[0]-base, raw[1:])
	if !ok || n > uint64(len(behind)) {
		return nil, nil, false
	}
	inside, rest := behind[:n], behind[n:]
	if base == listBase {
		return row(inside), rest, true
	}
	return text(inside), rest, !bare(inside)
}

// length is how long the payload is of which a head's first byte is so far above its base, with raw behind that byte, and what is behind the head.
func length(above byte, raw []byte) (n uint64, behind []byte, ok bool) {
	if above <= maxShort {
		return uint64(above), raw, true
	}
	k := int(above - maxShort)
	if k > len(raw) || raw[0] == 0 {
		return 0, nil, false
	}
	for _, v := range raw[:k] {
		n = n<<8 | uint64(v)
	}
	return n, raw[k:], n > maxShort
}
