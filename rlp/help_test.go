package rlp_test

import (
	"bytes"
	"math/big"
	"slices"
	"testing"

	"quarry/api"
	"quarry/rlp"
)

// The calls' signatures, as the chapter writes them.
var (
	_ func(api.Item) ([]byte, api.Errno)             = rlp.Encode
	_ func([]byte) (api.Item, api.Errno)             = rlp.Decode
	_ func([]byte) (bool, []byte, []byte, api.Errno) = rlp.Split
	_ func([]byte) (api.Word, api.Errno)             = rlp.Number
	_ func(api.Word) api.Item                        = rlp.Of
	_ func([]byte) (int, []byte, api.Errno)          = rlp.Envelope
)

// text is a byte string, list a list.
func text(b ...byte) api.Item { return api.Item{Bytes: b} }

func list(l ...api.Item) api.Item { return api.Item{List: true, Items: l} }

// nested is x in n lists.
func nested(n int, x api.Item) api.Item {
	for range n {
		x = list(x)
	}
	return x
}

// same says whether two items are one, nil and empty being the same; what an item of its kind does not have must be empty.
func same(a, b api.Item) bool {
	if a.List != b.List || !bytes.Equal(a.Bytes, b.Bytes) || len(a.Items) != len(b.Items) {
		return false
	}
	return slices.EqualFunc(a.Items, b.Items, same)
}

// short is n as bytes without zeros ahead.
func short(n int) []byte { return big.NewInt(int64(n)).Bytes() }

// plainHead is the head of n bytes with base c, as P5.1 has it.
func plainHead(c, n int) []byte {
	if n <= 55 {
		return []byte{byte(c + n)}
	}
	l := short(n)
	return append([]byte{byte(c + 55 + len(l))}, l...)
}

// plainForm is the form of x, as P5.1 has it.
func plainForm(x api.Item) []byte {
	if !x.List {
		if len(x.Bytes) == 1 && x.Bytes[0] < 128 {
			return []byte{x.Bytes[0]}
		}
		return append(plainHead(128, len(x.Bytes)), x.Bytes...)
	}
	var all []byte
	for _, y := range x.Items {
		all = append(all, plainForm(y)...)
	}
	return append(plainHead(192, len(all)), all...)
}

// A span is where the item is that begins at a place: its head, its payload.
type span struct {
	list            bool
	head, from, end int
}

// plainSpan is the span of the item at place at of raw, which must end at end or ahead of it.
func plainSpan(raw []byte, at, end int) (span, bool) {
	if at >= end {
		return span{}, false
	}
	c := int(raw[at])
	if c < 128 {
		return span{false, at, at, at + 1}, true
	}
	s := span{list: c >= 192, head: at, from: at + 1}
	base := 128
	if s.list {
		base = 192
	}
	n := big.NewInt(int64(c - base))
	if k := c - base - 55; k > 0 {
		s.from += k
		if s.from > end {
			return span{}, false
		}
		n.SetBytes(raw[at+1 : s.from])
		if len(n.Bytes()) != k || n.Cmp(big.NewInt(56)) < 0 {
			return span{}, false
		}
	}
	if n.Cmp(big.NewInt(int64(end-s.from))) > 0 {
		return span{}, false
	}
	s.end = s.from + int(n.Int64())
	return s, !(!s.list && s.end == s.from+1 && raw[s.from] < 128)
}

// plainDecode is Decode as P5.3 has it: a stack of the ends of the lists that the reader is in, and of what it has of them.
func plainDecode(raw []byte) (api.Item, api.Errno) {
	ends, got := []int{len(raw)}, [][]api.Item{nil}
	for at := 0; ; {
		top := len(ends) - 1
		if top > 0 && at == ends[top] {
			done := list(got[top]...)
			ends, got = ends[:top], got[:top]
			got[top-1] = append(got[top-1], done)
		} else if top == 0 && len(got[0]) == 1 {
			if at != len(raw) {
				return api.Item{}, api.ErrForm
			}
			return got[0][0], api.OK
		} else if s, ok := plainSpan(raw, at, ends[top]); !ok {
			return api.Item{}, api.ErrForm
		} else if !s.list {
			got[top] = append(got[top], text(bytes.Clone(raw[s.from:s.end])...))
			at = s.end
		} else if top == 1024 {
			return api.Item{}, api.ErrDepth
		} else {
			ends, got = append(ends, s.end), append(got, nil)
			at = s.from
		}
	}
}

// mixer tells numbers without any order, the same ones in each run.
type mixer uint64

func (m *mixer) next() uint64 {
	*m += 0x9e3779b97f4a7c15
	z := uint64(*m)
	z = (z ^ z>>30) * 0xbf58476d1ce4e5b9
	z = (z ^ z>>27) * 0x94d049bb133111eb
	return z ^ z>>31
}

// below is a number below n.
func (m *mixer) below(n int) int { return int(m.next() % uint64(n)) }

// bytes is so many bytes.
func (m *mixer) bytes(n int) []byte {
	b := make([]byte, n)
	for i := range b {
		b[i] = byte(m.next())
	}
	return b
}

// item is an item of no more depth than that, most of whose texts are short.
func (m *mixer) item(depth int) api.Item {
	if depth == 0 || m.below(3) == 0 {
		switch m.below(8) {
		case 0:
			return text(m.bytes(50 + m.below(12))...)
		case 1:
			return text(m.bytes(m.below(300))...)
		case 2, 3:
			return text(byte(m.below(256)))
		default:
			return text(m.bytes(m.below(4))...)
		}
	}
	var l []api.Item
	for range m.below(7) {
		l = append(l, m.item(depth-1))
	}
	return list(l...)
}

// must is the form of x, which there must be.
func must(t *testing.T, x api.Item) []byte {
	t.Helper()
	b, e := rlp.Encode(x)
	if e != api.OK {
		t.Fatalf("Encode refuses with %d", e)
	}
	return b
}

// strings gives each byte string of up to n bytes out of all.
func strings(n int, all []byte, give func([]byte)) {
	var grow func(b []byte)
	grow = func(b []byte) {
		give(b)
		if len(b) == n {
			return
		}
		for _, v := range all {
			grow(append(slices.Clip(b), v))
		}
	}
	grow(nil)
}

// odd are bytes that heads begin with, at the ends of what they mean, and those beside them.
func odd() []byte {
	return []byte{0, 1, 2, 55, 56, 127, 128, 129, 130, 131, 183, 184, 185, 191, 192, 193, 194, 195, 196, 247, 248, 249, 255}
}
