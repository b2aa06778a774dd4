package rlp_test

import (
	"bytes"
	"testing"

	"quarry/api"
	"quarry/rlp"
)

// checkForm holds Encode of x against plainForm, and what Decode makes of that against x: P5.1, P5.2, P5.3, P5.7.
func checkForm(t *testing.T, x api.Item) {
	t.Helper()
	raw, want := must(t, x), plainForm(x)
	if !bytes.Equal(raw, want) {
		t.Fatalf("Encode is %.100x, must be %.100x", raw, want)
	}
	if y, e := rlp.Decode(raw); e != api.OK || !same(x, y) {
		t.Fatalf("Decode of %.100x is %d, or another item", raw, e)
	}
}

// about are the lengths at which a head changes, and those beside them.
func about() []int {
	var l []int
	for n := range 70 {
		l = append(l, n)
	}
	for _, n := range []int{127, 128, 191, 192, 255, 256, 257, 1 << 15, 1<<16 - 1, 1 << 16, 1<<16 + 1, 1 << 20, 1<<24 - 1, 1 << 24, 1<<24 + 1} {
		l = append(l, n)
	}
	return l
}

// TestTexts: P5.1: each byte alone, and byte strings of each length at which something changes.
func TestTexts(t *testing.T) {
	for n := range 256 {
		checkForm(t, text(byte(n)))
		checkForm(t, text(byte(n), byte(n)))
		checkForm(t, list(text(byte(n))))
	}
	for _, n := range about() {
		b := make([]byte, n)
		checkForm(t, text(b...))
		for i := range b {
			b[i] = byte(200 + i)
		}
		checkForm(t, text(b...))
	}
}

// TestLists: P5.1: lists whose payload has each of these lengths: of one item, of many, of lists.
func TestLists(t *testing.T) {
	for _, n := range about() {
		if n > 0 && n < 1<<20 {
			checkForm(t, list(zeros(n)...))
		}
		if n >= 1<<24 {
			checkForm(t, list(text(make([]byte, n)...)))
			continue
		}
		for k := max(n-4, 0); k <= n; k++ { // the item's own head takes up to four
			checkForm(t, list(text(make([]byte, k)...)))
		}
		if n > 300 {
			continue
		}
		var l, many []api.Item
		for range n {
			l, many = append(l, list()), append(many, list(text(200), list()))
		}
		checkForm(t, list(l...))
		checkForm(t, list(many...))
		checkForm(t, list(list(l...), list(l...), text()))
	}
}

// TestMixed: P5.1, P5.7: items without any order.
func TestMixed(t *testing.T) {
	m := mixer(1)
	for range 4000 {
		checkForm(t, m.item(m.below(7)))
	}
}

// TestHeads: P5.1: the heads, written out.
func TestHeads(t *testing.T) {
	for _, c := range []struct {
		n          int
		text, list []byte
	}{
		{0, []byte{0x80}, []byte{0xc0}},
		{2, []byte{0x82}, []byte{0xc2}},
		{55, []byte{0xb7}, []byte{0xf7}},
		{56, []byte{0xb8, 56}, []byte{0xf8, 56}},
		{255, []byte{0xb8, 255}, []byte{0xf8, 255}},
		{256, []byte{0xb9, 1, 0}, []byte{0xf9, 1, 0}},
		{65535, []byte{0xb9, 255, 255}, []byte{0xf9, 255, 255}},
		{65536, []byte{0xba, 1, 0, 0}, []byte{0xfa, 1, 0, 0}},
		{0x12345, []byte{0xba, 1, 0x23, 0x45}, []byte{0xfa, 1, 0x23, 0x45}},
		{1<<24 + 2, []byte{0xbb, 1, 0, 0, 2}, []byte{0xfb, 1, 0, 0, 2}},
	} {
		b := make([]byte, c.n)
		if raw := must(t, text(b...)); !bytes.Equal(raw, append(c.text, b...)) {
			t.Errorf("Encode of %d bytes begins with %.10x", c.n, raw)
		}
		if c.n > 1<<17 {
			continue
		}
		if raw := must(t, list(zeros(c.n)...)); !bytes.Equal(raw, append(c.list, b...)) {
			t.Errorf("Encode of a list of %d bytes begins with %.10x", c.n, raw)
		}
	}
}

// TestUnseen: what stands in the field that is not looked at changes nothing, were it too deep or without an end.
func TestUnseen(t *testing.T) {
	round := make([]api.Item, 1)
	round[0] = list(round...)
	round[0].Items = round
	for _, other := range [][]api.Item{nil, {list()}, {nested(1030, list())}, round} {
		for _, b := range [][]byte{nil, {}, {1}, {200}, make([]byte, 60)} {
			x := api.Item{Bytes: b, Items: other}
			want := plainForm(text(b...))
			if raw := must(t, x); !bytes.Equal(raw, want) {
				t.Fatalf("Encode of bytes is %x, must be %x", raw, want)
			}
			y := api.Item{List: true, Bytes: b, Items: []api.Item{x, x}}
			want = plainForm(list(text(b...), text(b...)))
			if raw := must(t, y); !bytes.Equal(raw, want) {
				t.Fatalf("Encode of a list is %x, must be %x", raw, want)
			}
		}
	}
}

// TestEncodeDepth: P5.2: up to 1024 lists in one another, wherever the deepest is; what is in them does not count, if it is bytes.
func TestEncodeDepth(t *testing.T) {
	many := zeros(100)
	long := text(make([]byte, 1000)...)
	for _, n := range []int{1, 2, 3, 9, 10, 11, 1020, 1021, 1022, 1023, 1024, 1025} {
		ends := []api.Item{nested(n, list()), nested(n+1, text()), nested(n+1, text(1)), nested(n+1, long), nested(n, list(many...)), nested(n, list(text(), long, list()))}
		deep := []int{n + 1, n + 1, n + 1, n + 1, n + 1, n + 2}
		for i, x := range ends {
			around := []api.Item{x, list(x), list(text(), x), list(x, text()), list(list(), long, x, list(list())), list(append(many, x)...)}
			for j, y := range around {
				depth := deep[i]
				if j > 0 {
					depth++
				}
				checkDepth(t, y, depth)
			}
		}
	}
}

// checkDepth holds Encode of x, whose depth that is, against P5.2, and Decode of its form against P5.3.
func checkDepth(t *testing.T, x api.Item, depth int) {
	t.Helper()
	if depth <= 1024 {
		checkForm(t, x)
		return
	}
	if raw, e := rlp.Encode(x); e != api.ErrDepth || len(raw) != 0 {
		t.Fatalf("Encode at depth %d: %d bytes, %d", depth, len(raw), e)
	}
	if y, e := rlp.Decode(plainForm(x)); e != api.ErrDepth || !same(y, api.Item{}) {
		t.Fatalf("Decode at depth %d: %d", depth, e)
	}
}

// TestEndless: R1, P5.2: lists that are in themselves, and lists that stand in one another twice over, have no form.
func TestEndless(t *testing.T) {
	round := make([]api.Item, 3)
	round[0], round[1], round[2] = text(1), list(round...), list(round...)
	round[1].Items, round[2].Items = round, round
	twice := list()
	for range 1024 {
		twice = list(twice, twice)
	}
	for _, x := range []api.Item{round[1], list(round...), twice} {
		if raw, e := rlp.Encode(x); e != api.ErrDepth || len(raw) != 0 {
			t.Errorf("Encode: %d bytes, %d", len(raw), e)
		}
	}
}

// TestDeepAndWide: P5.1, P5.2: lists in one another with much beside them.
func TestDeepAndWide(t *testing.T) {
	m := mixer(2)
	x := list()
	for range 1023 {
		x = list(text(m.bytes(m.below(400))...), x, m.item(0))
	}
	checkForm(t, x)
}
