package rlp_test

import (
	"bytes"
	"testing"

	"quarry/api"
	"quarry/rlp"
)

// zeros is so many items, each the one byte 0.
func zeros(n int) []api.Item {
	l := make([]api.Item, n)
	for i := range l {
		l[i] = text(0)
	}
	return l
}

// The chapter's table of runs: P5.1, P5.2, Encode; P5.3, P5.7, what Decode makes of that.
func TestRunsEncode(t *testing.T) {
	long := bytes.Repeat([]byte{7}, 56)
	for _, c := range []struct {
		x    api.Item
		want []byte
	}{
		{text(), []byte{0x80}},
		{text(0), []byte{0}},
		{text(127), []byte{0x7f}},
		{text(128), []byte{0x81, 0x80}},
		{text([]byte("dog")...), []byte{0x83, 0x64, 0x6f, 0x67}},
		{text(long...), append([]byte{0xb8, 0x38}, long...)},
		{list(), []byte{0xc0}},
		{list(list(), text('a')), []byte{0xc2, 0xc0, 0x61}},
		{list(zeros(56)...), append([]byte{0xf8, 0x38}, make([]byte, 56)...)},
	} {
		if b := must(t, c.x); !bytes.Equal(b, c.want) {
			t.Errorf("Encode is %x, must be %x", b, c.want)
		}
		if x, e := rlp.Decode(c.want); e != api.OK || !same(x, c.x) {
			t.Errorf("Decode of %x is %v, %d", c.want, x, e)
		}
	}
}

// The table: P5.3, Decode.
func TestRunsDecode(t *testing.T) {
	for _, raw := range [][]byte{
		{0x81, 0x7f},
		append([]byte{0xb8, 0x37}, make([]byte, 55)...),
		append([]byte{0xb9, 0, 0x38}, make([]byte, 56)...),
		{0xc1},
		{0xc1, 0x80, 0x80},
		{0x83, 0x61, 0x62},
		nil,
		{0xc0, 0xff},
	} {
		if x, e := rlp.Decode(raw); e != api.ErrForm || !same(x, api.Item{}) {
			t.Errorf("Decode of %x is %v, %d", raw, x, e)
		}
	}
	for _, c := range []struct {
		raw  []byte
		want api.Item
	}{
		{[]byte{0xc2, 0xc1, 0xc0}, list(list(list()))},
		{[]byte{0xc3, 0x81, 0x80, 0xc0}, list(text(128), list())},
	} {
		if x, e := rlp.Decode(c.raw); e != api.OK || !same(x, c.want) {
			t.Errorf("Decode of %x is %v, %d", c.raw, x, e)
		}
	}
}

// The table: P5.4, Split.
func TestRunsSplit(t *testing.T) {
	for _, c := range []struct {
		raw           []byte
		list          bool
		content, rest []byte
		e             api.Errno
	}{
		{[]byte{0xc1, 5, 6}, true, []byte{5}, []byte{6}, api.OK},
		{[]byte{5, 6}, false, []byte{5}, []byte{6}, api.OK},
		{[]byte{0x82, 1}, false, nil, nil, api.ErrForm},
	} {
		list, content, rest, e := rlp.Split(c.raw)
		if list != c.list || !bytes.Equal(content, c.content) || !bytes.Equal(rest, c.rest) || e != c.e {
			t.Errorf("Split of %x is %v, %x, %x, %d", c.raw, list, content, rest, e)
		}
	}
}

// The table: P5.5, Number; P5.6, Envelope; the chapter's examples.
func TestRunsOthers(t *testing.T) {
	for _, c := range []struct {
		b    []byte
		want api.Word
		e    api.Errno
	}{
		{[]byte{0}, api.Word{}, api.ErrForm},
		{[]byte{1, 0}, api.Word{256}, api.OK},
		{bytes.Repeat([]byte{1}, 33), api.Word{}, api.ErrRange},
		{nil, api.Word{}, api.OK},
	} {
		if a, e := rlp.Number(c.b); a != c.want || e != c.e {
			t.Errorf("Number of %x is %x, %d", c.b, a, e)
		}
	}
	for _, c := range []struct {
		raw  []byte
		kind int
		body []byte
		e    api.Errno
	}{
		{[]byte{2, 0xc0}, 2, []byte{0xc0}, api.OK},
		{[]byte{0xc0}, 0, []byte{0xc0}, api.OK},
		{[]byte{0x80}, 0, nil, api.ErrForm},
		{nil, 0, nil, api.ErrForm},
		{[]byte{0}, 0, nil, api.OK},
	} {
		if kind, body, e := rlp.Envelope(c.raw); kind != c.kind || !bytes.Equal(body, c.body) || e != c.e {
			t.Errorf("Envelope of %x is %d, %x, %d", c.raw, kind, body, e)
		}
	}
	if x := rlp.Of(api.Word{}); !same(x, text()) {
		t.Errorf("Of(0) is %v", x)
	}
}

// The table: P5.2, P5.3: 1025 lists in one another; 1024 are taken.
func TestRunsDepth(t *testing.T) {
	deep := nested(1024, list())
	if b, e := rlp.Encode(deep); len(b) != 0 || e != api.ErrDepth {
		t.Errorf("Encode of 1025 lists: %d bytes, %d", len(b), e)
	}
	if x, e := rlp.Decode(plainForm(deep)); !same(x, api.Item{}) || e != api.ErrDepth {
		t.Errorf("Decode of 1025 lists: %d", e)
	}
	deep = nested(1023, list())
	raw := must(t, deep)
	if !bytes.Equal(raw, plainForm(deep)) {
		t.Errorf("Encode of 1024 lists is %x", raw)
	}
	if x, e := rlp.Decode(raw); !same(x, deep) || e != api.OK {
		t.Errorf("Decode of 1024 lists: %d", e)
	}
}
