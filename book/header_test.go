package book_test

import (
	"bytes"
	"testing"

	"quarry/api"
	"quarry/book"
)

// readsHeader holds ReadHeader of the form of x against what is wrong first with that.
func readsHeader(t *testing.T, x api.Item) {
	t.Helper()
	raw := form(t, x)
	h, e := book.ReadHeader(raw)
	if want := headerShape(x); e != want {
		t.Fatalf("ReadHeader of %x: %d; must be %d", raw, e, want)
	}
	if e != api.OK {
		if !same(h, api.Header{}) {
			t.Fatalf("ReadHeader of %x tells %v beside %d", raw, h, e)
		}
		return
	}
	if again := form(t, plainHeader(h)); !bytes.Equal(again, raw) {
		t.Fatalf("ReadHeader of %x: %v, which is %x", raw, h, again)
	}
	if again, e := book.WriteHeader(h); e != api.OK || !bytes.Equal(again, raw) {
		t.Fatalf("WriteHeader of what %x is: %x, %d", raw, again, e)
	}
}

// TestHeaderBoth: P14.4, P14.6: headers of each number of parts are written as the chapter's list, and read again.
func TestHeaderBoth(t *testing.T) {
	var m mixer = 30
	for range 2000 {
		h := m.header(m.fields())
		raw, e := book.WriteHeader(h)
		if want := form(t, plainHeader(h)); e != api.OK || !bytes.Equal(raw, want) {
			t.Fatalf("WriteHeader of %v: %x, %d; must be %x", h, raw, e, want)
		}
		if again, e := book.ReadHeader(raw); e != api.OK || !same(again, h) {
			t.Fatalf("ReadHeader of %x: %v, %d; must be %v", raw, again, e, h)
		}
	}
}

// TestHeaderFields: P14.4: numbers of parts that no header has; parts beyond are not looked at.
func TestHeaderFields(t *testing.T) {
	var m mixer = 31
	h := m.header(20)
	for _, fields := range []int{-1 << 63, -20, -15, -1, 0, 1, 14, 15, 16, 17, 18, 19, 20, 21, 22, 32, 271, 1 << 32, 1<<63 - 1} {
		h.Fields = fields
		raw, e := book.WriteHeader(h)
		switch fields {
		case 15, 16, 17, 20:
			if want := form(t, plainHeader(h)); e != api.OK || !bytes.Equal(raw, want) {
				t.Errorf("WriteHeader of %d parts: %x, %d; must be %x", fields, raw, e, want)
			}
			again, e := book.ReadHeader(raw)
			if e != api.OK || again.Fields != fields || fields < 16 && again.BaseFee != (api.Word{}) || fields < 17 && again.Withdrawals != (api.Hash{}) || fields < 20 && (again.BlobGas != 0 || again.Excess != 0 || again.Beacon != (api.Hash{})) {
				t.Errorf("ReadHeader of %d parts: %v, %d", fields, again, e)
			}
		default:
			if e != api.ErrArg || len(raw) > 0 {
				t.Errorf("WriteHeader of %d parts: %x, %d", fields, raw, e)
			}
		}
	}
}

// TestHeaderEach: P14.1: each odd part in each place, and several at once: what is wrong first is answered.
func TestHeaderEach(t *testing.T) {
	var m mixer = 32
	for _, fields := range []int{15, 16, 17, 20} {
		spoilt(plainHeader(m.header(fields)), func(x api.Item) { readsHeader(t, x) })
	}
}

// TestHeaderParts: P14.1: lists of all numbers of parts, right ones or none of them.
func TestHeaderParts(t *testing.T) {
	var m mixer = 33
	all := plainHeader(m.header(20)).Items
	for n := range 40 {
		var right, wrong []api.Item
		for i := range n {
			right, wrong = append(right, all[i%20]), append(wrong, list())
		}
		readsHeader(t, list(right...))
		readsHeader(t, list(wrong...))
	}
}

// TestHeaderDecode: P14.1: what Decode refuses; an envelope is no part of a header.
func TestHeaderDecode(t *testing.T) {
	var m mixer = 34
	raw := form(t, plainHeader(m.header(20)))
	for n := range raw {
		if h, e := book.ReadHeader(raw[:n]); e != api.ErrForm || !same(h, api.Header{}) {
			t.Fatalf("ReadHeader of %x: %v, %d", raw[:n], h, e)
		}
	}
	for _, wrong := range [][]byte{nil, {}, {0}, {1}, {0x80}, {0xc0}, append(bytes.Clone(raw), 0), append([]byte{0}, raw...), append([]byte{1}, raw...), form(t, nested(1024, text()))} {
		if h, e := book.ReadHeader(wrong); e != api.ErrForm || !same(h, api.Header{}) {
			t.Errorf("ReadHeader of %.50x: %v, %d", wrong, h, e)
		}
		if b, e := book.ReadBlock(wrong); e != api.ErrForm || !same(b, api.Block{}) {
			t.Errorf("ReadBlock of %.50x: %v, %d", wrong, b, e)
		}
	}
	if h, e := book.ReadHeader(tooDeep(t)); e != api.ErrDepth || !same(h, api.Header{}) {
		t.Errorf("ReadHeader of what is too deep: %v, %d", h, e)
	}
	if b, e := book.ReadBlock(tooDeep(t)); e != api.ErrDepth || !same(b, api.Block{}) {
		t.Errorf("ReadBlock of what is too deep: %v, %d", b, e)
	}
}
