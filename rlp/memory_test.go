package rlp_test

import (
	"bytes"
	"reflect"
	"testing"
	"unsafe"

	"quarry/api"
	"quarry/rlp"
)

// A stretch is memory that a list may write to, from its first byte to ahead of its end.
type stretch struct{ from, end uintptr }

// stretchOf is the memory of l, its spare room too.
func stretchOf[T any](l []T) stretch {
	var one T
	from := uintptr(unsafe.Pointer(unsafe.SliceData(l)))
	return stretch{from, from + uintptr(cap(l))*unsafe.Sizeof(one)}
}

// stretches is the memory of all lists of x.
func stretches(x api.Item) []stretch {
	all := []stretch{stretchOf(x.Bytes), stretchOf(x.Items)}
	for _, y := range x.Items {
		all = append(all, stretches(y)...)
	}
	return all
}

// shared says whether two of them have a byte in common.
func shared(all []stretch) bool {
	for i, a := range all {
		for _, b := range all[:i] {
			if a.from < b.end && b.from < a.end {
				return true
			}
		}
	}
	return false
}

// inRoom is b with bytes ahead of it and spare room behind it, and the whole of that.
func inRoom(b []byte) (piece, whole []byte) {
	whole = append([]byte{0xa1, 0xa2, 0xa3, 0xa4}, b...)
	whole = append(whole, bytes.Repeat([]byte{0xb7}, 100)...)
	return whole[4 : 4+len(b)], whole
}

// raws are forms, and byte strings that are none.
func raws() [][]byte {
	m := mixer(10)
	all := [][]byte{nil, {}, {5}, {5, 6}, {128}, {192}, {0xc1, 5, 6}, {2, 0xc0}, {0x81, 0x7f}, {0xc3, 1, 0x80, 0xc0}, {0xc4, 0x82, 1, 2, 3, 4}, {0x82, 1, 2, 3}, inLists(1024, []byte{0xc0}), inLists(30, []byte{1})}
	for range 100 {
		all = append(all, plainForm(m.item(4)))
	}
	return all
}

// TestMemoryReading: R2: what is read stays as it is, its spare room too; no list of an answer shares memory with it, with another list of that answer, or with another answer.
func TestMemoryReading(t *testing.T) {
	for name, call := range map[string]func([]byte) []api.Item{
		"Decode": func(raw []byte) []api.Item {
			x, _ := rlp.Decode(raw)
			return []api.Item{x}
		},
		"Split": func(raw []byte) []api.Item {
			_, content, rest, _ := rlp.Split(raw)
			return []api.Item{{Bytes: content}, {Bytes: rest}}
		},
		"Envelope": func(raw []byte) []api.Item {
			_, body, _ := rlp.Envelope(raw)
			return []api.Item{{Bytes: body}}
		},
		"Number": func(raw []byte) []api.Item {
			rlp.Number(raw)
			return nil
		},
	} {
		for _, raw := range raws() {
			piece, whole := inRoom(raw)
			was := bytes.Clone(whole)
			one, two := call(piece), call(piece)
			all := []stretch{stretchOf(whole)}
			for _, x := range append(one, two...) { // both are held until here: the memory of what nobody holds may be another's next
				all = append(all, stretches(x)...)
			}
			if shared(all) {
				t.Errorf("%s of %.50x shares memory", name, raw)
			}
			if !bytes.Equal(whole, was) {
				t.Errorf("%s of %.50x changes its bytes", name, raw)
			}
		}
	}
}

// TestMemorySpoilt: R2: what becomes of an answer or an argument later changes no other answer.
func TestMemorySpoilt(t *testing.T) {
	raw := plainForm(list(text(1), text([]byte("dogs")...), list(text(200)), text()))
	want, _ := plainDecode(raw)
	first, _ := rlp.Decode(raw)
	second, _ := rlp.Decode(raw)
	clear(first.Items[1].Bytes[:cap(first.Items[1].Bytes)])
	clear(first.Items[2].Items[0].Bytes[:cap(first.Items[2].Items[0].Bytes)])
	clear(first.Items[:cap(first.Items)])
	clear(raw)
	if !same(second, want) {
		t.Errorf("Decode shares memory: %v", second)
	}
}

// room is x with spare room behind each of its lists.
func room(x api.Item) api.Item {
	y := api.Item{List: x.List, Bytes: append([]byte{}, x.Bytes...), Items: make([]api.Item, 0, len(x.Items)+3)}
	y.Bytes = append(y.Bytes, 0xb7, 0xb8, 0xb9)[:len(x.Bytes)]
	for _, z := range x.Items {
		y.Items = append(y.Items, room(z))
	}
	return y
}

// whole is x with its lists' spare room taken in.
func whole(x api.Item) api.Item {
	y := api.Item{List: x.List, Bytes: bytes.Clone(x.Bytes[:cap(x.Bytes)])}
	for _, z := range x.Items[:cap(x.Items)] {
		y.Items = append(y.Items, whole(z))
	}
	return y
}

// TestMemoryEncode: R2: the item stays as it is, and no two forms share memory with one another or with it.
func TestMemoryEncode(t *testing.T) {
	m := mixer(11)
	items := []api.Item{text(), text(1), text(200), list(), list(text(1)), nested(1024, list()), nested(20, text(3)), {Bytes: []byte{1}, Items: []api.Item{list()}}, {List: true, Bytes: []byte{7, 8}}}
	for range 100 {
		items = append(items, m.item(4))
	}
	for _, x := range items {
		x = room(x)
		was := whole(x)
		first, _ := rlp.Encode(x)
		second, _ := rlp.Encode(x)
		if shared(append(stretches(x), stretchOf(first), stretchOf(second))) {
			t.Errorf("Encode shares memory: %.50x", first)
		}
		if !reflect.DeepEqual(was, whole(x)) {
			t.Errorf("Encode changes its item: %.50x", first)
		}
	}
}

// TestMemoryOf: R2: no two answers share memory.
func TestMemoryOf(t *testing.T) {
	for _, a := range []api.Word{{}, {1}, {200}, {1, 1, 1, 1}} {
		one, two := rlp.Of(a), rlp.Of(a)
		if shared(append(stretches(one), stretches(two)...)) {
			t.Errorf("Of(%x) shares memory", a)
		}
	}
}

// TestMemoryEmpty: R2: nil and empty lists are one.
func TestMemoryEmpty(t *testing.T) {
	for _, pair := range [][2]api.Item{{{}, {Bytes: []byte{}, Items: []api.Item{}}}, {{List: true}, {List: true, Bytes: []byte{}, Items: []api.Item{}}}} {
		if a, b := must(t, pair[0]), must(t, pair[1]); !bytes.Equal(a, b) || len(a) != 1 {
			t.Errorf("Encode tells nil from none: %x, %x", a, b)
		}
	}
	if _, e := rlp.Decode([]byte{}); e != api.ErrForm {
		t.Errorf("Decode of none is %d", e)
	}
	if _, _, _, e := rlp.Split([]byte{}); e != api.ErrForm {
		t.Errorf("Split of none is %d", e)
	}
	if _, _, _, e := rlp.Split(nil); e != api.ErrForm {
		t.Errorf("Split of nil is %d", e)
	}
}
