package rlp_test

import (
	"bytes"
	"slices"
	"testing"

	"quarry/api"
	"quarry/rlp"
)

// checkDecode holds Decode of raw against plainDecode, and what Encode writes of what is taken against raw: P5.3, P5.7.
func checkDecode(t *testing.T, raw []byte) {
	t.Helper()
	x, e := rlp.Decode(raw)
	want, wrong := plainDecode(raw)
	if e != wrong || !same(x, want) {
		t.Fatalf("Decode of %.200x is %v, %d, must be %v, %d", raw, x, e, want, wrong)
	}
	if e != api.OK {
		return
	}
	if again := must(t, x); !bytes.Equal(again, raw) {
		t.Fatalf("Decode takes %.200x, whose item Encode writes as %.200x", raw, again)
	}
}

// checkSplit holds Split of raw against plainSpan: P5.4.
func checkSplit(t *testing.T, raw []byte) {
	t.Helper()
	list, content, rest, e := rlp.Split(raw)
	s, ok := plainSpan(raw, 0, len(raw))
	if !ok {
		if e != api.ErrForm || list || len(content) > 0 || len(rest) > 0 {
			t.Fatalf("Split of %.200x is %v, %x, %x, %d", raw, list, content, rest, e)
		}
		return
	}
	if e != api.OK || list != s.list || !bytes.Equal(content, raw[s.from:s.end]) || !bytes.Equal(rest, raw[s.end:]) {
		t.Fatalf("Split of %.200x is %v, %x, %x, %d", raw, list, content, rest, e)
	}
}

// forms is the form of each item whose form has up to n bytes, all its texts' bytes and heads being of all; made from the items, without any reading.
func forms(n int, all []byte) map[string]api.Item {
	byLength := make([]map[string]api.Item, n+1)
	rows := make([]map[string][]api.Item, n+1) // rows of items, whose forms have so many bytes in all
	rows[0] = map[string][]api.Item{"": nil}
	for size := 1; size <= n; size++ {
		level := map[string]api.Item{}
		add := func(x api.Item) {
			if form := plainForm(x); len(form) == size {
				level[string(form)] = x
			}
		}
		strings(size, all, func(b []byte) { add(text(b...)) })
		for _, l := range rows[size-1] {
			add(list(l...))
		}
		byLength[size], rows[size] = level, map[string][]api.Item{}
		for last := 1; last <= size; last++ {
			for head, l := range rows[size-last] {
				for form, x := range byLength[last] {
					rows[size][head+form] = append(l[:len(l):len(l)], x)
				}
			}
		}
	}
	whole := map[string]api.Item{}
	for _, level := range byLength {
		for form, x := range level {
			whole[form] = x
		}
	}
	return whole
}

// TestAllShort: P5.3, P5.4, P5.7: of all strings of up to 4 odd bytes just those are taken that are the form of an item, and it is that item.
func TestAllShort(t *testing.T) {
	taken := forms(4, odd())
	strings(4, odd(), func(raw []byte) {
		x, e := rlp.Decode(raw)
		want, ok := taken[string(raw)]
		if ok != (e == api.OK) || !ok && e != api.ErrForm || !same(x, want) {
			t.Fatalf("Decode of %x is %v, %d, must be %v, %v", raw, x, e, want, ok)
		}
		checkSplit(t, raw)
	})
}

// TestAllBytes: P5.3, P5.4: all strings of up to two bytes, and each first byte ahead of many.
func TestAllBytes(t *testing.T) {
	all := make([]byte, 256)
	for i := range all {
		all[i] = byte(i)
	}
	check := func(raw []byte) {
		checkDecode(t, raw)
		checkSplit(t, raw)
	}
	strings(2, all, check)
	m := mixer(3)
	for c := range 256 {
		for n := range 80 {
			check(append([]byte{byte(c)}, m.bytes(n)...))
			check(append([]byte{byte(c)}, make([]byte, n)...))
			check(append([]byte{byte(c), byte(n)}, make([]byte, 70)...))
			check(append([]byte{byte(c), byte(n)}, bytes.Repeat([]byte{200}, n)...))
			check(append([]byte{byte(c), 0, byte(n)}, make([]byte, n)...))
			check(append([]byte{byte(c), 1, byte(n)}, make([]byte, 256+n)...))
		}
	}
}

// TestLengths: P5.3, P5.4: each k, with each length in k bytes that is too great, too small, has a zero ahead, or is right.
func TestLengths(t *testing.T) {
	m := mixer(4)
	for _, base := range []byte{128, 192} {
		for k := 1; k <= 8; k++ {
			for _, n := range []uint64{0, 1, 55, 56, 57, 100, 255, 256, 257, 65535, 65536, 1<<24 - 1, 1 << 24, 1<<31 - 1, 1 << 31, 1<<32 - 1, 1 << 32, 1<<56 - 1, 1 << 56, 1<<63 - 1, 1 << 63, 1<<64 - 56, 1<<64 - 9, 1<<64 - 8, 1<<64 - 1} {
				raw := []byte{base + 55 + byte(k)}
				for place := k - 1; place >= 0; place-- {
					raw = append(raw, byte(n>>(8*place)))
				}
				for _, more := range []int{0, 1, 54, 55, 56, 57, 100, 255, 256, 257, 300, 70000} {
					whole := append(raw[:len(raw):len(raw)], make([]byte, more)...)
					checkDecode(t, whole)
					checkSplit(t, whole)
				}
				checkDecode(t, append([]byte{193 + byte(len(raw))}, raw...))
				for cut := range raw {
					checkDecode(t, raw[:cut])
					checkSplit(t, raw[:cut])
				}
				checkSplit(t, append(raw, m.bytes(66000)...))
			}
		}
	}
}

// TestCut: P5.3, P5.4: a form that is cut at any place, or has bytes behind it, is none; Split asks for no more than a first item.
func TestCut(t *testing.T) {
	m := mixer(5)
	for range 300 {
		x := m.item(m.below(5))
		raw := must(t, x)
		if len(raw) > 3000 {
			continue
		}
		for n := range raw {
			if y, e := rlp.Decode(raw[:n]); e != api.ErrForm || !same(y, api.Item{}) {
				t.Fatalf("Decode of %x is %d", raw[:n], e)
			}
			if _, _, _, e := rlp.Split(raw[:n]); e != api.ErrForm {
				t.Fatalf("Split of %x is %d", raw[:n], e)
			}
		}
		for _, more := range [][]byte{{0}, {128}, {192}, {255}, raw} {
			whole := append(bytes.Clone(raw), more...)
			if y, e := rlp.Decode(whole); e != api.ErrForm || !same(y, api.Item{}) {
				t.Fatalf("Decode of %x is %d", whole, e)
			}
			checkSplit(t, whole)
			_, content, rest, e := rlp.Split(whole)
			if e != api.OK || !bytes.Equal(rest, more) || !x.List && !bytes.Equal(content, x.Bytes) {
				t.Fatalf("Split of %x is %x, %x, %d", whole, content, rest, e)
			}
		}
	}
}

// TestCutLong: P5.3, P5.4: a payload that ends a byte too late, behind raw or behind the list that it is in.
func TestCutLong(t *testing.T) {
	for _, n := range []int{1, 2, 55, 56, 255, 256, 65535, 65536, 100000} {
		for _, x := range []api.Item{text(make([]byte, n)...), list(zeros(n)...), list(text(make([]byte, n)...), text(1))} {
			raw := cut(must(t, x))
			checkDecode(t, raw)
			checkSplit(t, raw)
			checkDecode(t, inLists(1, raw))
			checkDecode(t, append(inLists(1, raw), 0))
		}
	}
}

// TestTurned: P5.3, P5.4, P5.7: forms with a byte changed, put in or taken out.
func TestTurned(t *testing.T) {
	m := mixer(6)
	for range 20000 {
		raw := plainForm(m.item(m.below(5)))
		at := m.below(len(raw))
		v := odd()[m.below(len(odd()))]
		switch m.below(4) {
		case 0:
			raw[at] = v
		case 1:
			raw[at] += byte(m.below(5)) - 2
		case 2:
			raw = append(raw[:at], raw[at+1:]...)
		default:
			raw = append(raw[:at], append([]byte{v}, raw[at:]...)...)
		}
		checkDecode(t, raw)
		checkSplit(t, raw)
	}
	for range 100000 {
		raw := make([]byte, m.below(12))
		for i := range raw {
			raw[i] = odd()[m.below(len(odd()))]
		}
		checkDecode(t, raw)
		checkSplit(t, raw)
	}
}

// inLists is raw in n lists. It is made from its end on, so that many lists take no more time than they must.
func inLists(n int, raw []byte) []byte {
	turned := bytes.Clone(raw)
	slices.Reverse(turned)
	for range n {
		head := plainHead(192, len(turned))
		slices.Reverse(head)
		turned = append(turned, head...)
	}
	slices.Reverse(turned)
	return turned
}

// cut is raw without its last byte.
func cut(raw []byte) []byte { return raw[:len(raw)-1] }

// TestFirstWrong: P5.3: at the depth where it ends, what is wrong first is answered.
func TestFirstWrong(t *testing.T) {
	for _, c := range []struct {
		name string
		raw  []byte
		want api.Errno
	}{
		{"a list at depth 1024", inLists(1023, []byte{0xc0}), api.OK},
		{"bytes in 1024 lists", inLists(1024, []byte{0x83, 1, 2, 3}), api.OK},
		{"a long text in 1024 lists", inLists(1024, plainForm(text(make([]byte, 300)...))), api.OK},
		{"a list in 1024 lists", inLists(1024, []byte{0xc0}), api.ErrDepth},
		{"a list behind bytes in 1024 lists", inLists(1024, []byte{1, 0x80, 0xc0}), api.ErrDepth},
		{"a list in 1024 lists, and bytes behind all", append(inLists(1024, []byte{0xc0}), 0), api.ErrDepth},
		{"a list in 1023 lists, and bytes behind all", append(inLists(1023, []byte{0xc0}), 0), api.ErrForm},
		{"a list in 1024 lists whose payload is wrong", inLists(1024, []byte{0xc2, 0x81, 0x7f}), api.ErrDepth},
		{"a list in 1024 lists whose payload is too long", inLists(1024, []byte{0xc2, 1}), api.ErrForm},
		{"a list in 1024 lists whose payload ends behind its list alone", append(inLists(1024, []byte{0xc2, 1}), 1), api.ErrForm},
		{"a list in 1024 lists whose head is cut", inLists(1024, []byte{0xf8}), api.ErrForm},
		{"a list in 1024 lists with a length too short for its head", inLists(1024, append([]byte{0xf8, 55}, make([]byte, 55)...)), api.ErrForm},
		{"a list in 1024 lists with a right long head", inLists(1024, append([]byte{0xf8, 56}, make([]byte, 56)...)), api.ErrDepth},
		{"a list in 1024 lists with a zero ahead of its length", inLists(1024, append([]byte{0xf9, 0, 56}, make([]byte, 56)...)), api.ErrForm},
		{"a wrong byte string ahead of a list in 1024 lists", inLists(1024, []byte{0x81, 0x7f, 0xc0}), api.ErrForm},
		{"a wrong byte string behind a list in 1024 lists", inLists(1024, []byte{0xc0, 0x81, 0x7f}), api.ErrDepth},
		{"a wrong one in 1023 lists, ahead of what is too deep", inLists(1023, append([]byte{0x81, 0}, inLists(1, []byte{0xc0})...)), api.ErrForm},
		{"a wrong one in 1023 lists, behind what is too deep", inLists(1023, append(inLists(1, []byte{0xc0}), 0x81, 0)), api.ErrDepth},
		{"what is too deep, and is cut", cut(inLists(1024, []byte{0xc0})), api.ErrForm},
		{"a list of two that are too deep", inLists(1, append(inLists(1024, []byte{0xc0}), inLists(1024, []byte{0xc0})...)), api.ErrDepth},
		{"2000 lists", inLists(2000, []byte{0xc0}), api.ErrDepth},
		{"10000 lists", inLists(10000, nil), api.ErrDepth},
		{"2000 lists, and the last one is wrong", inLists(2000, []byte{0xc1}), api.ErrDepth},
	} {
		x, e := rlp.Decode(c.raw)
		if e != c.want || e != api.OK && !same(x, api.Item{}) {
			t.Errorf("%s: %d, must be %d", c.name, e, c.want)
		}
		checkDecode(t, c.raw)
	}
}

// TestAtDepth: P5.3: each string of up to two odd bytes, in as many lists as may be, and in one less.
func TestAtDepth(t *testing.T) {
	strings(2, odd(), func(raw []byte) {
		for n := 1022; n <= 1025; n++ {
			checkDecode(t, inLists(n, raw))
		}
		checkDecode(t, append(inLists(1024, nil), raw...))
	})
}

// TestSplitBlind: P5.4: what is in a list, and what is behind an item, is not looked at.
func TestSplitBlind(t *testing.T) {
	for _, inside := range [][]byte{nil, {0xff}, {0x81, 0}, {0xc1}, inLists(1500, nil), bytes.Repeat([]byte{0xff}, 70000)} {
		for _, behind := range [][]byte{nil, {0xff}, {0x81, 0}, {0xb8}, inLists(1500, nil)} {
			raw := append(append(plainHead(192, len(inside)), inside...), behind...)
			list, content, rest, e := rlp.Split(raw)
			if !list || !bytes.Equal(content, inside) || !bytes.Equal(rest, behind) || e != api.OK {
				t.Errorf("Split of %.50x is %v, %.50x, %.50x, %d", raw, list, content, rest, e)
			}
		}
	}
}
