package trie_test

import (
	"bytes"
	"testing"
	"unsafe"

	"quarry/api"
	"quarry/trie"
)

// A stretch is memory that a list may write to, from its first byte to ahead of its end.
type stretch struct{ from, end uintptr }

// stretchOf is the memory of l, its spare room too.
func stretchOf[T any](l []T) stretch {
	var one T
	from := uintptr(unsafe.Pointer(unsafe.SliceData(l)))
	return stretch{from, from + uintptr(cap(l))*unsafe.Sizeof(one)}
}

// stretches is the memory of some byte strings.
func stretches(l ...[]byte) []stretch {
	var all []stretch
	for _, b := range l {
		all = append(all, stretchOf(b))
	}
	return all
}

// shared says whether two of them have a byte in common.
func shared(all []stretch) bool {
	for i, a := range all {
		for _, b := range all[:i] {
			if a.from < b.end && b.from < a.end {
				return true
			}
		}
	}
	return false
}

// inRoom is b with bytes ahead of it and spare room behind it, and the whole of that.
func inRoom(b []byte) (piece, whole []byte) {
	whole = append([]byte{0xa1, 0xa2, 0xa3, 0xa4}, b...)
	whole = append(whole, bytes.Repeat([]byte{0xb7}, 100)...)
	return whole[4 : 4+len(b)], whole
}

// TestMemoryOfRows: R2: what Compact and Expand are given stays as it is, and no answer shares memory with it or another answer; nil and none are one.
func TestMemoryOfRows(t *testing.T) {
	m := mixer(80)
	for n := range 40 {
		nibbles := m.bytes(n)
		for i := range nibbles {
			nibbles[i] &= 15
		}
		piece, whole := inRoom(nibbles)
		was := bytes.Clone(whole)
		raw, _ := trie.Compact(piece, true)
		again, _ := trie.Compact(piece, true)
		if shared(stretches(raw, again, whole)) || !bytes.Equal(whole, was) {
			t.Errorf("Compact of %d nibbles shares memory, or changes it", n)
		}
		piece, whole = inRoom(raw)
		was = bytes.Clone(whole)
		one, _, _ := trie.Expand(piece)
		two, _, _ := trie.Expand(piece)
		if shared(stretches(one, two, whole)) || !bytes.Equal(whole, was) {
			t.Errorf("Expand of %d nibbles shares memory, or changes it", n)
		}
	}
	if raw, e := trie.Compact([]byte{}, false); !bytes.Equal(raw, []byte{0}) || e != api.OK {
		t.Error("Compact tells nil from none")
	}
	if _, _, e := trie.Expand(nil); e != api.ErrForm {
		t.Error("Expand tells nil from none")
	}
}

// TestMemoryOfValues: R2: what becomes of a key or a value that was put, or of an answer, changes nothing that a trie tells.
func TestMemoryOfValues(t *testing.T) {
	got := trie.New()
	key, wholeKey := inRoom([]byte("key"))
	value, wholeValue := inRoom([]byte(long))
	wasKey, wasValue := bytes.Clone(wholeKey), bytes.Clone(wholeValue)
	got.Put(key, value)
	root := got.Root()
	first, _ := got.Get(key)
	second, _ := got.Get(key)
	got.Put(nil, value)
	got.Delete(nil)
	if shared(stretches(first, second, wholeKey, wholeValue)) || !bytes.Equal(wholeKey, wasKey) || !bytes.Equal(wholeValue, wasValue) {
		t.Error("Put or Get shares memory, or changes it")
	}
	clear(wholeKey)
	clear(wholeValue)
	clear(first[:cap(first)])
	if v, ok := got.Get([]byte("key")); string(v) != long || !ok || got.Root() != root {
		t.Errorf("the trie's value is %q behind what became of others", v)
	}
	if v, ok := got.Get([]byte{}); ok || len(v) > 0 {
		t.Error("Get of no bytes tells something")
	}
	got.Put([]byte{}, []byte("v"))
	if v, ok := got.Get(nil); !ok || string(v) != "v" {
		t.Error("Get tells nil from none")
	}
	if !got.Delete(nil) {
		t.Error("Delete tells nil from none")
	}
}

// TestMemoryOfProofs: R2: no form of a proof shares memory with another one, with a later proof, or with the trie; what Check reads stays as it is, and shares none with its answer.
func TestMemoryOfProofs(t *testing.T) {
	m := mixer(81)
	pairs := m.pairs(60)
	got := of(pairs)
	root := got.Root()
	for _, asked := range m.askedOf(pairs) {
		key, wholeKey := inRoom([]byte(asked))
		wasKey := bytes.Clone(wholeKey)
		proof, again := got.Prove(key), got.Prove(key)
		all := append(stretches(proof...), stretches(again...)...)
		if shared(append(all, stretchOf(proof), stretchOf(again), stretchOf(wholeKey))) {
			t.Errorf("Prove of %x shares memory", asked)
		}
		var wholes, was [][]byte
		for i, form := range proof {
			piece, whole := inRoom(form)
			proof[i] = piece
			wholes, was = append(wholes, whole), append(was, bytes.Clone(whole))
		}
		one, _, _ := trie.Check(root, key, proof)
		two, _, _ := trie.Check(root, key, proof)
		if shared(append(stretches(wholes...), stretches(one, two, wholeKey)...)) || !sameForms(wholes, was) || !bytes.Equal(wholeKey, wasKey) {
			t.Errorf("Check of %x shares memory, or changes it", asked)
		}
		for _, form := range again {
			clear(form[:cap(form)])
		}
		clear(again[:cap(again)])
	}
	if got.Root() != root {
		t.Error("what became of proofs changed the trie")
	}
}

// TestMemoryOfLists: R2: what List is given stays as it is, its spare room too.
func TestMemoryOfLists(t *testing.T) {
	one, wholeOne := inRoom([]byte("one"))
	two, wholeTwo := inRoom([]byte(long))
	wasOne, wasTwo := bytes.Clone(wholeOne), bytes.Clone(wholeTwo)
	items := make([][]byte, 2, 5)
	items[0], items[1] = one, two
	root := trie.List(items)
	if !bytes.Equal(wholeOne, wasOne) || !bytes.Equal(wholeTwo, wasTwo) || len(items[:5][2]) > 0 || trie.List(items) != root {
		t.Error("List changes its items")
	}
}
