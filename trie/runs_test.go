package trie_test

import (
	"bytes"
	"testing"

	"quarry/api"
	"quarry/trie"
)

// The chapter's table of runs, row by row, and its examples.

func TestRunsOfCompact(t *testing.T) {
	for _, run := range []struct {
		nibbles []byte
		leaf    bool
		want    string
		e       api.Errno
	}{{nil, false, "00", 0}, {nil, true, "20", 0}, {[]byte{1, 2, 3}, false, "1123", 0}, {[]byte{1, 2}, true, "2012", 0}, {[]byte{16}, false, "", api.ErrForm}} {
		if raw, e := trie.Compact(run.nibbles, run.leaf); !bytes.Equal(raw, unhex(run.want)) || e != run.e {
			t.Errorf("Compact of %v, %v: %x, %d", run.nibbles, run.leaf, raw, e)
		}
	}
}

func TestRunsOfExpand(t *testing.T) {
	for _, run := range []struct {
		raw  string
		want []byte
		leaf bool
		e    api.Errno
	}{{"00", nil, false, 0}, {"20", nil, true, 0}, {"1123", []byte{1, 2, 3}, false, 0}, {"40", nil, false, api.ErrForm}, {"01", nil, false, api.ErrForm}, {"", nil, false, api.ErrForm}} {
		if nibbles, leaf, e := trie.Expand(unhex(run.raw)); !bytes.Equal(nibbles, run.want) || leaf != run.leaf || e != run.e {
			t.Errorf("Expand of %s: %v, %v, %d", run.raw, nibbles, leaf, e)
		}
	}
}

// emptyRoot is the root of an empty trie.
func emptyRoot() api.Hash {
	return api.Hash(unhex("56e81f171bcc55a6ff8345e692c0f86e5b48e01b996cadc001622fb5e363b421"))
}

func TestRunsOfDogs(t *testing.T) {
	if root := trie.New().Root(); root != emptyRoot() {
		t.Errorf("Root of an empty trie: %x", root)
	}
	got := of(map[string]string{"do": "verb", "dog": "puppy", "doge": "coin", "horse": "stallion"})
	if root := got.Root(); root != api.Hash(unhex("5991bb8c6514148a29db676a14ac506cd2cd5775ace63c30a4fe457715e9ac84")) {
		t.Errorf("Root of dogs and horses: %x", root)
	}
	if v, ok := got.Get([]byte("dog")); string(v) != "puppy" || !ok {
		t.Errorf("Get of dog: %s, %v", v, ok)
	}
	if v, ok := got.Get([]byte("d")); len(v) > 0 || ok {
		t.Errorf("Get of d: %s, %v", v, ok)
	}
	if !got.Delete([]byte("dog")) || got.Delete([]byte("dog")) || got.Len() != 3 {
		t.Errorf("Delete of dog, twice; %d are left", got.Len())
	}
}

func TestRunsOfProofs(t *testing.T) {
	key := []byte("x")
	proof := trie.New().Prove(key)
	if !sameForms(proof, [][]byte{{128}}) {
		t.Errorf("Prove of an empty trie: %x", proof)
	}
	told(t, emptyRoot(), key, proof, "")
	refused(t, api.Hash{1}, key, proof)
	refused(t, emptyRoot(), key, [][]byte{{128}, {128}})
	refused(t, emptyRoot(), key, nil)
}

func TestRunsOfLists(t *testing.T) {
	if trie.List(nil) != emptyRoot() || trie.List([][]byte{}) != emptyRoot() {
		t.Error("List of no items isn't the empty trie's root")
	}
}

func TestExamples(t *testing.T) {
	got := of(map[string]string{"a": "1", "ab": "2"}) // behind 6 1: the list of seventeen has 1, and at 6 a leaf of the nibble 2
	var parts [][]byte
	for range 16 {
		parts = append(parts, []byte{0x80})
	}
	parts[6] = []byte{0xc2, 0x32, '2'}
	want := list(text([]byte{0x00, 0x61}), list(append(parts, []byte{'1'})...))
	if proof := got.Prove([]byte("a")); !sameForms(proof, [][]byte{want}) {
		t.Errorf("Prove of a key that another one begins with: %x, must be %x", proof, want)
	}
	empty := trie.New()
	empty.Put([]byte("k"), nil)
	empty.Put(nil, nil)
	if empty.Len() != 0 || empty.Root() != emptyRoot() {
		t.Error("a Put of none changed an empty trie")
	}
}
