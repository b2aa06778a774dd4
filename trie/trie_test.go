package trie_test

import (
	"maps"
	"slices"
	"testing"

	"quarry/api"
	"quarry/trie"
)

// checkMap holds Len and Get of each key against a map: P12.2.
func checkMap(t *testing.T, got *trie.Trie, want map[string]string, keys []string) {
	t.Helper()
	if got.Len() != len(want) {
		t.Errorf("Len is %d, must be %d", got.Len(), len(want))
	}
	for _, key := range keys {
		value, ok := got.Get([]byte(key))
		if has, is := want[key]; string(value) != has || ok != is {
			t.Errorf("Get of %x: %x, %v; must be %x, %v", key, value, ok, has, is)
		}
	}
}

// TestMap: P12.2, P12.8: Puts, Puts of none, and Deletes, over one another, each ahead of a look at all keys; the root is what the map's is.
func TestMap(t *testing.T) {
	m := mixer(30)
	keys := []string{"", "\x00", "\x00\x00", "\x01", "\x10", "\x00\x01", "a", "ab", "abc", "b", string(m.bytes(40))}
	for range 60 {
		got, want := trie.New(), map[string]string{}
		checkMap(t, got, want, keys)
		for range 60 {
			key := keys[m.below(len(keys))]
			switch m.below(4) {
			case 0:
				_, had := want[key]
				if was := got.Delete([]byte(key)); was != had {
					t.Errorf("Delete of %x: %v", key, was)
				}
				delete(want, key)
			case 1:
				got.Put([]byte(key), [][]byte{nil, {}}[m.below(2)])
				delete(want, key)
			default:
				value := m.value()
				got.Put([]byte(key), []byte(value))
				want[key] = value
			}
			checkMap(t, got, want, keys)
		}
		if root := got.Root(); root != rootOf(plainNode(rowsOf(want))) {
			t.Errorf("Root of %x: %x", want, root)
		}
	}
}

// TestApart: R4: two tries know nothing of each other; looking changes nothing.
func TestApart(t *testing.T) {
	a, b := trie.New(), trie.New()
	a.Put([]byte("x"), []byte("1"))
	root := a.Root()
	if b.Len() != 0 || b.Root() == root {
		t.Error("a Put is seen in another trie")
	}
	b.Put([]byte("x"), []byte("2"))
	b.Delete([]byte("x"))
	a.Get([]byte("x"))
	a.Get([]byte("y"))
	a.Prove([]byte("y"))
	trie.Clash(a, b)
	if v, ok := a.Get([]byte("x")); string(v) != "1" || !ok || a.Len() != 1 || a.Root() != root || b.Len() != 0 {
		t.Error("another trie's Puts, or looking, changed a trie")
	}
}

// TestOrder: P12.8: each order of Puts of some keys, with Puts and Deletes between of what is gone at the end, has the one root.
func TestOrder(t *testing.T) {
	pairs := map[string]string{"do": "verb", "dog": "puppy", "doge": "coin", "horse": "stallion", "": "x", "dp": "a value of more than thirty-two bytes"}
	want := of(pairs).Root()
	keys := slices.Sorted(maps.Keys(pairs))
	var put func(done, rest []string)
	put = func(done, rest []string) {
		for i, key := range rest {
			put(append(slices.Clip(done), key), slices.Concat(rest[:i], rest[i+1:]))
		}
		if len(rest) > 0 {
			return
		}
		got := trie.New()
		for i, key := range done {
			got.Put([]byte(done[len(done)-1-i]), []byte("another one"))
			got.Put([]byte("d"), []byte{byte(i + 1)})
			got.Put([]byte(key), []byte(pairs[key]))
			got.Put([]byte("dogs"), []byte("many"))
			got.Delete([]byte("dogs"))
		}
		got.Put([]byte("d"), nil)
		for _, key := range done {
			got.Put([]byte(key), []byte(pairs[key]))
		}
		if got.Root() != want {
			t.Errorf("Root behind Puts of %q: %x", done, got.Root())
		}
	}
	put(nil, keys)
}

// TestSeparate: P12.8: maps that are not the same have not the same root, among all maps of few keys and values.
func TestSeparate(t *testing.T) {
	keys := []string{"", "\x00", "\x01", "\x00\x00", "\x10"}
	values := []string{"", "\x01", "\x80", "a value of more than thirty-two bytes"}
	roots := map[api.Hash]int{}
	for code := range 1024 {
		got := trie.New()
		for i, key := range keys {
			got.Put([]byte(key), []byte(values[code>>(2*i)&3]))
		}
		if other, is := roots[got.Root()]; is {
			t.Errorf("maps %d and %d have one root", code, other)
		}
		roots[got.Root()] = code
	}
}
