package trie_test

import (
	"strings"
	"testing"

	"quarry/api"
	"quarry/trie"
)

// TestKnownRoots: P12.3: roots that other makers of tries tell.
func TestKnownRoots(t *testing.T) {
	for want, pairs := range map[string]map[string]string{
		"d23786fb4a010da3ce639d66d5e904a11dbc02746d1ce25029e53290cabf28ab": {"A": strings.Repeat("a", 50)},
		"8aad789dff2f538bca5d8ea56e8abe10f4c7ba3a5dea95fea4cd6e7c3a1168d3": {"doe": "reindeer", "dog": "puppy", "dogglesworth": "cat"},
		"17beaa1648bafa633cda809c90c04af50fc8aed3cb40d16efbddee6fdf63c4c3": {"foo": "bar", "food": "bass"},
		"3f67c7a47520f79faa29255d2d3c084a7a6df0453116ed7232ff10277a8be68b": {"be": "e", "dog": "puppy", "bed": "d"},
		"8452568af70d8d140f58d941338542f645fcca50094b20f3c3d8c3df49337928": {"test": "test", "te": "testy"},
		"285505fcabe84badc8aa310e2aae17eddc7d120aabec8a476902c8184b3a3503": {"\x00\x45": "\x01\x23\x45\x67\x89", "\x45\x00": "\x98\x76\x54\x32\x10"},
	} {
		if root := of(pairs).Root(); root != api.Hash(unhex(want)) {
			t.Errorf("Root of %q: %x, must be %s", pairs, root, want)
		}
	}
}

// checkRoot holds Root of a map against the plain one: P12.3.
func checkRoot(t *testing.T, pairs map[string]string) {
	t.Helper()
	if root := of(pairs).Root(); root != rootOf(plainNode(rowsOf(pairs))) {
		t.Errorf("Root of %.300x: %x", pairs, root)
	}
}

// TestRootOfFew: P12.3: all maps of keys that begin with one another, part in the first nibble or in the second, with values of each kind.
func TestRootOfFew(t *testing.T) {
	keys := []string{"", "\x00", "\x01", "\x10", "\x00\x00", "\x00\x01", "\x00\x10", "\xff\xff\xff"}
	for _, value := range []string{"\x00", "\x80", "some eight", strings.Repeat("long", 10)} {
		for set := range 256 {
			pairs := map[string]string{}
			for i, key := range keys {
				if set>>i&1 == 1 {
					pairs[key] = value + string(rune('a' + i))[:len(value)%2]
				}
			}
			checkRoot(t, pairs)
		}
	}
}

// TestRootOfLengths: P12.3: values of each length about that at which a node's form has 32 bytes, in a leaf, in a list of seventeen, in nodes behind both, and behind an inner beginning.
func TestRootOfLengths(t *testing.T) {
	for n := 1; n < 70; n++ {
		for _, first := range []string{"\x00", "\x7f", "\x80"} {
			value := first + strings.Repeat("v", n-1)
			for _, keys := range [][]string{{""}, {"k"}, {"", "k"}, {"\x01", "\x02"}, {"\x10", "\x20"}, {"\x00", "\x10", "\x11"}, {"some", "something"}, {"some", "some\x01", "some\x02"}, {"abc", "abd", "x"}} {
				pairs, mixed := map[string]string{}, map[string]string{}
				for i, key := range keys {
					pairs[key] = value
					mixed[key] = []string{value, "1", "23"}[i]
				}
				checkRoot(t, pairs)
				checkRoot(t, mixed)
			}
		}
	}
}

// TestRootOfMany: P12.3: maps of many pairs without any order.
func TestRootOfMany(t *testing.T) {
	m := mixer(40)
	for range 1500 {
		checkRoot(t, m.pairs(12))
	}
	for range 60 {
		checkRoot(t, m.pairs(400))
	}
	wide := map[string]string{}
	for range 1000 {
		wide[string(m.bytes(32))] = m.value()
	}
	checkRoot(t, wide)
}

// TestRootOfDeep: P12.3, R1: keys that each begin with the one ahead, and keys of very many bytes.
func TestRootOfDeep(t *testing.T) {
	deep := map[string]string{}
	for n := range 150 {
		deep[strings.Repeat("\x12", n)] = string(rune('a' + n%20))
	}
	checkRoot(t, deep)
	long := strings.Repeat("k", 1<<18)
	got := of(map[string]string{long: "1", long + "2": "2", long[1:]: "3"})
	told(t, got.Root(), []byte(long), got.Prove([]byte(long)), "1")
	far := trie.New()
	for n := range 5000 {
		far.Put([]byte(strings.Repeat("\x21", n)), []byte(strings.Repeat("v", 40)))
	}
	key := []byte(strings.Repeat("\x21", 4999))
	proof := far.Prove(key)
	if len(proof) < 4999 {
		t.Errorf("the proof of the deepest key has %d forms", len(proof))
	}
	told(t, far.Root(), key, proof, strings.Repeat("v", 40))
}

// TestList: P12.6: the items by their numbers' forms, with and without items of no bytes between, about where a number has one byte more.
func TestList(t *testing.T) {
	m := mixer(41)
	for _, n := range []int{0, 1, 2, 3, 16, 17, 126, 127, 128, 129, 130, 255, 256, 257, 300} {
		for _, gaps := range []int{1 << 60, 2, 5} {
			var items [][]byte
			want := map[string]string{}
			for i := range n {
				value := m.value()
				if i%gaps == gaps-1 {
					value = ""
				} else {
					want[rowOf(string(number(i)))] = value
				}
				items = append(items, []byte(value))
			}
			if root := trie.List(items); root != rootOf(plainNode(want)) {
				t.Errorf("List of %d items, each %dth of them none: %x", n, gaps, root)
			}
		}
	}
	if trie.List([][]byte{nil, {}}) != emptyRoot() {
		t.Error("items of no bytes have a value")
	}
}

// number is the form of a number: P5.1, P5.5.
func number(i int) []byte {
	switch {
	case i == 0:
		return []byte{0x80}
	case i < 128:
		return []byte{byte(i)}
	case i < 256:
		return []byte{0x81, byte(i)}
	}
	return []byte{0x82, byte(i >> 8), byte(i)}
}
