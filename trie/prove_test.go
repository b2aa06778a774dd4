package trie_test

import (
	"bytes"
	"slices"
	"testing"

	"quarry/trie"
)

// askedOf are keys that a map's proofs are asked for: those that it has, those that begin them, that go on behind them or beside them, and others.
func (m *mixer) askedOf(pairs map[string]string) []string {
	keys := []string{"", "\x00", "\xf0\x0f"}
	for key := range pairs {
		keys = append(keys, key, key+"\x00", key+string(m.bytes(1)))
		if len(key) > 0 {
			turned := []byte(key)
			turned[m.below(len(turned))] ^= 1 << m.below(8)
			keys = append(keys, key[:len(key)-1], string(turned))
		}
	}
	for range 5 {
		keys = append(keys, m.key())
	}
	slices.Sort(keys) // the map told them in any order
	return keys
}

// checkProofs holds Prove of each key against the plain one, and what Check tells by it against what Get tells: P12.4, P12.5, P12.8.
func checkProofs(t *testing.T, pairs map[string]string, keys []string) {
	t.Helper()
	got, rows := of(pairs), rowsOf(pairs)
	root := got.Root()
	for _, key := range keys {
		proof := got.Prove([]byte(key))
		if want := plainProve(rows, rowOf(key)); !sameForms(proof, want) {
			t.Errorf("Prove of %x in %.300x: %.300x, must be %.300x", key, pairs, proof, want)
		}
		told(t, root, []byte(key), proof, pairs[key])
	}
}

// TestProofsOfFew: P12.4, P12.5, P12.8: all maps of a few keys, asked for each of them and some beside, with values so that nodes stand in their links or don't.
func TestProofsOfFew(t *testing.T) {
	keys := []string{"", "\x00", "\x01", "\x10", "\x00\x00", "\x00\x01", "\xff\xff"}
	asked := append(keys, "\x02", "\x20", "\xff", "\xff\xfe", "\xff\xff\xff", "\x00\x00\x00", "\x00\x10", "\x01\x00")
	for _, long := range []int{1, 12, 40} {
		for set := range 128 {
			pairs := map[string]string{}
			for i, key := range keys {
				if set>>i&1 == 1 {
					pairs[key] = string(bytes.Repeat([]byte{byte('a' + i)}, long))
				}
			}
			checkProofs(t, pairs, asked)
		}
	}
}

// TestProofsOfMany: P12.4, P12.5, P12.8: maps without any order.
func TestProofsOfMany(t *testing.T) {
	m := mixer(50)
	for range 200 {
		pairs := m.pairs(12)
		checkProofs(t, pairs, m.askedOf(pairs))
	}
	for range 3 {
		pairs := m.pairs(150)
		checkProofs(t, pairs, m.askedOf(pairs))
	}
}

// TestProofOfList: P12.6: what List tells the root of is what shows each item under its number's form.
func TestProofOfList(t *testing.T) {
	m := mixer(51)
	got := trie.New()
	var items [][]byte
	for i := range 200 {
		items = append(items, []byte(m.value()))
		got.Put(number(i), items[i])
	}
	root := trie.List(items)
	for i, x := range items {
		told(t, root, number(i), got.Prove(number(i)), string(x))
	}
	told(t, root, number(200), got.Prove(number(200)), "")
}
