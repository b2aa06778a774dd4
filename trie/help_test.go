package trie_test

import (
	"bytes"
	"encoding/hex"
	"slices"
	"testing"

	"quarry/api"
	"quarry/trie"
)

// The calls have the signatures that the chapter lists.
var (
	_ func([]byte, bool) ([]byte, api.Errno)                                               = trie.Compact
	_ func([]byte) (nibbles []byte, leaf bool, e api.Errno)                                = trie.Expand
	_ func() *trie.Trie                                                                    = trie.New
	_ func(*trie.Trie, []byte, []byte)                                                     = (*trie.Trie).Put
	_ func(*trie.Trie, []byte) ([]byte, bool)                                              = (*trie.Trie).Get
	_ func(*trie.Trie, []byte) bool                                                        = (*trie.Trie).Delete
	_ func(*trie.Trie) int                                                                 = (*trie.Trie).Len
	_ func(*trie.Trie) api.Hash                                                            = (*trie.Trie).Root
	_ func(*trie.Trie, []byte) [][]byte                                                    = (*trie.Trie).Prove
	_ func(root api.Hash, key []byte, proof [][]byte) (value []byte, ok bool, e api.Errno) = trie.Check
	_ func([][]byte) api.Hash                                                              = trie.List
	_ func(a, b *trie.Trie) (x, y []byte, ok bool)                                         = trie.Clash
)

// unhex is the bytes of a text, whose blanks are for the reader alone.
func unhex(text string) []byte {
	b, err := hex.DecodeString(string(slices.DeleteFunc([]byte(text), func(c byte) bool { return c == ' ' })))
	if err != nil {
		panic(text)
	}
	return b
}

// of is the trie of a map.
func of(m map[string]string) *trie.Trie {
	t := trie.New()
	for key, value := range m {
		t.Put([]byte(key), []byte(value))
	}
	return t
}

// sameForms says whether two lists of byte strings are one.
func sameForms(a, b [][]byte) bool { return slices.EqualFunc(a, b, bytes.Equal) }

// refused checks that Check refuses, and tells nothing beside.
func refused(t *testing.T, root api.Hash, key []byte, proof [][]byte) {
	t.Helper()
	if value, ok, e := trie.Check(root, key, proof); e != api.ErrProof || ok || len(value) > 0 {
		t.Errorf("Check of %x by %.200x: %x, %v, %d; must be ErrProof", key, proof, value, ok, e)
	}
}

// told checks that Check tells this value, or none, if it is empty.
func told(t *testing.T, root api.Hash, key []byte, proof [][]byte, want string) {
	t.Helper()
	if value, ok, e := trie.Check(root, key, proof); e != api.OK || ok != (want != "") || string(value) != want {
		t.Errorf("Check of %x by %.200x: %x, %v, %d; must be %x", key, proof, value, ok, e, want)
	}
}

// mixer tells numbers without any order, the same ones in each run.
type mixer uint64

func (m *mixer) next() uint64 {
	*m += 0x9e3779b97f4a7c15
	z := uint64(*m)
	z = (z ^ z>>30) * 0xbf58476d1ce4e5b9
	z = (z ^ z>>27) * 0x94d049bb133111eb
	return z ^ z>>31
}

// below is a number below n.
func (m *mixer) below(n int) int { return int(m.next() % uint64(n)) }

// bytes is so many bytes.
func (m *mixer) bytes(n int) []byte {
	b := make([]byte, n)
	for i := range b {
		b[i] = byte(m.next())
	}
	return b
}

// key is a key of up to four bytes of few kinds, so that many begin alike; a few are long.
func (m *mixer) key() string {
	all := []byte{0x00, 0x01, 0x10, 0x11, 0x0f, 0xf0}
	n := m.below(5)
	if m.below(12) == 0 {
		n = 30 + m.below(10)
	}
	key := make([]byte, n)
	for i := range key {
		key[i] = all[m.below(2+m.below(len(all)-1))]
	}
	return string(key)
}

// value is a value of one byte or more: most are short, so that nodes stand in their links, or have some 32 bytes.
func (m *mixer) value() string {
	switch m.below(4) {
	case 0:
		return string(m.bytes(1))
	case 1:
		return string(m.bytes(20 + m.below(20)))
	case 2:
		return string(m.bytes(1 + m.below(80)))
	}
	return string(m.bytes(1 + m.below(6)))
}

// pairs is a map of up to n pairs.
func (m *mixer) pairs(n int) map[string]string {
	pairs := map[string]string{}
	for range m.below(n + 1) {
		pairs[m.key()] = m.value()
	}
	return pairs
}
