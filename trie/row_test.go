package trie_test

import (
	"bytes"
	"encoding/hex"
	"testing"

	"quarry/api"
	"quarry/trie"
)

// nibblesOf is a row's nibbles.
func nibblesOf(row string) []byte {
	if len(row)%2 == 1 {
		row = "0" + row
		return nibblesOf(row)[1:]
	}
	var all []byte
	for _, b := range unhex(row) {
		all = append(all, b>>4, b&15)
	}
	return all
}

// rows are all rows of up to n nibbles.
func rows(n int) []string {
	all := []string{""}
	for from := 0; n > 0; n-- {
		end := len(all)
		for _, row := range all[from:end] {
			for v := range 16 {
				all = append(all, row+digit(v))
			}
		}
		from = end
	}
	return all
}

// checkRow holds Compact and Expand of a row against the plain ones: P12.1.
func checkRow(t *testing.T, row string, leaf bool) {
	t.Helper()
	want, nibbles := plainCompact(row, leaf), nibblesOf(row)
	if raw, e := trie.Compact(nibbles, leaf); !bytes.Equal(raw, want) || e != api.OK {
		t.Errorf("Compact of %.50s, %v: %.50x, %d; must be %.50x", row, leaf, raw, e, want)
	}
	if back, is, e := trie.Expand(want); !bytes.Equal(back, nibbles) || is != leaf || e != api.OK {
		t.Errorf("Expand of %.50x: %.50x, %v, %d; must be %.50x, %v", want, back, is, e, nibbles, leaf)
	}
}

// TestRows: P12.1: all rows of up to four nibbles, and long ones of both kinds of length.
func TestRows(t *testing.T) {
	all := rows(4)
	m := mixer(20)
	for _, n := range []int{31, 32, 33, 64, 100, 1000, 100000} {
		row := hex.EncodeToString(m.bytes(n))
		all = append(all, row, row[1:])
	}
	for _, row := range all {
		checkRow(t, row, false)
		checkRow(t, row, true)
	}
}

// TestCompactRefuses: P12.1: a nibble above 15 at any place, of each byte that is none.
func TestCompactRefuses(t *testing.T) {
	for n := 1; n < 9; n++ {
		for at := range n {
			for v := range 256 {
				nibbles := make([]byte, n)
				nibbles[at] = byte(v)
				raw, e := trie.Compact(nibbles, at%2 == 0)
				if (e == api.OK) != (v <= 15) || e != api.OK && (e != api.ErrForm || len(raw) > 0) {
					t.Errorf("Compact of %x: %x, %d", nibbles, raw, e)
				}
			}
		}
	}
}

// TestExpandRefuses: P12.1: of all byte strings of up to two bytes, and of all first bytes ahead of longer ones, those that Compact writes of no nibbles.
func TestExpandRefuses(t *testing.T) {
	written := map[string]bool{}
	for _, row := range rows(3) {
		written[string(plainCompact(row, false))] = true
		written[string(plainCompact(row, true))] = true
	}
	raws := [][]byte{nil, {}}
	for a := range 256 {
		raws = append(raws, []byte{byte(a)})
		for b := range 256 {
			raws = append(raws, []byte{byte(a), byte(b)})
		}
	}
	for _, raw := range raws {
		if nibbles, leaf, e := trie.Expand(raw); (e == api.OK) != written[string(raw)] || e != api.OK && (e != api.ErrForm || len(nibbles) > 0 || leaf) {
			t.Errorf("Expand of %x: %x, %v, %d", raw, nibbles, leaf, e)
		}
		long := append(bytes.Clone(raw), 0xff, 0, 0x12)
		if len(raw) == 1 {
			if nibbles, leaf, e := trie.Expand(long); (e == api.OK) != written[string(raw)] || e != api.OK && (e != api.ErrForm || len(nibbles) > 0 || leaf) {
				t.Errorf("Expand of %x: %x, %v, %d", long, nibbles, leaf, e)
			}
		}
	}
}
