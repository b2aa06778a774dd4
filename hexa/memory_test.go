package hexa_test

import (
	"bytes"
	"slices"
	"strings"
	"testing"
	"unsafe"

	"quarry/hexa"
)

// within says whether a piece stands in the memory of text.
func within(piece, text string) bool {
	if piece == "" || text == "" {
		return false
	}
	p, start := uintptr(unsafe.Pointer(unsafe.StringData(piece))), uintptr(unsafe.Pointer(unsafe.StringData(text)))
	return p >= start && p < start+uintptr(len(text))
}

// TestMemoryBytes: R2: two answers share no memory.
func TestMemoryBytes(t *testing.T) {
	for _, text := range []string{"0x", "0x00", "0x0102030405", "0x" + strings.Repeat("ab", 1000), "0x0", "0x00g0"} {
		first, _ := hexa.Bytes(text)
		want := bytes.Clone(first)
		second, _ := hexa.Bytes(text)
		all := first[:cap(first)]
		for i := range all {
			all[i] ^= 0x55
		}
		third, _ := hexa.Bytes(text)
		if !bytes.Equal(second, want) || !bytes.Equal(third, want) {
			t.Errorf("Bytes(%q) shares memory", text)
		}
	}
}

// TestMemoryText: R2: bytes that are handed in stay as they are, their spare room too, and a text does not follow what becomes of them.
func TestMemoryText(t *testing.T) {
	whole := []byte{9, 1, 2, 3, 8, 8, 8, 8, 8, 8, 8, 8, 8, 8, 8, 8}
	was := bytes.Clone(whole)
	text := hexa.Text(whole[1:4])
	if !bytes.Equal(whole, was) {
		t.Errorf("Text changes its bytes: %x", whole)
	}
	clear(whole)
	if text != "0x010203" {
		t.Errorf("Text follows its bytes: %q", text)
	}
}

// TestMemoryFields: R2: no piece is part of the text or of another piece, and two answers share no list.
func TestMemoryFields(t *testing.T) {
	text := strings.Repeat("one two  three ", 3) + "last"
	first, second := hexa.Fields(text), hexa.Fields(text)
	want := slices.Clone(second)
	for i, piece := range first {
		if within(piece, text) || within(piece, second[i]) {
			t.Errorf("piece %d shares memory", i)
		}
	}
	all := first[:cap(first)]
	for i := range all {
		all[i] = "spoilt"
	}
	if third := hexa.Fields(text); !slices.Equal(second, want) || !slices.Equal(third, want) {
		t.Error("Fields shares its list")
	}
}

// TestMemoryEmpty: R2: no bytes are no bytes, nil or empty.
func TestMemoryEmpty(t *testing.T) {
	if hexa.Text(nil) != hexa.Text([]byte{}) {
		t.Error("Text tells nil from none")
	}
}
