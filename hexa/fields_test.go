package hexa_test

import (
	"slices"
	"strings"
	"testing"
	"unicode/utf8"

	"quarry/hexa"
)

// whites is all the white space that there is.
var whites = []rune{0x09, 0x0a, 0x0b, 0x0c, 0x0d, 0x20, 0x85, 0xa0}

// plainFields is Fields as the chapter has it: all white space is made one kind, and the text is cut at each.
func plainFields(text string) []string {
	for _, r := range whites {
		text = strings.ReplaceAll(text, string(r), " ")
	}
	return slices.DeleteFunc(strings.Split(text, " "), func(piece string) bool { return piece == "" })
}

// checkFields holds Fields against plainFields.
func checkFields(t *testing.T, text string) {
	t.Helper()
	if got, want := hexa.Fields(text), plainFields(text); !slices.Equal(got, want) {
		t.Fatalf("Fields(%+q) is %+q, must be %+q", text, got, want)
	}
}

// TestFields: P4.4: each short text of letters, white space, and what is none: its second byte alone, runes with such a byte, and Unicode's other spaces.
func TestFields(t *testing.T) {
	pieces := []string{"a", "é", "\xff", "\x85", "\xa0", "\xc2", " ", "\t", "\n", "\v", "\f", "\r", "\u0085", "\u00a0", "\u0105", "\u2003", "\u3000", "\U00010085", "\x00"}
	texts(4, pieces, func(text string) { checkFields(t, text) })
	checkFields(t, strings.Repeat("word ", 50000))
	checkFields(t, strings.Repeat(" ", 100000)+strings.Repeat("w", 100000))
}

// TestFieldsRunes: P4.4: each rune that there is, between two pieces and alone: eight part them.
func TestFieldsRunes(t *testing.T) {
	for r := rune(0); r <= utf8.MaxRune; r++ {
		text := "a" + string(r) + "b"
		want := []string{text}
		if slices.Contains(whites, r) {
			want = []string{"a", "b"}
		}
		if got := hexa.Fields(text); !slices.Equal(got, want) {
			t.Fatalf("Fields(%+q) is %+q", text, got)
		}
		if got := hexa.Fields(string(r)); (len(got) == 0) != slices.Contains(whites, r) {
			t.Fatalf("Fields(%+q) is %+q", string(r), got)
		}
	}
}

// TestFieldsBytes: P4.4: pieces are the text's own bytes, where they are part of no rune, too.
func TestFieldsBytes(t *testing.T) {
	for a := range 256 {
		for b := range 256 {
			checkFields(t, string([]byte{'x', byte(a), byte(b), 'y'}))
			checkFields(t, string([]byte{byte(a), ' ', byte(b)}))
		}
	}
}
