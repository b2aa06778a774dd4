package fork_test

import (
	"strings"
	"testing"

	"quarry/fork"
)

// names are the forks' names, as the chapter tells them.
func names() []string {
	return strings.Fields("Frontier Homestead Tangerine Spurious Byzantium Constantinople Petersburg Istanbul Muir Berlin London Arrow Gray Paris Shanghai Cancun")
}

// named checks that the name is that fork's.
func named(t *testing.T, name string, want int) {
	t.Helper()
	if f, ok := fork.Named(name); f != want || !ok {
		t.Errorf("Named(%q): %d, %v; must be %d", name, f, ok, want)
	}
}

// unnamed checks that no fork has the name.
func unnamed(t *testing.T, name string) {
	t.Helper()
	if f, ok := fork.Named(name); f != 0 || ok {
		t.Errorf("Named(%q): %d, %v; must be none", name, f, ok)
	}
}

// TestName: P13.5: each fork's name, and none of no fork.
func TestName(t *testing.T) {
	for f, want := range names() {
		if got := fork.Name(f); got != want {
			t.Errorf("Name(%d): %q; must be %q", f, got, want)
		}
	}
	for _, f := range noForks() {
		if got := fork.Name(f); got != "" {
			t.Errorf("Name(%d): %q", f, got)
		}
	}
}

// TestNamed: P13.5: each name, with letters of either case in each choice of the first ten and the last.
func TestNamed(t *testing.T) {
	for f, name := range names() {
		named(t, name, f)
		named(t, strings.ToUpper(name), f)
		named(t, strings.ToLower(name), f)
		for choice := range 1 << 11 {
			letters := []byte(name)
			for i := range letters {
				if choice>>min(i, 10)&1 == 1 {
					letters[i] ^= 'a' - 'A'
				}
			}
			named(t, string(letters), f)
		}
	}
}

// TestNamedOther: P13.5: names cut, grown, with one rune more, less or another, among them runes that the library takes for letters of a to z, and whose lowest bits are a letter's.
func TestNamedOther(t *testing.T) {
	others := []string{"", " ", "\x00", "x", "K", "ſ", "ı", "İ", "é", "�", "\xff", "\x80", "ï", "Ã", "𐑃", "｡", "０", "-", "@", "[", "`", "{"}
	for _, name := range names() {
		for i := range name {
			unnamed(t, name[:i])
			if i > 0 {
				unnamed(t, name[i:])
			}
			unnamed(t, name[:i]+name[i+1:])
			for _, other := range others {
				if other != "" {
					unnamed(t, name[:i]+other+name[i:])
					unnamed(t, name[:i]+other+name[i+1:])
				}
			}
			for _, by := range []rune{0x80, 0x100, 0x400, 0x10000, 0x100000} {
				unnamed(t, name[:i]+string(rune(name[i])+by)+name[i+1:])
			}
			unnamed(t, name[:i]+string([]byte{name[i] | 0x80})+name[i+1:])
			unnamed(t, name[:i]+string([]byte{name[i] ^ 0x40})+name[i+1:])
			unnamed(t, name[:i]+string([]byte{name[i] &^ 0x60})+name[i+1:])
		}
		for _, other := range others[1:] {
			unnamed(t, name+other)
			unnamed(t, other)
		}
		unnamed(t, name+name)
		unnamed(t, name+strings.Repeat("x", 1<<20))
	}
}

// TestNamedOfOtherWords: P13.5: names that forks have elsewhere, and numbers.
func TestNamedOfOtherWords(t *testing.T) {
	for _, name := range strings.Fields("dao merge London,Paris glacier MuirGlacier eip150 0 1 15 16 prague osaka tangerine-whistle SpuriousDragon None") {
		unnamed(t, name)
	}
	unnamed(t, "")
}
