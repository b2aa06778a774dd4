package fork

import "unicode/utf8"

// names are the forks' names, in the forks' order.
var names = [forks]string{"Frontier", "Homestead", "Tangerine", "Spurious", "Byzantium", "Constantinople", "Petersburg", "Istanbul",
	"Muir", "Berlin", "London", "Arrow", "Gray", "Paris", "Shanghai", "Cancun"}

// Name is a fork's name, empty if there is no such fork.
func Name(fork int) string {
	if !isFork(fork) {
		return ""
	}
	return names[fork]
}

// Named is the fork of a name, in whatever case its letters are; not ok, if there is none.
func Named(name string) (int, bool) {
	for fork, other := range names {
		if alike(name, other) {
			return fork, true
		}
	}
	return 0, false
}

// alike: are they one, but for the case of a to z?
func alike(a, b string) bool {
	for _, r := range a {
		other, n := utf8.DecodeRuneInString(b)
		if n == 0 || small(r) != small(other) {
			return false
		}
		b = b[n:]
	}
	return b == ""
}

// small is a letter's small one; the library's would take letters beyond A to Z for some of a to z.
func small(r rune) rune {
	if r >= 'A' && r <= 'Z' {
		return r - 'A' + 'a'
	}
	return r
}
