package trie_test

import (
	"bytes"
	"encoding/json"
	"maps"
	"os"
	"os/exec"
	"path/filepath"
	"strings"
	"testing"

	"quarry/hash"
	"quarry/trie"
)

// noClash checks that Clash tells nothing.
func noClash(t *testing.T, a, b *trie.Trie) {
	t.Helper()
	if x, y, ok := trie.Clash(a, b); ok || len(x)+len(y) > 0 {
		t.Errorf("Clash: %x, %x, %v", x, y, ok)
	}
}

// TestClashNone: P12.7, R1: tries of one map, of maps that are not the same and have not the same root, one and the same trie, none.
func TestClashNone(t *testing.T) {
	m := mixer(70)
	for range 100 {
		pairs := m.pairs(8)
		a, b := of(pairs), of(pairs)
		noClash(t, a, b)
		noClash(t, a, a)
		b.Put([]byte(m.key()), []byte("another value"))
		noClash(t, a, b)
		noClash(t, b, a)
	}
	noClash(t, trie.New(), trie.New())
	noClash(t, trie.New(), of(map[string]string{"": "v"}))
	noClash(t, nil, trie.New())
	noClash(t, trie.New(), nil)
	noClash(t, nil, nil)
}

// weakHash is a package hash whose Keccak tells eight hashes apart.
const weakHash = `package hash

func Keccak(b []byte) (h [32]byte) {
	n := uint64(14695981039346656037)
	for _, v := range b {
		n = (n ^ uint64(v)) * 1099511628211
	}
	h[7] = byte(n >> 61)
	return h
}
`

// isWeak says whether Keccak is that one.
func isWeak() bool {
	h := hash.Keccak(nil)
	return bytes.Count(h[:], []byte{0}) >= 31
}

// TestClashOfWeakHash: P12.7: nobody knows two byte strings with one Keccak; so TestWeakClash is run in a build that has the weak one.
func TestClashOfWeakHash(t *testing.T) {
	if isWeak() {
		t.Skip("the weak hash is here")
	}
	replace := map[string]string{}
	files, err := filepath.Glob("../hash/*.go")
	if err != nil || len(files) == 0 {
		t.Fatal("there is no package hash", err)
	}
	for _, f := range files {
		path, err := filepath.Abs(f)
		if err != nil {
			t.Fatal(err)
		}
		replace[path] = "" // the file isn't there in that build
	}
	weak := filepath.Join(t.TempDir(), "weak.go")
	first, _ := filepath.Abs(files[0])
	replace[first] = weak
	overlay, _ := json.Marshal(map[string]any{"Replace": replace})
	plan := filepath.Join(t.TempDir(), "overlay.json")
	if os.WriteFile(weak, []byte(weakHash), 0o600) != nil || os.WriteFile(plan, overlay, 0o600) != nil {
		t.Fatal("the weak hash can't be written")
	}
	out, err := exec.Command("go", "test", "-overlay", plan, "-run", "^TestWeakClash$", "-count", "1", "-v", ".").CombinedOutput()
	if err != nil || !strings.Contains(string(out), "--- PASS: TestWeakClash") {
		t.Errorf("%v\n%s", err, out)
	}
}

// TestWeakClash: P12.7, R2: with the weak Keccak, that Clash finds two byte strings just where two maps that are not the same have one root.
func TestWeakClash(t *testing.T) {
	if !isWeak() {
		t.Skip("the hash is Keccak: TestClashOfWeakHash runs this with a weak one")
	}
	m := mixer(71)
	found, apart, one := 0, 0, 0
	for range 4000 {
		pairs := m.pairs(10)
		others := maps.Clone(pairs)
		for range m.below(3) {
			others[m.key()] = m.value()
		}
		a, b := of(pairs), of(others)
		switch {
		case maps.Equal(pairs, others):
			one++
			noClash(t, a, b)
		case a.Root() != b.Root():
			apart++
			noClash(t, a, b)
		default:
			found++
			checkClash(t, a, b)
		}
	}
	if found < 200 || apart < 200 || one < 200 {
		t.Errorf("only %d clashes, %d pairs of roots, %d pairs of one map", found, apart, one)
	}
}

// checkClash checks that Clash finds two byte strings of one hash, in memory of their own.
func checkClash(t *testing.T, a, b *trie.Trie) {
	t.Helper()
	x, y, ok := trie.Clash(a, b)
	if !ok || bytes.Equal(x, y) || hash.Keccak(x) != hash.Keccak(y) {
		t.Errorf("Clash: %x, %x, %v", x, y, ok)
	}
	z, w, _ := trie.Clash(a, b)
	if !bytes.Equal(x, z) || !bytes.Equal(y, w) {
		t.Errorf("Clash finds %x, %x at one time, %x, %x at another", x, y, z, w)
	}
	if shared(append(stretches(x, y), stretches(z, w)...)) {
		t.Error("Clash's answers share memory")
	}
}
