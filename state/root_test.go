package state_test

import (
	"encoding/json"
	"math/big"
	"os"
	"os/exec"
	"path/filepath"
	"slices"
	"strings"
	"testing"

	"quarry/api"
	"quarry/book"
	"quarry/hash"
	"quarry/state"
)

// wealthy is an account that has nothing but a balance; both are hex digits.
func wealthy(at, balance string) api.Account {
	x := api.Account{Address: api.Address(hexed(at))}
	n, ok := new(big.Int).SetString(balance, 16)
	if !ok {
		panic(balance)
	}
	for i, v := range n.FillBytes(make([]byte, 32)) {
		x.Balance[3-i/8] |= uint64(v) << (56 - i%8*8)
	}
	return x
}

// TestKnownRoots: P15.6: the roots that begin the chains Goerli and Rinkeby: 256 accounts with 1, and a few with more.
func TestKnownRoots(t *testing.T) {
	var l []api.Account
	for i := range 256 {
		l = append(l, api.Account{Address: api.Address{19: byte(i)}, Balance: api.Word{1}})
	}
	goerli := append(slices.Clip(l),
		wealthy("4c2ae482593505f0163cdefc073e81c63cda4107", "152d02c7e14af6800000"),
		wealthy("a8e8f14732658e4b51e8711931053a8a69baf2b1", "152d02c7e14af6800000"),
		wealthy("d9a5179f091d85051d3c982785efd1455cec8699", "84595161401484a000000"),
		wealthy("e0a2bd4258d2768837baa26a28fe71dc079f84c7", "4a47e3c12448f4ad000000"))
	is(t, "Root of Goerli", load(t, goerli).Root(), api.Hash(hexed("5d6cded585e73c4e322c30c2f782a336316f17dd85a4863b9d838d2d4b8b3008")))
	rinkeby := append(slices.Clip(l), wealthy("31b98d14007bdee637298086988a0bbd31184523", "2"+strings.Repeat("0", 62)))
	is(t, "Root of Rinkeby", load(t, rinkeby).Root(), api.Hash(hexed("53580584816f617295ea26c0e17641e0120cab2f0a8ffb53a866fd53aa8e8c2d")))
}

// TestKnownStorage: P15.6: the hash of a header that others tell of one account with one place.
func TestKnownStorage(t *testing.T) {
	high := api.Word{3: 1 << 56}
	s := load(t, []api.Account{{Address: api.Address{1}, Balance: api.Word{1}, Storage: []api.Slot{{Key: high, Value: high}}}})
	none := state.New().Root()
	raw, _ := book.WriteHeader(api.Header{Fields: 15, Ommers: hash.Keccak([]byte{0xc0}), State: s.Root(), Txs: none, Receipts: none, Difficulty: api.Word{131072}, GasLimit: 4712388})
	is(t, "the header's hash", hash.Keccak(raw), [32]byte(hexed("89c99d90b79719238d2645c7642f2c9295246e80775b38cfd162b696817fbd50")))
}

// TestRoot: P15.6: each number of an account, and each place's value, on the ends of their bytes.
func TestRoot(t *testing.T) {
	edges := []api.Word{{}, {1}, {127}, {128}, {255}, {256}, {most}, {0, 1}, {most, most, most}, {3: 1}, {3: 1 << 63}, top()}
	for _, v := range edges {
		for _, w := range edges {
			l := []api.Account{
				{Address: address(1), Nonce: v[0], Balance: w},
				{Address: address(2), Balance: v, Code: bigOf(w).Bytes(), Storage: []api.Slot{{Key: v, Value: w}, {Key: api.Word{2}, Value: v}}},
			}
			is(t, "Root", load(t, l[:1]).Root(), rootOf(l[:1]))
			is(t, "Root", load(t, l).Root(), rootOf(l))
		}
	}
}

// TestRootOfAlloc: P15.7: Root hangs on Alloc alone, not on what led to it, what the transaction has or what was asked; worlds that are not the same have not the same root.
func TestRootOfAlloc(t *testing.T) {
	var m mixer = 30
	roots := map[api.Hash][]api.Account{}
	for range 300 {
		s := load(t, m.start())
		for range m.below(30) {
			m.deed().do(s)
			m.turn(3).do(s)
		}
		l := s.Alloc()
		is(t, "Root", s.Root(), rootOf(l))
		is(t, "Root of Alloc", load(t, l).Root(), s.Root())
		slices.Reverse(l)
		is(t, "Root of Alloc backward", load(t, l).Root(), s.Root())
		s.Begin()
		is(t, "Root behind Begin", s.Root(), rootOf(s.Alloc()))
		if other, known := roots[s.Root()]; known {
			is(t, "who has this root", s.Alloc(), other)
		}
		roots[s.Root()] = s.Alloc()
	}
	if len(roots) < 200 {
		t.Errorf("only %d worlds", len(roots))
	}
}

// weakHash makes package hash tell only two kinds of addresses, and two of keys, apart.
const weakHash = `package hash

func Keccak(b []byte) [32]byte {
	if len(b) == 20 || len(b) == 32 {
		b = []byte{b[len(b)-1] & 1}
	}
	return strong(b)
}
`

// isWeak says whether Keccak is that one.
func isWeak() bool { return hash.Keccak(make([]byte, 20)) == hash.Keccak(make([]byte, 32)) }

// TestRootOfWeakHash: P15.6: nobody knows two addresses or keys with one Keccak; so TestWeakRoot is run in a build that has a weak one.
func TestRootOfWeakHash(t *testing.T) {
	if isWeak() {
		t.Skip("the weak hash is here")
	}
	given, err := filepath.Abs("../hash/keccak.go")
	if err != nil {
		t.Fatal(err)
	}
	text, err := os.ReadFile(given)
	if err != nil || strings.Count(string(text), "func Keccak(") != 1 {
		t.Fatal("there is no Keccak to make weak", err)
	}
	room := t.TempDir()
	write := func(name, text string) string {
		path := filepath.Join(room, name)
		if err := os.WriteFile(path, []byte(text), 0o600); err != nil {
			t.Fatal(err)
		}
		return path
	}
	overlay, _ := json.Marshal(map[string]any{"Replace": map[string]string{
		given: write("strong.go", strings.Replace(string(text), "func Keccak(", "func strong(", 1)),
		filepath.Join(filepath.Dir(given), "weak.go"): write("weak.go", weakHash),
	}})
	out, err := exec.Command("go", "test", "-overlay", write("overlay.json", string(overlay)), "-run", "^TestWeakRoot$", "-count", "1", "-v", ".").CombinedOutput()
	if err != nil || !strings.Contains(string(out), "--- PASS: TestWeakRoot") {
		t.Errorf("%v\n%s", err, out)
	}
}

// TestWeakRoot: P15.6: with the weak Keccak, that of two accounts, or places, of one hash the later in Alloc stands.
func TestWeakRoot(t *testing.T) {
	if !isWeak() {
		t.Skip("the hash is Keccak: TestRootOfWeakHash runs this with a weak one")
	}
	var m mixer = 31
	for range 300 {
		l := m.accounts(12)
		s := load(t, l)
		is(t, "Root", s.Root(), rootOf(plainOf(l).Alloc()))
	}
	one, two, three := api.Account{Address: address(1), Nonce: 1}, api.Account{Address: address(2), Nonce: 2}, api.Account{Address: address(3), Nonce: 3}
	is(t, "Root of the last ones", load(t, []api.Account{three, one, two}).Root(), load(t, []api.Account{two, three}).Root())
	one.Storage = slots(api.Word{5}, api.Word{4}, api.Word{1}, api.Word{3}, api.Word{2})
	two = one
	two.Storage = []api.Slot{one.Storage[0], one.Storage[1]}
	is(t, "Root of the last places", load(t, []api.Account{one}).Root(), load(t, []api.Account{two}).Root())
}
