package trie_test

import (
	"bytes"
	"slices"
	"testing"

	"quarry/api"
	"quarry/trie"
)

// checkPlain holds Check against the plain one: P12.5.
func checkPlain(t *testing.T, root api.Hash, key []byte, proof [][]byte) {
	t.Helper()
	if want, e := plainCheck(root, rowOf(string(key)), proof); e != api.OK {
		refused(t, root, key, proof)
	} else {
		told(t, root, key, proof, want)
	}
}

// hashed is the form of a link by hash.
func hashed(form []byte) []byte { return text(keccak(form)) }

// parting is the form of a list of seventeen, most of whose parts are none; the others go by number, the value's being 16.
func parting(parts map[int][]byte) []byte {
	all := slices.Repeat([][]byte{{0x80}}, 17)
	for i, form := range parts {
		all[i] = form
	}
	return list(all...)
}

// leaf and inner are forms of lists of two.
func leaf(row, value string) []byte { return list(text(plainCompact(row, true)), text([]byte(value))) }

func inner(row string, link []byte) []byte { return list(text(plainCompact(row, false)), link) }

// chain is a proof of nodes that lead to one another, each made with the link to the one behind it.
func chain(last []byte, ahead ...func(link []byte) []byte) [][]byte {
	proof := [][]byte{last}
	for _, make := range slices.Backward(ahead) {
		proof = slices.Insert(proof, 0, make(hashed(proof[0])))
	}
	return proof
}

// long is a value that no node of fewer than 32 bytes has.
const long = "a value of more than thirty-two bytes"

// TestCheckTurned: P12.5: a proof with any bit turned, a form cut, grown, left out, doubled or put elsewhere, or with another one ahead, behind or between.
func TestCheckTurned(t *testing.T) {
	pairs := map[string]string{"": "none", "do": long + "1", "dog": "puppy", "dogs": long + "2", "doge": long + "3", "horse": "stallion", "horses": long + "4"}
	got := of(pairs)
	root := got.Root()
	for _, key := range []string{"", "do", "dog", "dogs", "doge", "dogma", "horses", "horsf", "x", "dop"} {
		proof := got.Prove([]byte(key))
		told(t, root, []byte(key), proof, pairs[key])
		for i, form := range proof {
			for bit := range 8 * len(form) {
				turned := bytes.Clone(form)
				turned[bit/8] ^= 1 << (bit % 8)
				refused(t, root, []byte(key), slices.Concat(proof[:i], [][]byte{turned}, proof[i+1:]))
			}
			for _, other := range [][]byte{nil, {}, {128}, form[:len(form)-1], append(bytes.Clone(form), 0), form[1:]} {
				refused(t, root, []byte(key), slices.Concat(proof[:i], [][]byte{other}, proof[i+1:]))
				refused(t, root, []byte(key), slices.Concat(proof[:i], [][]byte{other}, proof[i:]))
				refused(t, root, []byte(key), slices.Concat(proof[:i+1], [][]byte{other}, proof[i+1:]))
			}
			refused(t, root, []byte(key), slices.Concat(proof[:i], proof[i+1:]))
			refused(t, root, []byte(key), slices.Concat(proof[:i+1], proof[i:]))
			refused(t, root, []byte(key), proof[:i])
			refused(t, root, []byte(key), append(slices.Clip(proof), form))
			if i > 0 {
				swapped := slices.Clone(proof)
				swapped[i], swapped[i-1] = swapped[i-1], swapped[i]
				refused(t, root, []byte(key), swapped)
			}
		}
		for bit := range 256 {
			other := root
			other[bit/8] ^= 1 << (bit % 8)
			refused(t, other, []byte(key), proof)
		}
	}
}

// TestCheckOtherKey: P12.5: each key's proof, read for each other key, tells what the plain reader tells.
func TestCheckOtherKey(t *testing.T) {
	m := mixer(60)
	for range 20 {
		pairs := m.pairs(20)
		got := of(pairs)
		root := got.Root()
		keys := m.askedOf(pairs)
		for _, key := range keys {
			proof := got.Prove([]byte(key))
			for range 20 {
				checkPlain(t, root, []byte(keys[m.below(len(keys))]), proof)
			}
		}
	}
}

// A proofCase is a proof that somebody made, and what it shows of a key: nothing, if want is empty.
type proofCase struct {
	name  string
	key   string
	proof [][]byte
	want  string
}

// TestCheckTaken: P12.5: nodes that no trie has, but that are such as the promise asks for.
func TestCheckTaken(t *testing.T) {
	last := leaf("2", long)
	for _, c := range []proofCase{
		{"a leaf", "\x12", [][]byte{leaf("12", "v")}, "v"},
		{"a leaf of no nibbles", "", [][]byte{leaf("", "v")}, "v"},
		{"a leaf of another row", "\x13", [][]byte{leaf("12", "v")}, ""},
		{"a leaf that goes on behind the key", "\x12", [][]byte{leaf("1234", "v")}, ""},
		{"a key that goes on behind the leaf", "\x12\x34", [][]byte{leaf("12", "v")}, ""},
		{"a leaf of a row that no key has", "\x12", [][]byte{leaf("123", "v")}, ""},
		{"no pairs", "\x12", [][]byte{{0x80}}, ""},
		{"no pairs, and a key of none", "", [][]byte{{0x80}}, ""},
		{"a list of seventeen of nothing", "\x12", [][]byte{parting(nil)}, ""},
		{"a list of seventeen of nothing, for no bytes", "", [][]byte{parting(nil)}, ""},
		{"a list of seventeen with a value", "", [][]byte{parting(map[int][]byte{16: []byte("v")})}, "v"},
		{"a list of seventeen with a value, for another key", "\x12", [][]byte{parting(map[int][]byte{16: []byte("v")})}, ""},
		{"links of hashes and of lists beside the way", "\x12", [][]byte{parting(map[int][]byte{0: hashed(last), 2: {0xc0}, 3: list(text([]byte(long)), list()), 16: text([]byte(long))})}, ""},
		{"a node in its link", "\x12", [][]byte{parting(map[int][]byte{1: leaf("2", "v")})}, "v"},
		{"nodes in one another's links", "\x12\x34", [][]byte{parting(map[int][]byte{1: inner("2", inner("3", parting(map[int][]byte{4: leaf("", "v")})))})}, "v"},
		{"a node of many bytes in its link", "\x12", [][]byte{parting(map[int][]byte{1: last})}, long},
		{"a node of few bytes linked by its hash", "\x12", chain(leaf("2", "v"), func(link []byte) []byte { return parting(map[int][]byte{1: link}) }), "v"},
		{"an inner beginning of no nibbles", "\x12", chain(leaf("12", "v"), func(link []byte) []byte { return inner("", link) }), "v"},
		{"inner beginnings of no nibbles, behind the key", "", chain(leaf("", "v"), func(link []byte) []byte { return inner("", inner("", link)) }, func(link []byte) []byte { return inner("", link) }), "v"},
		{"inner beginnings behind one another", "\x12\x34", chain(leaf("4", "v"), func(link []byte) []byte { return inner("12", link) }, func(link []byte) []byte { return inner("3", link) }), "v"},
		{"an inner beginning that is all of the key", "\x12", chain(leaf("", "v"), func(link []byte) []byte { return inner("12", link) }), "v"},
		{"an inner beginning that the key goes on with not", "\x12", [][]byte{inner("13", hashed(last))}, ""},
		{"an inner beginning of more than the key", "\x12", [][]byte{inner("123", hashed(last))}, ""},
		{"an inner beginning that the key goes on with not, with a list as its link", "\x12", [][]byte{inner("2", []byte{0xc0})}, ""},
		{"an inner beginning with a link of none", "\x12", [][]byte{inner("12", []byte{0x80})}, ""},
		{"an inner beginning with a link of none, not gone on with", "\x12", [][]byte{inner("2", []byte{0x80})}, ""},
	} {
		t.Run(c.name, func(t *testing.T) {
			checkPlain(t, rootOf(c.proof[0]), []byte(c.key), c.proof)
			told(t, rootOf(c.proof[0]), []byte(c.key), c.proof, c.want)
			refused(t, rootOf(c.proof[0]), []byte(c.key), append(slices.Clip(c.proof), last))
			refused(t, rootOf(c.proof[0]), []byte(c.key), c.proof[:len(c.proof)-1])
			refused(t, rootOf([]byte(c.name)), []byte(c.key), c.proof)
		})
	}
}

// noSuch are forms of items that are no such nodes as P12.5 asks for.
func noSuch() map[string][]byte {
	last := hashed(leaf("2", long))
	of := func(n int) []byte { return list(slices.Repeat([][]byte{{0x80}}, n)...) }
	two := func(raw, behind []byte) []byte { return list(text(raw), behind) }
	return map[string][]byte{
		"a byte string of one byte":                   {5},
		"a byte string of 32 bytes":                   last,
		"a list of none":                              of(0),
		"a list of one":                               of(1),
		"a list of three":                             list([]byte{0x20}, []byte("v"), []byte{0x80}),
		"a list of sixteen":                           of(16),
		"a list of eighteen":                          of(18),
		"a list for a value":                          parting(map[int][]byte{16: {0xc0}}),
		"a list of something for a value":             parting(map[int][]byte{16: list([]byte("v"))}),
		"a link of one byte on the way":               parting(map[int][]byte{1: {5}}),
		"a link of one byte beside the way":           parting(map[int][]byte{0: {5}}),
		"a last link of one byte beside the way":      parting(map[int][]byte{15: {5}}),
		"a link of 31 bytes beside the way":           parting(map[int][]byte{2: text(make([]byte, 31))}),
		"a link of 33 bytes beside the way":           parting(map[int][]byte{2: text(make([]byte, 33))}),
		"a link of 33 bytes on the way":               parting(map[int][]byte{1: text(make([]byte, 33))}),
		"a leaf without a value":                      two([]byte{0x20, 0x12}, []byte{0x80}),
		"a leaf without a value, of another row":      two([]byte{0x20, 0x13}, []byte{0x80}),
		"a leaf with a list":                          two([]byte{0x20, 0x12}, list([]byte("v"))),
		"a leaf with a list, of another row":          two([]byte{0x20, 0x13}, list([]byte("v"))),
		"a row that nobody writes, with a mark":       two([]byte{0x40, 0x12}, []byte("v")),
		"a row that nobody writes, with a nibble":     two([]byte{0x21, 0x12}, []byte("v")),
		"an inner row that nobody writes":             two([]byte{0x01, 0x12}, last),
		"a row of no bytes":                           two(nil, []byte("v")),
		"a list for a row":                            list(list([]byte{0x20}, []byte{0x12}), []byte("v")),
		"a list for an inner row":                     list(list(), last),
		"an inner link of one byte":                   two([]byte{0x11}, []byte{5}),
		"an inner link of 31 bytes":                   two([]byte{0x11}, text(make([]byte, 31))),
		"an inner link of 33 bytes":                   two([]byte{0x11}, text(make([]byte, 33))),
		"an inner link of 33 bytes, not gone on with": two([]byte{0x12}, text(make([]byte, 33))),
	}
}

// TestCheckNoSuchNode: P12.5: each of these as the root, behind a link by hash, and standing itself in its link; the same beside the way, if it is a list there.
func TestCheckNoSuchNode(t *testing.T) {
	key := []byte{0x12}
	for name, form := range noSuch() {
		t.Run(name, func(t *testing.T) {
			refused(t, rootOf(form), key, [][]byte{form})
			proof := chain(form, func(link []byte) []byte { return inner("", link) })
			refused(t, rootOf(proof[0]), key, proof)
			within := inner("", form)
			refused(t, rootOf(within), key, [][]byte{within})
			if form[0] >= 192 {
				beside := parting(map[int][]byte{7: form})
				told(t, rootOf(beside), key, [][]byte{beside}, "")
				beside = inner("7", form)
				told(t, rootOf(beside), key, [][]byte{beside}, "")
			}
		})
	}
}

// TestCheckNoForms: P12.5: the form of no pairs anywhere but as the root, what is no form, lists in too many lists, and forms left over where the way has ended.
func TestCheckNoForms(t *testing.T) {
	key := []byte{0x12}
	nested := []byte{0xc0}
	for range 1024 {
		nested = list(nested)
	}
	for _, form := range [][]byte{nil, {0x80}, {0x81, 0x12}, {0xc2, 0x20}, append(leaf("12", "v"), 0), parting(map[int][]byte{7: nested}), append([]byte{0xf8, byte(len(leaf("12", "v")) - 1)}, leaf("12", "v")[1:]...)} {
		if len(form) != 1 {
			refused(t, rootOf(form), key, [][]byte{form})
		}
		proof := chain(form, func(link []byte) []byte { return inner("", link) })
		refused(t, rootOf(proof[0]), key, proof)
	}
	refused(t, rootOf(nil), key, nil)
	refused(t, api.Hash{}, key, nil)
	last := leaf("2", long)
	told(t, rootOf(leaf("12", "v")), key, [][]byte{leaf("12", "v")}, "v")
	for _, first := range [][]byte{leaf("12", "v"), leaf("13", "v"), inner("2", hashed(last)), parting(map[int][]byte{2: hashed(last)}), {0x80}} {
		refused(t, rootOf(first), key, [][]byte{first, last})
		refused(t, rootOf(first), key, [][]byte{first, nil})
	}
}

// row is a row of up to three nibbles of two kinds, so that keys often go on with it.
func (m *mixer) row() string {
	row := ""
	for range m.below(4) {
		row += digit(m.below(2))
	}
	return row
}

// form is the form of an item that most times is a node, whose links lead to below, or to nodes of no more depth than that.
func (m *mixer) form(depth int, below []byte) []byte {
	link := func() []byte {
		switch n := m.below(40); {
		case n < 4:
			return []byte{0x80}
		case n == 4:
			return text(m.bytes(m.below(40)))
		case n < 12 && depth > 0:
			return m.form(depth-1, below)
		}
		return hashed(below)
	}
	switch n := m.below(60); {
	case n == 0:
		return text(m.bytes(m.below(3)))
	case n == 1:
		return list(slices.Repeat([][]byte{{0x80}}, []int{0, 1, 3, 16, 17, 18}[m.below(6)])...)
	case n == 2:
		return list(text(m.bytes(m.below(2))), link())
	case n < 20:
		return inner(m.row(), link())
	case n < 30:
		return leaf(m.row(), string(m.bytes(m.below(4))))
	}
	parts := map[int][]byte{0: link(), 1: link(), 2 + m.below(14): link(), 16: text(m.bytes(m.below(3)))}
	if m.below(20) == 0 {
		parts[16] = list()
	}
	return parting(parts)
}

// TestCheckWild: P12.5, R1: proofs of forms without any order, that lead to one another at times, against the plain reader.
func TestCheckWild(t *testing.T) {
	m := mixer(61)
	taken, ended := 0, 0
	for range 60000 {
		proof := [][]byte{m.form(2, m.bytes(40))}
		for range m.below(4) {
			proof = slices.Insert(proof, 0, m.form(2, proof[0]))
		}
		key := m.bytes(m.below(4))
		for i := range key {
			key[i] &= 0x11
		}
		root := rootOf(proof[0])
		value, e := plainCheck(root, rowOf(string(key)), proof)
		checkPlain(t, root, key, proof)
		if e == api.OK && len(proof) > 1 {
			ended++
			if value != "" {
				taken++
			}
		}
	}
	if taken < 300 || ended < 2000 {
		t.Errorf("only %d proofs of some forms were taken, %d of them with a value", ended, taken)
	}
}

// TestCheckNoise: R1: bytes without any order, and none.
func TestCheckNoise(t *testing.T) {
	m := mixer(62)
	for range 20000 {
		form := m.bytes(m.below(60))
		if len(form) > 0 {
			form[0] = byte(192 + m.below(64))
			if m.below(2) == 0 {
				form[0] = byte(192 + min(len(form)-1, 55))
			}
		}
		checkPlain(t, rootOf(form), m.bytes(m.below(3)), [][]byte{form})
	}
	if value, ok, e := trie.Check(api.Hash{}, nil, nil); e != api.ErrProof || ok || len(value) > 0 {
		t.Error("Check of nothing is taken")
	}
}
