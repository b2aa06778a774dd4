package trie

import (
	"maps"
	"slices"
	"sort"

	"quarry/api"
	"quarry/hash"
	"quarry/rlp"
)

// ways is how many nibbles there are: so many links has a node where rows part, and a value behind them.
const ways = 16

// A pair is a key and its value.
type pair struct {
	key   string
	value []byte
}

// pairs are all of them, by rising keys, so that those whose rows begin alike stand side by side.
func (t *Trie) pairs() []pair {
	l := make([]pair, 0, len(t.values))
	for _, key := range slices.Sorted(maps.Keys(t.values)) {
		l = append(l, pair{key, t.values[key]})
	}
	return l
}

// forms are the root's form, and then, each ahead of those that it leads to, those of nodes linked by hash that are wanted: a node is asked for by some key of its pairs, and how many nibbles of it lead there.
func (t *Trie) forms(wanted func(some string, at int) bool) [][]byte {
	w := weaver{wanted: wanted}
	root := form(w.node(t.pairs(), 0))
	w.kept = append(w.kept, root)
	slices.Reverse(w.kept)
	return w.kept
}

// A weaver makes the nodes of pairs, and keeps the forms that are wanted, each behind those that it leads to.
type weaver struct {
	wanted func(some string, at int) bool
	kept   [][]byte
}

// node is the node of these pairs, whose keys begin with the same nibbles as far as at, without those nibbles.
func (w *weaver) node(l []pair, at int) api.Item {
	if len(l) == 0 {
		return api.Item{}
	}
	first, last := l[0].key, l[len(l)-1].key
	if len(l) == 1 {
		return two(row(first, at, 2*len(first)), true, api.Item{Bytes: l[0].value})
	}
	if end := alike(first, last, at); end > at { // by their order the pairs between begin so too
		return two(row(first, at, end), false, w.link(l, end))
	}
	return api.Item{List: true, Items: w.parting(l, at)}
}

// parting are the parts of the node of pairs that go on by different nibbles, or of which one ends there.
func (w *weaver) parting(l []pair, at int) []api.Item {
	parts := make([]api.Item, ways+1)
	if 2*len(l[0].key) == at {
		parts[ways].Bytes = l[0].value
		l = l[1:]
	}
	for len(l) > 0 {
		n := nibble(l[0].key, at)
		end := sort.Search(len(l), func(i int) bool { return nibble(l[i].key, at) > n })
		parts[n] = w.link(l[:end], at+1)
		l = l[end:]
	}
	return parts
}

// link is the link to the node of one pair or more.
func (w *weaver) link(l []pair, at int) api.Item {
	x := w.node(l, at)
	raw := form(x)
	if len(raw) < len(api.Hash{}) {
		return x
	}
	if w.wanted(l[0].key, at) {
		w.kept = append(w.kept, raw)
	}
	h := hash.Keccak(raw)
	return api.Item{Bytes: h[:]}
}

// two is the node of a row, and of a value or a link behind it.
func two(nibbles []byte, leaf bool, behind api.Item) api.Item {
	raw, _ := Compact(nibbles, leaf) // never refused: they come from bytes
	return api.Item{List: true, Items: []api.Item{{Bytes: raw}, behind}}
}

// form is a node's form.
func form(x api.Item) []byte {
	raw, _ := rlp.Encode(x) // never refused: lists in one another have fewer than 32 bytes in all, but the outermost
	return raw
}
