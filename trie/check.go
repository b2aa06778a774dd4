package trie

import (
	"bytes"
	"slices"

	"quarry/api"
	"quarry/hash"
	"quarry/rlp"
)

// Check reads a proof: what the key has in the trie of that root; ErrProof, if the proof shows it not, or more.
func Check(root api.Hash, key []byte, proof [][]byte) (value []byte, ok bool, e api.Errno) {
	w := walk{ahead: row(string(key), 0, 2*len(key)), proof: proof}
	if !w.whole(root) || len(w.proof) > 0 {
		return nil, false, api.ErrProof
	}
	return w.value, len(w.value) > 0, api.OK
}

// A walk goes from a root to a key, with nothing but a proof's forms.
type walk struct {
	ahead []byte   // the key's nibbles that it has not gone by
	proof [][]byte // the forms that it has not met
	value []byte   // what the key has, when the walk has ended
}

// whole goes the whole way: not ok, if the forms aren't such as show it.
func (w *walk) whole(root api.Hash) bool {
	x, ok := w.enter(api.Item{Bytes: root[:]})
	if ok && isNone(x) { // the root of no pairs
		return true
	}
	for ok {
		var link api.Item
		if link, ok = w.pass(x); !ok || isNone(link) {
			return ok
		}
		x, ok = w.enter(link)
	}
	return false
}

// enter is the node that a link leads to, the link itself or the next form's item.
func (w *walk) enter(link api.Item) (api.Item, bool) {
	if link.List {
		return link, true
	}
	if len(w.proof) == 0 {
		return api.Item{}, false
	}
	raw := w.proof[0]
	w.proof = w.proof[1:]
	h := hash.Keccak(raw)
	x, e := rlp.Decode(raw)
	return x, bytes.Equal(h[:], link.Bytes) && e == api.OK
}

// pass goes through a node: the link by which the way goes on, or none, where it ends; not ok, if x is no such node.
func (w *walk) pass(x api.Item) (link api.Item, ok bool) {
	switch len(x.Items) {
	case ways + 1:
		return w.passParting(x.Items)
	case 2:
		return w.passTwo(x.Items[0], x.Items[1])
	}
	return api.Item{}, false
}

// passParting goes through a node where rows part.
func (w *walk) passParting(parts []api.Item) (link api.Item, ok bool) {
	if !all(parts[:ways], isLink) || parts[ways].List {
		return api.Item{}, false
	}
	if len(w.ahead) == 0 {
		w.value = parts[ways].Bytes
		return api.Item{}, true
	}
	link = parts[w.ahead[0]]
	w.ahead = w.ahead[1:]
	return link, true
}

// passTwo goes through a node of a row, and of a value or a link behind it.
func (w *walk) passTwo(first, behind api.Item) (link api.Item, ok bool) {
	nibbles, leaf, e := Expand(first.Bytes)
	if first.List || e != api.OK {
		return api.Item{}, false
	}
	if leaf {
		return api.Item{}, w.passLeaf(nibbles, behind)
	}
	if !isLink(behind) {
		return api.Item{}, false
	}
	if !bytes.HasPrefix(w.ahead, nibbles) {
		return api.Item{}, true
	}
	w.ahead = w.ahead[len(nibbles):]
	return behind, true
}

// passLeaf ends the way in a leaf: not ok, if it has no value.
func (w *walk) passLeaf(nibbles []byte, value api.Item) bool {
	if value.List || isNone(value) {
		return false
	}
	if bytes.Equal(w.ahead, nibbles) {
		w.value = value.Bytes
	}
	return true
}

// all: does it hold of each of the parts?
func all(parts []api.Item, holds func(api.Item) bool) bool {
	return !slices.ContainsFunc(parts, func(x api.Item) bool { return !holds(x) })
}

// isLink: can the part be a link?
func isLink(x api.Item) bool { return x.List || isNone(x) || len(x.Bytes) == len(api.Hash{}) }

// isNone: is it the byte string of no bytes?
func isNone(x api.Item) bool { return !x.List && len(x.Bytes) == 0 }
