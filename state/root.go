package state

import (
	"quarry/api"
	"quarry/hash"
	"quarry/rlp"
	"quarry/trie"
	"quarry/word"
)

// Root is the hash of all.
func (s *State) Root() api.Hash {
	t := trie.New()
	for _, a := range s.addresses() {
		lay(t, a[:], s.accounts[a].item())
	}
	return t.Root()
}

// item is what the trie of all accounts has of this one.
func (c *account) item() api.Item {
	root := c.root()
	return api.Item{List: true, Items: []api.Item{
		rlp.Of(word.Of(c.nonce)), rlp.Of(c.balance), {Bytes: root[:]}, {Bytes: c.program.hash[:]},
	}}
}

// root is the hash of the account's storage.
func (c *account) root() api.Hash {
	t := trie.New()
	for _, slot := range c.slots() {
		key := word.Bytes(slot.Key)
		lay(t, key[:], rlp.Of(slot.Value))
	}
	return t.Root()
}

// lay puts the form of x under a key's hash. Of two keys with one hash the later stands, so callers go by their order.
func lay(t *trie.Trie, key []byte, x api.Item) {
	h := hash.Keccak(key)
	raw, _ := rlp.Encode(x) // never refused: no more than one list
	t.Put(h[:], raw)
}
