package book

import (
	"quarry/api"
	"quarry/rlp"
	"quarry/word"
)

// bytesItem is a byte string as an item.
func bytesItem(b []byte) api.Item { return api.Item{Bytes: b} }

// addressItem is an address as an item.
func addressItem(a api.Address) api.Item { return bytesItem(a[:]) }

// hashItem is a hash as an item.
func hashItem(h api.Hash) api.Item { return bytesItem(h[:]) }

// countItem is a number of 64 bits as an item.
func countItem(n uint64) api.Item { return rlp.Of(word.Of(n)) }

// flagItem is 1 as an item, if it holds, else 0.
func flagItem(holds bool) api.Item {
	if holds {
		return countItem(1)
	}
	return countItem(0)
}

// row is the list of some parts.
func row(parts ...api.Item) api.Item { return api.Item{List: true, Items: parts} }

// rowOf is the list of what part makes of each of l.
func rowOf[T any](l []T, part func(T) api.Item) api.Item {
	all := make([]api.Item, 0, len(l))
	for _, x := range l {
		all = append(all, part(x))
	}
	return row(all...)
}

// encode is the form of an item that is made here, or was read: neither has too many lists in one another.
func encode(x api.Item) []byte {
	b, _ := rlp.Encode(x)
	return b
}

// inEnvelope is the form of a list, in the envelope of its kind.
func inEnvelope(kind int, list api.Item) []byte {
	if kind == plain {
		return encode(list)
	}
	return append([]byte{byte(kind)}, encode(list)...)
}
