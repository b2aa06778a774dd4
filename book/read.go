package book

import (
	"slices"

	"quarry/api"
	"quarry/rlp"
	"quarry/word"
)

// A refusal is what a reader gives up with.
type refusal struct{ why api.Errno }

// attempt is what read tells, or why it gave up.
func attempt[T any](read func() T) (x T, e api.Errno) {
	defer func() {
		if given := recover(); given != nil {
			e = given.(refusal).why // readers panic with nothing else
		}
	}()
	return read(), api.OK
}

// demand gives up, unless it holds.
func demand(holds bool, why api.Errno) {
	if !holds {
		panic(refusal{why})
	}
}

// decode is the item whose form raw is.
func decode(raw []byte) api.Item {
	x, e := rlp.Decode(raw)
	demand(e == api.OK, e)
	return x
}

// each is what read tells of each part of the list x.
func each[T any](x api.Item, read func(api.Item) T) []T {
	demand(x.List, api.ErrForm)
	var all []T
	for _, part := range x.Items {
		all = append(all, read(part))
	}
	return all
}

// parts tells the parts of the list x, one at each call of next. How many there are, one of counts, is asked ahead of them.
func parts(x api.Item, counts ...int) (next func() api.Item) {
	demand(x.List && slices.Contains(counts, len(x.Items)), api.ErrForm)
	at := 0
	return func() api.Item {
		at++
		return x.Items[at-1]
	}
}

// readBytes is a byte string; one without bytes is nil, as a list without parts is.
func readBytes(x api.Item) []byte {
	demand(!x.List, api.ErrForm)
	if len(x.Bytes) == 0 {
		return nil
	}
	return x.Bytes
}

// readFixed is a byte string of n bytes.
func readFixed(x api.Item, n int) []byte {
	b := readBytes(x)
	demand(len(b) == n, api.ErrForm)
	return b
}

// readAddress is an address.
func readAddress(x api.Item) api.Address { return api.Address(readFixed(x, len(api.Address{}))) }

// readHash is a hash.
func readHash(x api.Item) api.Hash { return api.Hash(readFixed(x, len(api.Hash{}))) }

// readNumber is a number of 256 bits.
func readNumber(x api.Item) api.Word {
	a, e := rlp.Number(readBytes(x))
	demand(e == api.OK, e)
	return a
}

// readCount is a number of 64 bits.
func readCount(x api.Item) uint64 {
	n, ok := word.Small(readNumber(x))
	demand(ok, api.ErrRange)
	return n
}
