package book

import (
	"quarry/api"
	"quarry/hash"
)

// Bloom is the filter of logs.
func Bloom(l []api.Log) [256]byte {
	var filter [256]byte
	for _, log := range l {
		mark(&filter, log.Address[:])
		for _, topic := range log.Topics {
			mark(&filter, topic[:])
		}
	}
	return filter
}

// mark sets the three bits by which b is found.
func mark(filter *[256]byte, b []byte) {
	k := hash.Keccak(b)
	for i := 0; i < 6; i += 2 {
		n := (256*int(k[i]) + int(k[i+1])) % (8 * len(filter))
		filter[len(filter)-1-n/8] |= 1 << (n % 8)
	}
}

// WriteReceipt writes a receipt.
func WriteReceipt(r api.Receipt) ([]byte, api.Errno) {
	if !isKind(r.Kind) || len(r.Root) != 0 && len(r.Root) != len(api.Hash{}) {
		return nil, api.ErrArg
	}
	first := bytesItem(r.Root)
	if len(r.Root) == 0 {
		first = flagItem(r.OK)
	}
	list := row(first, countItem(r.Gas), bytesItem(r.Bloom[:]), rowOf(r.Logs, logItem))
	return inEnvelope(r.Kind, list), api.OK
}

// logItem is a log as an item.
func logItem(l api.Log) api.Item {
	return row(addressItem(l.Address), rowOf(l.Topics, hashItem), bytesItem(l.Data))
}
