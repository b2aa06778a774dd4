package book

import (
	"slices"

	"quarry/api"
	"quarry/rlp"
)

// headerSizes are how many parts a header may have.
func headerSizes() []int { return []int{15, 16, 17, 20} }

// isHeader: is h of as many parts as a header may have?
func isHeader(h api.Header) bool { return slices.Contains(headerSizes(), h.Fields) }

// isNoHeader: is it of another number of parts?
func isNoHeader(h api.Header) bool { return !isHeader(h) }

// WriteHeader writes a header.
func WriteHeader(h api.Header) ([]byte, api.Errno) {
	if !isHeader(h) {
		return nil, api.ErrArg
	}
	return encode(headerItem(h)), api.OK
}

// headerItem is a header as an item.
func headerItem(h api.Header) api.Item {
	all := []api.Item{
		hashItem(h.Parent),
		hashItem(h.Ommers),
		addressItem(h.Coinbase),
		hashItem(h.State),
		hashItem(h.Txs),
		hashItem(h.Receipts),
		bytesItem(h.Bloom[:]),
		rlp.Of(h.Difficulty),
		countItem(h.Number),
		countItem(h.GasLimit),
		countItem(h.GasUsed),
		countItem(h.Time),
		bytesItem(h.Extra),
		hashItem(h.Mix),
		bytesItem(h.Nonce[:]),
		rlp.Of(h.BaseFee),
		hashItem(h.Withdrawals),
		countItem(h.BlobGas),
		countItem(h.Excess),
		hashItem(h.Beacon),
	}
	return row(all[:h.Fields]...)
}

// ReadHeader reads a header.
func ReadHeader(raw []byte) (api.Header, api.Errno) {
	return attempt(func() api.Header { return readHeader(decode(raw)) })
}

// readHeader is the header whose list x is.
func readHeader(x api.Item) api.Header {
	next := parts(x, headerSizes()...)
	h := api.Header{Fields: len(x.Items)}
	h.Parent = readHash(next())
	h.Ommers = readHash(next())
	h.Coinbase = readAddress(next())
	h.State = readHash(next())
	h.Txs = readHash(next())
	h.Receipts = readHash(next())
	h.Bloom = [256]byte(readFixed(next(), len(h.Bloom)))
	h.Difficulty = readNumber(next())
	h.Number = readCount(next())
	h.GasLimit = readCount(next())
	h.GasUsed = readCount(next())
	h.Time = readCount(next())
	h.Extra = readBytes(next())
	h.Mix = readHash(next())
	h.Nonce = [8]byte(readFixed(next(), len(h.Nonce)))
	if h.Fields >= 16 {
		h.BaseFee = readNumber(next())
	}
	if h.Fields >= 17 {
		h.Withdrawals = readHash(next())
	}
	if h.Fields >= 20 {
		h.BlobGas = readCount(next())
		h.Excess = readCount(next())
		h.Beacon = readHash(next())
	}
	return h
}
