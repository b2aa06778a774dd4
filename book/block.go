package book

import (
	"slices"

	"quarry/api"
	"quarry/rlp"
)

// How many parts a block has, without withdrawals and with them.
const (
	unpaid = 3
	paid   = 4
)

// WriteWithdrawal writes a withdrawal.
func WriteWithdrawal(w api.Withdrawal) []byte { return encode(withdrawalItem(w)) }

// withdrawalItem is a withdrawal as an item.
func withdrawalItem(w api.Withdrawal) api.Item {
	return row(countItem(w.Index), countItem(w.Validator), addressItem(w.Address), countItem(w.Amount))
}

// WriteBlock writes a block.
func WriteBlock(b api.Block) ([]byte, api.Errno) {
	if !isHeader(b.Header) || slices.ContainsFunc(b.Ommers, isNoHeader) {
		return nil, api.ErrArg
	}
	txs := make([]api.Item, len(b.Txs))
	for i, raw := range b.Txs {
		x, ok := txItem(raw)
		if !ok {
			return nil, api.ErrArg
		}
		txs[i] = x
	}
	list := []api.Item{headerItem(b.Header), row(txs...), rowOf(b.Ommers, headerItem)}
	if b.Paid {
		list = append(list, rowOf(b.Withdrawals, withdrawalItem))
	}
	raw, e := rlp.Encode(row(list...))
	if e != api.OK { // a transaction that would do alone is too deep in a block
		return nil, api.ErrArg
	}
	return raw, api.OK
}

// txItem is a transaction's bytes as an item in a block; not ok, if they can be none.
func txItem(raw []byte) (api.Item, bool) {
	kind, body, ok := open(raw)
	if !ok || kind != plain {
		return bytesItem(raw), ok
	}
	x, e := rlp.Decode(body)
	return x, e == api.OK
}

// ReadBlock reads a block.
func ReadBlock(raw []byte) (api.Block, api.Errno) {
	return attempt(func() api.Block { return readBlock(decode(raw)) })
}

// readBlock is the block whose list x is.
func readBlock(x api.Item) api.Block {
	next := parts(x, unpaid, paid)
	b := api.Block{Paid: len(x.Items) == paid}
	b.Header = readHeader(next())
	b.Txs = each(next(), readRaw)
	b.Ommers = each(next(), readHeader)
	if b.Paid {
		b.Withdrawals = each(next(), readWithdrawal)
	}
	return b
}

// readRaw is the bytes of a transaction in a block, which are not looked into.
func readRaw(x api.Item) []byte {
	if x.List {
		return encode(x)
	}
	kind, _, ok := open(x.Bytes)
	demand(ok && kind != plain, api.ErrForm)
	return x.Bytes
}

// readWithdrawal is the withdrawal whose list x is.
func readWithdrawal(x api.Item) api.Withdrawal {
	next := parts(x, 4)
	var w api.Withdrawal
	w.Index = readCount(next())
	w.Validator = readCount(next())
	w.Address = readAddress(next())
	w.Amount = readCount(next())
	return w
}
