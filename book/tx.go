package book

import (
	"quarry/api"
	"quarry/hash"
	"quarry/rlp"
	"quarry/sign"
	"quarry/word"
)

// V of a plain transaction, whose signature is not odd.
const (
	unnamed = 27 // if it names no chain
	named   = 35 // else with twice the chain's number
)

// txParts is how many parts the list of each kind has.
var txParts = [kinds]int{9, 11, 12, 14}

// ReadTx reads a transaction.
func ReadTx(raw []byte) (api.Tx, api.Errno) {
	return attempt(func() api.Tx {
		kind, body, ok := open(raw)
		demand(ok, api.ErrForm)
		return readTx(kind, decode(body))
	})
}

// readTx is the transaction of that kind whose list x is.
func readTx(kind int, x api.Item) api.Tx {
	next := parts(x, txParts[kind])
	t := api.Tx{Kind: kind}
	if kind >= withAccess {
		t.ChainID = readCount(next())
	}
	t.Nonce = readCount(next())
	if kind >= withTip {
		t.Tip = readNumber(next())
	}
	t.Price = readNumber(next())
	t.Gas = readCount(next())
	t.To, t.Make = readTo(kind, next())
	t.Value = readNumber(next())
	t.Data = readBytes(next())
	if kind >= withAccess {
		t.Access = each(next(), readAccess)
	}
	if kind >= withBlobs {
		t.BlobFee = readNumber(next())
		t.Blobs = each(next(), readHash)
	}
	v := readNumber(next())
	if kind == plain {
		t.ChainID, v = readChain(v)
	}
	demand(word.Cmp(v, word.Of(1)) <= 0, api.ErrRange)
	t.Odd = v == word.Of(1)
	t.R = readNumber(next())
	t.S = readNumber(next())
	return t
}

// readTo is whom a transaction goes to, or that it makes a contract.
func readTo(kind int, x api.Item) (to api.Address, makes bool) {
	if kind != withBlobs && !x.List && len(x.Bytes) == 0 {
		return api.Address{}, true
	}
	return readAddress(x), false
}

// readAccess is an account that is named ahead.
func readAccess(x api.Item) api.Access {
	next := parts(x, 2)
	return api.Access{Address: readAddress(next()), Keys: each(next(), readHash)}
}

// readChain is the chain that a plain transaction's V names, 0 if none, and what is left of V beside that.
func readChain(v api.Word) (id uint64, left api.Word) {
	if v == word.Of(unnamed) || v == word.Of(unnamed+1) {
		return 0, word.Sub(v, word.Of(unnamed))
	}
	left = word.Sub(v, word.Of(named)) // a lower V wraps round, and so names a chain that is too great
	id, ok := word.Small(word.Shr(word.Of(1), left))
	demand(ok && id != 0, api.ErrRange)
	return id, word.And(left, word.Of(1))
}

// WriteTx writes a transaction.
func WriteTx(t api.Tx) ([]byte, api.Errno) {
	if !isTx(t) {
		return nil, api.ErrArg
	}
	list := append(unsigned(t), vItem(t), rlp.Of(t.R), rlp.Of(t.S))
	return inEnvelope(t.Kind, row(list...)), api.OK
}

// isTx: has t nothing that its kind has not?
func isTx(t api.Tx) bool {
	switch {
	case !isKind(t.Kind), t.Make && t.To != api.Address{}:
		return false
	case t.Kind < withAccess && len(t.Access) > 0:
		return false
	case t.Kind < withTip && t.Tip != api.Word{}:
		return false
	case t.Kind < withBlobs:
		return t.BlobFee == api.Word{} && len(t.Blobs) == 0
	default:
		return !t.Make
	}
}

// unsigned is the parts of t's list ahead of its signature.
func unsigned(t api.Tx) []api.Item {
	var all []api.Item
	if t.Kind >= withAccess {
		all = append(all, countItem(t.ChainID))
	}
	all = append(all, countItem(t.Nonce))
	if t.Kind >= withTip {
		all = append(all, rlp.Of(t.Tip))
	}
	all = append(all, rlp.Of(t.Price), countItem(t.Gas), toItem(t), rlp.Of(t.Value), bytesItem(t.Data))
	if t.Kind >= withAccess {
		all = append(all, rowOf(t.Access, accessItem))
	}
	if t.Kind >= withBlobs {
		all = append(all, rlp.Of(t.BlobFee), rowOf(t.Blobs, hashItem))
	}
	return all
}

// toItem is the part that says whom t goes to.
func toItem(t api.Tx) api.Item {
	if t.Make {
		return bytesItem(nil)
	}
	return addressItem(t.To)
}

// accessItem is an account that is named ahead, as an item.
func accessItem(a api.Access) api.Item {
	return row(addressItem(a.Address), rowOf(a.Keys, hashItem))
}

// vItem is the part that says whether t's signature is odd.
func vItem(t api.Tx) api.Item {
	if t.Kind != plain {
		return flagItem(t.Odd)
	}
	base := word.Of(unnamed)
	if t.ChainID != 0 {
		twice := word.Shl(word.Of(1), word.Of(t.ChainID)) // as a word: it may have 65 bits
		base = word.Add(word.Of(named), twice)
	}
	if t.Odd {
		base = word.Add(base, word.Of(1))
	}
	return rlp.Of(base)
}

// Signed is the hash that a transaction's sender signs.
func Signed(t api.Tx) (api.Hash, api.Errno) {
	if !isTx(t) {
		return api.Hash{}, api.ErrArg
	}
	list := unsigned(t)
	if t.Kind == plain && t.ChainID != 0 {
		list = append(list, countItem(t.ChainID), countItem(0), countItem(0))
	}
	return hash.Keccak(inEnvelope(t.Kind, row(list...))), api.OK
}

// Sender is who signed a transaction.
func Sender(t api.Tx) (api.Address, api.Errno) {
	h, e := Signed(t)
	if e != api.OK {
		return api.Address{}, e
	}
	p, e := sign.Recover(h, t.Odd, t.R, t.S)
	if e != api.OK {
		return api.Address{}, e
	}
	return sign.Address(p)
}
