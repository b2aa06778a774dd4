package book_test

import (
	"math/big"
	"reflect"
	"slices"
	"strings"
	"testing"

	"quarry/api"
	"quarry/rlp"
)

// txLists are the chapter's lists of the parts of each kind.
var txLists = []string{
	"Nonce, Price, Gas, To, Value, Data, V, R, S",
	"ChainID, Nonce, Price, Gas, To, Value, Data, Access, V, R, S",
	"ChainID, Nonce, Tip, Price, Gas, To, Value, Data, Access, V, R, S",
	"ChainID, Nonce, Tip, Price, Gas, To, Value, Data, Access, BlobFee, Blobs, V, R, S",
}

// headerList is the chapter's list of a header's parts.
const headerList = "Parent, Ommers, Coinbase, State, Txs, Receipts, Bloom, Difficulty, Number, GasLimit, GasUsed, Time, Extra, Mix, Nonce, BaseFee, Withdrawals, BlobGas, Excess, Beacon"

// plainPart is a value as a part of a list: what it is, its type tells.
func plainPart(v reflect.Value) api.Item {
	switch x := v.Interface().(type) {
	case uint64:
		return text(new(big.Int).SetUint64(x).Bytes()...)
	case api.Word:
		return text(bigOf(x).Bytes()...)
	case api.Address:
		return text(x[:]...)
	case api.Hash:
		return text(x[:]...)
	case [256]byte:
		return text(x[:]...)
	case [8]byte:
		return text(x[:]...)
	case []byte:
		return text(x...)
	case []api.Hash:
		all := list()
		for i := range x {
			all.Items = append(all.Items, text(x[i][:]...))
		}
		return all
	case []api.Access:
		all := list()
		for _, a := range x {
			all.Items = append(all.Items, list(plainPart(reflect.ValueOf(a.Address)), plainPart(reflect.ValueOf(a.Keys))))
		}
		return all
	}
	panic("a part of no kind")
}

// plainRow is the list of the fields of s that have those names.
func plainRow(s any, names string) api.Item {
	row := list()
	for _, name := range strings.Split(names, ", ") {
		row.Items = append(row.Items, plainPart(reflect.ValueOf(s).FieldByName(name)))
	}
	return row
}

// plainV is V of t, by the chapter's words.
func plainV(t api.Tx) *big.Int {
	v := new(big.Int)
	if t.Kind == 0 && t.ChainID == 0 {
		v.SetInt64(27)
	} else if t.Kind == 0 {
		v.Add(big.NewInt(35), new(big.Int).Mul(big.NewInt(2), new(big.Int).SetUint64(t.ChainID)))
	}
	if t.Odd {
		v.Add(v, big.NewInt(1))
	}
	return v
}

// plainTx is the list of t.
func plainTx(t api.Tx) api.Item {
	row := list()
	for _, name := range strings.Split(txLists[t.Kind], ", ") {
		switch {
		case name == "V":
			row.Items = append(row.Items, text(plainV(t).Bytes()...))
		case name == "To" && t.Make:
			row.Items = append(row.Items, text())
		default:
			row.Items = append(row.Items, plainRow(t, name).Items...)
		}
	}
	return row
}

// enveloped is a list's form, behind its kind.
func enveloped(t *testing.T, kind int, x api.Item) []byte {
	t.Helper()
	if kind == 0 {
		return form(t, x)
	}
	return append([]byte{byte(kind)}, form(t, x)...)
}

// txForm is the bytes of t, by the chapter's words.
func txForm(t *testing.T, tx api.Tx) []byte {
	t.Helper()
	return enveloped(t, tx.Kind, plainTx(tx))
}

// plainHeader is the list of h.
func plainHeader(h api.Header) api.Item {
	row := plainRow(h, headerList)
	row.Items = row.Items[:h.Fields]
	return row
}

// plainBlock is the list of b, whose transactions are such.
func plainBlock(t *testing.T, b api.Block) api.Item {
	t.Helper()
	txs, ommers, withdrawals := list(), list(), list()
	for _, raw := range b.Txs {
		x := text(raw...)
		if raw[0] >= 192 {
			var e api.Errno
			if x, e = rlp.Decode(raw); e != api.OK {
				t.Fatalf("no transaction: %x", raw)
			}
		}
		txs.Items = append(txs.Items, x)
	}
	for _, h := range b.Ommers {
		ommers.Items = append(ommers.Items, plainHeader(h))
	}
	for _, w := range b.Withdrawals {
		withdrawals.Items = append(withdrawals.Items, plainRow(w, "Index, Validator, Address, Amount"))
	}
	row := list(plainHeader(b.Header), txs, ommers, withdrawals)
	if !b.Paid {
		row.Items = row.Items[:3]
	}
	return row
}

// A shape is what a part must be: it tells what is wrong first with one.
type shape func(api.Item) api.Errno

// bounded is the shape of a number below 2 to the power bits.
func bounded(bits int) shape {
	return func(x api.Item) api.Errno {
		switch {
		case x.List, len(x.Bytes) > 0 && x.Bytes[0] == 0:
			return api.ErrForm
		case new(big.Int).SetBytes(x.Bytes).BitLen() > bits:
			return api.ErrRange
		}
		return api.OK
	}
}

// long is the shape of a byte string of one of these lengths.
func long(lengths ...int) shape {
	return func(x api.Item) api.Errno {
		if x.List || !slices.Contains(lengths, len(x.Bytes)) {
			return api.ErrForm
		}
		return api.OK
	}
}

// anyBytes is the shape of any byte string.
func anyBytes(x api.Item) api.Errno {
	if x.List {
		return api.ErrForm
	}
	return api.OK
}

// rows is the shape of a list of any number of parts of one shape.
func rows(part shape) shape {
	return func(x api.Item) api.Errno {
		if !x.List {
			return api.ErrForm
		}
		for _, y := range x.Items {
			if e := part(y); e != api.OK {
				return e
			}
		}
		return api.OK
	}
}

// row is the shape of a list of parts of these shapes, one behind the other, of which there may be so many.
func row(shapes []shape, counts ...int) shape {
	return func(x api.Item) api.Errno {
		if !x.List || !slices.Contains(counts, len(x.Items)) {
			return api.ErrForm
		}
		for i, y := range x.Items {
			if e := shapes[i](y); e != api.OK {
				return e
			}
		}
		return api.OK
	}
}

// vShape is the shape of V.
func vShape(kind int) shape {
	return func(x api.Item) api.Errno {
		if e := bounded(1 << 20)(x); e != api.OK {
			return e
		}
		v := new(big.Int).SetBytes(x.Bytes)
		last := new(big.Int).Add(new(big.Int).Lsh(big.NewInt(1), 65), big.NewInt(34))
		switch {
		case kind > 0 && v.Cmp(big.NewInt(1)) <= 0:
		case kind == 0 && (v.Cmp(big.NewInt(27)) == 0 || v.Cmp(big.NewInt(28)) == 0):
		case kind == 0 && v.Cmp(big.NewInt(37)) >= 0 && v.Cmp(last) <= 0:
		default:
			return api.ErrRange
		}
		return api.OK
	}
}

// txShape is the shape of the list of that kind.
func txShape(kind int) shape {
	var shapes []shape
	for _, name := range strings.Split(txLists[kind], ", ") {
		switch name {
		case "ChainID", "Nonce", "Gas":
			shapes = append(shapes, bounded(64))
		case "Price", "Tip", "Value", "BlobFee", "R", "S":
			shapes = append(shapes, bounded(256))
		case "To":
			if kind == 3 {
				shapes = append(shapes, long(20))
			} else {
				shapes = append(shapes, long(0, 20))
			}
		case "Data":
			shapes = append(shapes, anyBytes)
		case "Access":
			shapes = append(shapes, rows(row([]shape{long(20), rows(long(32))}, 2)))
		case "Blobs":
			shapes = append(shapes, rows(long(32)))
		case "V":
			shapes = append(shapes, vShape(kind))
		}
	}
	return row(shapes, len(shapes))
}

// headerShape is the shape of a header.
func headerShape(x api.Item) api.Errno {
	var shapes []shape
	for _, name := range strings.Split(headerList, ", ") {
		switch name {
		case "Coinbase":
			shapes = append(shapes, long(20))
		case "Bloom":
			shapes = append(shapes, long(256))
		case "Difficulty", "BaseFee":
			shapes = append(shapes, bounded(256))
		case "Number", "GasLimit", "GasUsed", "Time", "BlobGas", "Excess":
			shapes = append(shapes, bounded(64))
		case "Extra":
			shapes = append(shapes, anyBytes)
		case "Nonce":
			shapes = append(shapes, long(8))
		default:
			shapes = append(shapes, long(32))
		}
	}
	return row(shapes, 15, 16, 17, 20)(x)
}

// rawShape is the shape of a transaction in a block.
func rawShape(x api.Item) api.Errno {
	if x.List || len(x.Bytes) > 0 && x.Bytes[0] >= 1 && x.Bytes[0] <= 3 {
		return api.OK
	}
	return api.ErrForm
}

// blockShape is the shape of a block.
func blockShape(x api.Item) api.Errno {
	withdrawal := row([]shape{bounded(64), bounded(64), long(20), bounded(64)}, 4)
	return row([]shape{headerShape, rows(rawShape), rows(headerShape), rows(withdrawal)}, 3, 4)(x)
}

// places are the ways to all items in x, x itself too: which part of it, which part of that, and so on.
func places(x api.Item) [][]int {
	all := [][]int{nil}
	for i, y := range x.Items {
		for _, way := range places(y) {
			all = append(all, append([]int{i}, way...))
		}
	}
	return all
}

// changed is x with what change makes of the parts of the list that way's last part is in, from that part on.
func changed(x api.Item, way []int, change func([]api.Item) []api.Item) api.Item {
	x.Items = slices.Clone(x.Items)
	if len(way) == 1 {
		x.Items = append(x.Items[:way[0]:way[0]], change(x.Items[way[0]:])...)
	} else {
		x.Items[way[0]] = changed(x.Items[way[0]], way[1:], change)
	}
	return x
}

// with is x with y in that place.
func with(x api.Item, way []int, y api.Item) api.Item {
	if len(way) == 0 {
		return y
	}
	return changed(x, way, func(l []api.Item) []api.Item { return append([]api.Item{y}, l[1:]...) })
}

// without is x without what is in that place.
func without(x api.Item, way []int) api.Item {
	return changed(x, way, func(l []api.Item) []api.Item { return l[1:] })
}

// twice is x with what is in that place twice.
func twice(x api.Item, way []int) api.Item {
	return changed(x, way, func(l []api.Item) []api.Item { return append([]api.Item{l[0]}, l...) })
}

// odd are items that are no part, or the part of some places alone, or at the ends of what a part may be.
func odd() []api.Item {
	all := []api.Item{text(), text(0), text(1), text(2), text(3, 0xc0), text(4), text(127), text(128), text(0, 1), text(1, 0), text(192), text(0xc0, 0xc0),
		text(26), text(27), text(28), text(29), text(34), text(35), text(36), text(37), text(38), text(0, 27), text(0, 37),
		whole("20000000000000021"), whole("20000000000000022"), whole("20000000000000023"), whole("1fffffffffffffff0"), whole("ffffffffffffffff"),
		list(), list(list()), list(text()), list(text(1)), list(text(), text()), list(text(1), list()), list(text(make([]byte, 20)...), list()), list(text(make([]byte, 20)...), text()),
		list(text(make([]byte, 20)...), list(), list()), list(text(make([]byte, 32)...)), list(list(text(make([]byte, 20)...), list(text(make([]byte, 32)...)))),
		list(list(text(make([]byte, 20)...), list(text(make([]byte, 31)...)))), list(text(0), text(0), text(make([]byte, 20)...), text(0))}
	for _, n := range []int{1, 2, 7, 8, 9, 19, 20, 21, 31, 32, 33, 34, 55, 56, 255, 256, 257} {
		zeros, ones := make([]byte, n), make([]byte, n)
		for i := range ones {
			ones[i] = 255
		}
		first := slices.Clone(zeros)
		first[0] = 1
		all = append(all, text(zeros...), text(ones...), text(first...))
	}
	return all
}

// spoilt gives x with each odd item in each place, with each part left out and doubled, and with many changes in two or three places.
func spoilt(x api.Item, give func(api.Item)) {
	m := mixer(1)
	ways, items := places(x), odd()
	give(x)
	for _, way := range ways {
		for _, y := range items {
			give(with(x, way, y))
		}
		if len(way) > 0 {
			give(without(x, way))
			give(twice(x, way))
		}
	}
	for range 1500 {
		y := x
		for range 2 + m.below(2) {
			now := places(y)
			way := now[m.below(len(now))]
			switch n := m.below(8); {
			case n == 0 && len(way) > 0:
				y = without(y, way)
			case n == 1 && len(way) > 0:
				y = twice(y, way)
			case len(way) > 0:
				y = with(y, way, items[m.below(len(items))])
			}
		}
		give(y)
	}
}
