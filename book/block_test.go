package book_test

import (
	"bytes"
	"testing"

	"quarry/api"
	"quarry/book"
)

// readsBlock holds ReadBlock of the form of x against what is wrong first with that.
func readsBlock(t *testing.T, x api.Item) {
	t.Helper()
	raw := form(t, x)
	b, e := book.ReadBlock(raw)
	if want := blockShape(x); e != want {
		t.Fatalf("ReadBlock of %x: %d; must be %d", raw, e, want)
	}
	if e != api.OK {
		if !same(b, api.Block{}) {
			t.Fatalf("ReadBlock of %x tells %v beside %d", raw, b, e)
		}
		return
	}
	if again := form(t, plainBlock(t, b)); b.Paid != (len(x.Items) == 4) || !bytes.Equal(again, raw) {
		t.Fatalf("ReadBlock of %x: %v, which is %x", raw, b, again)
	}
	if again, e := book.WriteBlock(b); e != api.OK || !bytes.Equal(again, raw) {
		t.Fatalf("WriteBlock of what %x is: %x, %d", raw, again, e)
	}
}

// TestBlockBoth: P14.4, P14.6: blocks are written as the chapter's list, and read again; each transaction is read by ReadTx.
func TestBlockBoth(t *testing.T) {
	var m mixer = 40
	for range 600 {
		b := m.block(t)
		raw, e := book.WriteBlock(b)
		if want := form(t, plainBlock(t, b)); e != api.OK || !bytes.Equal(raw, want) {
			t.Fatalf("WriteBlock of %v: %x, %d; must be %x", b, raw, e, want)
		}
		again, e := book.ReadBlock(raw)
		if e != api.OK || !same(again, b) {
			t.Fatalf("ReadBlock of %x: %v, %d; must be %v", raw, again, e, b)
		}
		for _, tx := range again.Txs {
			if _, e := book.ReadTx(tx); e != api.OK {
				t.Fatalf("ReadTx of %x: %d", tx, e)
			}
		}
	}
}

// some is a block with a transaction of each kind, two ommers and two withdrawals.
func some(t *testing.T, paid bool) api.Block {
	var m mixer = 41
	b := api.Block{Header: m.header(17), Ommers: []api.Header{m.header(15), m.header(20)}, Paid: paid}
	for kind := range 4 {
		b.Txs = append(b.Txs, txForm(t, m.tx(kind)))
	}
	if paid {
		b.Withdrawals = []api.Withdrawal{m.withdrawal(), m.withdrawal()}
	}
	return b
}

// TestBlockEach: P14.1: each odd part in each place, and several at once: what is wrong first is answered.
func TestBlockEach(t *testing.T) {
	for _, paid := range []bool{false, true} {
		spoilt(plainBlock(t, some(t, paid)), func(x api.Item) { readsBlock(t, x) })
	}
}

// TestBlockParts: P14.1: blocks of all numbers of parts, right ones or none of them.
func TestBlockParts(t *testing.T) {
	all := plainBlock(t, some(t, true)).Items
	for n := range 8 {
		var right, wrong []api.Item
		for i := range n {
			right, wrong = append(right, all[i%4]), append(wrong, list())
		}
		readsBlock(t, list(right...))
		readsBlock(t, list(wrong...))
	}
}

// TestBlockTxs: P14.1: transactions that are no such are not looked into; byte strings by their first byte alone.
func TestBlockTxs(t *testing.T) {
	var m mixer = 42
	x := plainBlock(t, some(t, false))
	for first := range 256 {
		for _, behind := range [][]byte{nil, {0}, {0xc0}, m.bytes(80)} {
			raw := append([]byte{byte(first)}, behind...)
			readsBlock(t, with(x, []int{1}, list(text(raw...))))
			readsBlock(t, with(x, []int{1}, list(list(text(raw...)), text(raw...), text(1))))
		}
	}
	readsBlock(t, with(x, []int{1}, list(text())))
	for _, y := range odd() {
		readsBlock(t, with(x, []int{1}, list(text(3), y, list(y))))
	}
}

// TestBlockUnpaid: P14.4: the withdrawals of a block that isn't Paid are not written; a Paid one may have none.
func TestBlockUnpaid(t *testing.T) {
	b := some(t, true)
	b.Paid = false
	raw, e := book.WriteBlock(b)
	if want := form(t, plainBlock(t, b)); e != api.OK || !bytes.Equal(raw, want) {
		t.Errorf("WriteBlock of what isn't Paid: %x, %d; must be %x", raw, e, want)
	}
	b.Paid, b.Withdrawals, b.Txs, b.Ommers = true, []api.Withdrawal{}, [][]byte{}, []api.Header{}
	raw, e = book.WriteBlock(b)
	if want := form(t, list(plainHeader(b.Header), list(), list(), list())); e != api.OK || !bytes.Equal(raw, want) {
		t.Errorf("WriteBlock of what is Paid nothing: %x, %d; must be %x", raw, e, want)
	}
	if again, e := book.ReadBlock(raw); e != api.OK || !same(again, b) {
		t.Errorf("ReadBlock of what is Paid nothing: %v, %d", again, e)
	}
}

// refusesBlock checks that WriteBlock refuses b.
func refusesBlock(t *testing.T, b api.Block, why string) {
	t.Helper()
	if raw, e := book.WriteBlock(b); e != api.ErrArg || len(raw) > 0 {
		t.Errorf("WriteBlock of %s: %.50x, %d; must be ErrArg", why, raw, e)
	}
}

// TestBlockWrongHeaders: P14.4: the header or an ommer of a number of parts that none has, at each place.
func TestBlockWrongHeaders(t *testing.T) {
	for _, fields := range []int{-1, 0, 14, 18, 19, 21} {
		b := some(t, true)
		b.Header.Fields = fields
		refusesBlock(t, b, "a wrong header")
		for i := range 2 {
			b = some(t, true)
			b.Ommers[i].Fields = fields
			refusesBlock(t, b, "a wrong ommer")
		}
	}
}

// TestBlockWrongTxs: P14.4: transactions by each first byte, at each place among others; lists must be forms of items.
func TestBlockWrongTxs(t *testing.T) {
	var m mixer = 43
	right := txForm(t, m.tx(0))
	write := func(i int, raw []byte, ok bool) {
		t.Helper()
		b := some(t, true)
		b.Txs[i] = raw
		if !ok {
			refusesBlock(t, b, "a wrong transaction")
		} else if got, e := book.WriteBlock(b); e != api.OK || !bytes.Equal(got, form(t, plainBlock(t, b))) {
			t.Errorf("WriteBlock with the transaction %.50x: %d", raw, e)
		}
	}
	for i := range 4 {
		write(i, nil, false)
		write(i, []byte{}, false)
		for first := range 192 {
			for _, behind := range [][]byte{nil, {0xc0}, right, m.bytes(40)} {
				write(i, append([]byte{byte(first)}, behind...), first >= 1 && first <= 3)
			}
		}
		write(i, []byte{0xc0}, true)
		write(i, right, true)
		write(i, append(bytes.Clone(right), 0), false)
		write(i, right[:len(right)-1], false)
		write(i, []byte{0xc1, 0x81}, false)
		write(i, []byte{0xc2, 0x81, 0x7f}, false)
		write(i, []byte{0xf8, 0x01, 0x01}, false)
		write(i, []byte{0xff}, false)
	}
}

// TestBlockDeep: P14.1, P14.4: a transaction of depth 1022 stands in a block, a deeper one does not.
func TestBlockDeep(t *testing.T) {
	b := some(t, true)
	x := list()
	for depth := 1; depth <= 1030; depth++ {
		var raw []byte
		if depth <= 1024 {
			raw = form(t, x)
		} else {
			raw = append([]byte{0xf9, byte(len(b.Txs[3]) >> 8), byte(len(b.Txs[3]))}, b.Txs[3]...)
		}
		x = list(x)
		b.Txs[3] = raw
		if depth < 1015 {
			continue
		}
		for _, other := range []api.Block{b, {Header: b.Header, Txs: [][]byte{raw}}, {Header: b.Header, Txs: [][]byte{raw, raw}, Paid: true}} {
			got, e := book.WriteBlock(other)
			if depth > 1022 {
				if e != api.ErrArg || len(got) > 0 {
					t.Errorf("WriteBlock with a transaction of depth %d: %.50x, %d", depth, got, e)
				}
				continue
			}
			if e != api.OK || !bytes.Equal(got, form(t, plainBlock(t, other))) {
				t.Errorf("WriteBlock with a transaction of depth %d: %.50x, %d", depth, got, e)
			}
			if again, e := book.ReadBlock(got); e != api.OK || !same(again, other) {
				t.Errorf("ReadBlock with a transaction of depth %d: %d", depth, e)
			}
		}
	}
}

// TestWithdrawal: P14.4: withdrawals, about the ends of their numbers.
func TestWithdrawal(t *testing.T) {
	var m mixer = 44
	for range 500 {
		w := m.withdrawal()
		want := form(t, plainRow(w, "Index, Validator, Address, Amount"))
		if got := book.WriteWithdrawal(w); !bytes.Equal(got, want) {
			t.Fatalf("WriteWithdrawal of %v: %x; must be %x", w, got, want)
		}
	}
}
