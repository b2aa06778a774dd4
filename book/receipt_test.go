package book_test

import (
	"bytes"
	"math/big"
	"reflect"
	"testing"

	"quarry/api"
	"quarry/book"
	"quarry/hash"
)

// plainBloom is the filter of l, as one number of 2048 bits: the bit n of the chapter is that of value 2^n.
func plainBloom(l []api.Log) (filter [256]byte) {
	all := new(big.Int)
	set := func(b []byte) {
		k := hash.Keccak(b)
		for i := 0; i < 6; i += 2 {
			n := new(big.Int).SetBytes(k[i : i+2])
			all.SetBit(all, int(n.Int64())%2048, 1)
		}
	}
	for _, log := range l {
		set(log.Address[:])
		for i := range log.Topics {
			set(log.Topics[i][:])
		}
	}
	all.FillBytes(filter[:])
	return filter
}

// TestBloom: P14.3: the filters of logs of addresses and topics, each alone and many.
func TestBloom(t *testing.T) {
	var m mixer = 50
	check := func(l []api.Log) {
		t.Helper()
		if got, want := book.Bloom(l), plainBloom(l); got != want {
			t.Fatalf("Bloom of %v: %x; must be %x", l, got, want)
		}
	}
	for range 3000 {
		check([]api.Log{{Address: m.address(), Data: m.blob()}})
		check(m.logs())
	}
	var many []api.Log
	for range 300 {
		many = append(many, m.logs()...)
		check(many)
	}
	if book.Bloom(nil) != [256]byte{} || book.Bloom([]api.Log{}) != [256]byte{} {
		t.Error("Bloom of no logs has bits")
	}
}

// plainReceipt is the list of r.
func plainReceipt(r api.Receipt) api.Item {
	first := text(r.Root...)
	if len(r.Root) == 0 && r.OK {
		first = text(1)
	}
	logs := list()
	for _, l := range r.Logs {
		logs.Items = append(logs.Items, plainRow(l, "Address, Topics, Data"))
	}
	return list(first, plainPart(reflect.ValueOf(r.Gas)), text(r.Bloom[:]...), logs)
}

// receipt is a receipt with a root, or without one.
func (m *mixer) receipt() api.Receipt {
	r := api.Receipt{Kind: m.below(4), OK: m.odds(2), Gas: m.count(), Logs: m.logs()}
	copy(r.Bloom[m.below(2):], m.bytes(256))
	if m.odds(2) {
		h := m.hash()
		r.Root = h[:]
	}
	return r
}

// TestReceipt: P14.4: receipts of each kind, with a root, of which it isn't asked whether it went well, and without one; the filter is as it is told.
func TestReceipt(t *testing.T) {
	var m mixer = 51
	for range 2000 {
		r := m.receipt()
		want := enveloped(t, r.Kind, plainReceipt(r))
		if got, e := book.WriteReceipt(r); e != api.OK || !bytes.Equal(got, want) {
			t.Fatalf("WriteReceipt of %v: %x, %d; must be %x", r, got, e, want)
		}
	}
	r := api.Receipt{Root: []byte{}, OK: true, Logs: []api.Log{}}
	if got, e := book.WriteReceipt(r); e != api.OK || !bytes.Equal(got, form(t, plainReceipt(r))) {
		t.Errorf("WriteReceipt of %v: %x, %d", r, got, e)
	}
}

// TestReceiptWrong: P14.4: roots of all other lengths, and kinds that there are not.
func TestReceiptWrong(t *testing.T) {
	var m mixer = 52
	for n := range 100 {
		r := m.receipt()
		r.Root = make([]byte, n)
		got, e := book.WriteReceipt(r)
		if ok := n == 0 || n == 32; ok != (e == api.OK) || !ok && (e != api.ErrArg || len(got) > 0) {
			t.Errorf("WriteReceipt with a root of %d bytes: %x, %d", n, got, e)
		}
	}
	for _, kind := range []int{-1 << 63, -1, 4, 5, 192, 256, 1<<63 - 1} {
		r := m.receipt()
		r.Kind = kind
		if got, e := book.WriteReceipt(r); e != api.ErrArg || len(got) > 0 {
			t.Errorf("WriteReceipt of kind %d: %x, %d", kind, got, e)
		}
	}
}
