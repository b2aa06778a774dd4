package state_test

import (
	"bytes"
	"slices"
	"testing"

	"quarry/api"
	"quarry/state"
)

// twice checks that Load refuses, and tells nothing beside.
func twice(t *testing.T, what string, l ...api.Account) {
	t.Helper()
	if s, e := state.Load(l); s != nil || e != api.ErrTwice {
		t.Errorf("Load of %s: %v, %d; must be ErrTwice", what, s, e)
	}
}

// slots are places of these keys, with the values 1, 2, 3 ..
func slots(keys ...api.Word) []api.Slot {
	var l []api.Slot
	for i, k := range keys {
		l = append(l, api.Slot{Key: k, Value: api.Word{uint64(i) + 1}})
	}
	return l
}

// TestLoadTwice: P15.1: what stands twice, first, last and apart, the same and not the same, with values of 0 too.
func TestLoadTwice(t *testing.T) {
	one, two, three := api.Account{Address: address(1)}, api.Account{Address: address(2), Balance: api.Word{5}}, api.Account{Address: address(3)}
	other := api.Account{Address: address(1), Nonce: 1, Storage: slots(api.Word{1})}
	twice(t, "an account twice", one, one)
	twice(t, "an account twice, first and last", one, two, three, one)
	twice(t, "two accounts of one address", one, two, other)
	twice(t, "two accounts of one address at the end", two, three, other, one)
	for _, l := range [][]api.Slot{
		slots(api.Word{1}, api.Word{1}),
		slots(api.Word{}, api.Word{2}, api.Word{}),
		slots(api.Word{3: 1}, api.Word{2: 1}, api.Word{1: 1}, api.Word{2: 1}),
		{{Key: api.Word{1}}, {Key: api.Word{1}}},
		{{Key: api.Word{1}}, {Key: api.Word{1}, Value: api.Word{5}}},
		{{Key: api.Word{1}, Value: api.Word{5}}, {Key: api.Word{2}}, {Key: api.Word{1}}},
	} {
		three.Storage = l
		twice(t, "a key twice", three)
		twice(t, "a key twice in the last account", one, two, three)
		twice(t, "a key twice in the first account", three, one, two)
		twice(t, "a key twice and an address twice", one, one, three)
	}
	one.Storage, two.Storage = slots(api.Word{1}, api.Word{2}), slots(api.Word{2}, api.Word{1})
	load(t, []api.Account{one, two}) // keys of two accounts may be the same
}

// TestLoad: P15.1: accounts in any order, with values of 0, are told by Alloc in theirs, and what they are is told of each; nothing of a transaction is there.
func TestLoad(t *testing.T) {
	var m mixer = 10
	for range 200 {
		l := m.accounts(20)
		got, want := load(t, l), plainOf(l)
		is(t, "Alloc", got.Alloc(), want.Alloc())
		is(t, "Root", got.Root(), want.Root())
		is(t, "Refund", got.Refund(), uint64(0))
		is(t, "Logs", got.Logs(), []api.Log{})
		is(t, "Back", got.Back(0), false)
		for _, x := range l {
			a := x.Address
			is(t, "Exists", got.Exists(a), true)
			is(t, "Empty", got.Empty(a), want.Empty(a))
			is(t, "Nonce", got.Nonce(a), x.Nonce)
			is(t, "Balance", got.Balance(a), x.Balance)
			is(t, "Code", got.Code(a), x.Code)
			is(t, "CodeHash", got.CodeHash(a), want.CodeHash(a))
			is(t, "Stored", got.Stored(a), want.Stored(a))
			is(t, "what holds for a transaction", []bool{got.Made(a), got.Warm(a), got.Destroyed(a)}, []bool{false, false, false})
			for _, y := range x.Storage {
				is(t, "Slot", got.Slot(a, y.Key), y.Value)
				is(t, "Original", got.Original(a, y.Key), y.Value)
				is(t, "Transient", got.Transient(a, y.Key), api.Word{})
			}
		}
		is(t, "Mark", got.Mark(), 0)
		got.End(true) // nobody was touched
		is(t, "Alloc behind End", got.Alloc(), want.Alloc())
	}
}

// TestLoadEmpty: P15.1: an account that has nothing, and one that has places of 0 alone, exist; nil and no accounts are one.
func TestLoadEmpty(t *testing.T) {
	a, b := address(1), address(2)
	s := load(t, []api.Account{{Address: b, Storage: []api.Slot{{Key: api.Word{1}}}}, {Address: a, Code: []byte{}}})
	is(t, "Alloc", s.Alloc(), []api.Account{{Address: a}, {Address: b}})
	is(t, "Stored", s.Stored(b), false)
	for _, l := range [][]api.Account{nil, {}} {
		s = load(t, l)
		is(t, "Alloc of none", s.Alloc(), []api.Account{})
		is(t, "Root of none", s.Root(), api.Hash(hexed(noAccounts)))
	}
}

// TestAllocOrder: P15.1: addresses rise as rows of bytes, keys as numbers, by each byte and limb.
func TestAllocOrder(t *testing.T) {
	var m mixer = 11
	var l []api.Account
	for i := range 20 {
		for _, v := range []byte{1, 2, 0x7f, 0x80, 0xff} {
			x := api.Account{}
			x.Address[i] = v
			l = append(l, x)
		}
	}
	x := api.Account{}
	for i := range 256 {
		k := api.Word{}
		k[i/64] = 1 << (i % 64)
		x.Storage = append(x.Storage, api.Slot{Key: k, Value: k})
	}
	l = append(l, x)
	for range 10 {
		for i := range l {
			j := m.below(i + 1)
			l[i], l[j] = l[j], l[i]
		}
		got := load(t, l).Alloc()
		if !slices.IsSortedFunc(got, func(x, y api.Account) int { return bytes.Compare(x.Address[:], y.Address[:]) }) || len(got) != len(l) {
			t.Error("accounts don't rise")
		}
		if !slices.IsSortedFunc(got[0].Storage, func(x, y api.Slot) int { return bigOf(x.Key).Cmp(bigOf(y.Key)) }) || len(got[0].Storage) != 256 {
			t.Error("keys don't rise")
		}
	}
}
