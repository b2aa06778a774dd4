package state_test

import (
	"math"
	"testing"

	"quarry/api"
	"quarry/state"
)

// TestMarkNumbers: P15.4: marks that were undone count, and can't be come back to; a mark can be, again and again.
func TestMarkNumbers(t *testing.T) {
	s := state.New()
	for want := range 5 {
		is(t, "Mark", s.Mark(), want)
	}
	is(t, "Back(2)", s.Back(2), true)
	is(t, "Mark behind Back(2)", s.Mark(), 5)
	is(t, "Mark behind that", s.Mark(), 6)
	for _, mark := range []int{6, 5, 4, 3, 2, 1, 0} {
		is(t, "Back", s.Back(mark), mark != 3 && mark != 4)
		is(t, "Back once more", s.Back(mark), mark != 3 && mark != 4)
	}
	is(t, "Mark behind Back(0)", s.Mark(), 7)
	is(t, "Back(7)", s.Back(7), true)
	is(t, "Back(1)", s.Back(1), false)
	is(t, "Back(0)", s.Back(0), true)
	is(t, "Back(7) behind Back(0)", s.Back(7), false)
}

// TestMarkNone: P15.4: numbers that no mark told, ahead of any mark and behind some; nothing happens then.
func TestMarkNone(t *testing.T) {
	s, a := state.New(), address(1)
	for range 3 {
		for _, mark := range []int{-1, math.MinInt, math.MaxInt, 3, 1 << 32, -1 << 32} {
			is(t, "Back of none", s.Back(mark), false)
			is(t, "Balance", s.Balance(a), api.Word{uint64(s.Nonce(a))})
		}
		s.SetNonce(a, uint64(s.Mark())+1)
		s.SetBalance(a, api.Word{s.Nonce(a)})
	}
}

// TestMarkEnds: P15.4, P15.5: Begin and End undo all marks, and count from 0 again; what stands is what stood.
func TestMarkEnds(t *testing.T) {
	a := address(1)
	for _, ends := range []func(s *state.State){
		(*state.State).Begin,
		func(s *state.State) { s.End(false) },
		func(s *state.State) { s.End(true) },
	} {
		s := state.New()
		s.Mark()
		s.SetBalance(a, api.Word{5})
		s.Mark()
		ends(s)
		is(t, "Back(0)", s.Back(0), false)
		is(t, "Back(1)", s.Back(1), false)
		is(t, "Balance", s.Balance(a), api.Word{5})
		is(t, "Mark", s.Mark(), 0)
		s.SetBalance(a, api.Word{6})
		is(t, "Back(0) behind Mark", s.Back(0), true)
		is(t, "Back(1) behind Mark", s.Back(1), false)
		is(t, "Balance behind Back", s.Balance(a), api.Word{5})
	}
}

// TestMarkDeep: P15.4: many marks in one another, each come back to from the last one on, or all at once; what stands is what stood at each.
func TestMarkDeep(t *testing.T) {
	const deep = 200000
	s, a, k := state.New(), address(1), api.Word{1}
	lay := func() {
		for i := range deep {
			is(t, "Mark", s.Mark()%deep, i)
			s.SetSlot(a, k, api.Word{uint64(i) + 1})
			s.SetTransient(a, api.Word{uint64(i)}, k)
		}
	}
	lay()
	for i := deep - 1; i > 0; i-- {
		if !s.Back(i) || s.Slot(a, k) != (api.Word{uint64(i)}) || s.Transient(a, api.Word{uint64(i)}) != (api.Word{}) || s.Transient(a, api.Word{uint64(i) - 1}) != k {
			t.Fatalf("Back(%d) leaves %v", i, s.Slot(a, k))
		}
	}
	is(t, "Back(0)", s.Back(0), true)
	is(t, "Exists", s.Exists(a), false)
	lay()
	is(t, "Back(0) of all", s.Back(0), true)
	is(t, "Exists behind Back(0) of all", s.Exists(a), false)
	is(t, "Transient", s.Transient(a, api.Word{deep / 2}), api.Word{})
}

// TestMarkStorage: P15.4: a storage that Make takes away comes back whole, with Original of what was written to ahead of Make, behind it, and never.
func TestMarkStorage(t *testing.T) {
	a := address(1)
	keys := []api.Word{{1}, {2}, {3}, {4}}
	l := []api.Account{{Address: a, Nonce: 3, Balance: api.Word{4}, Code: []byte{5}, Storage: slots(keys[:3]...)}}
	s := load(t, l)
	s.SetSlot(a, keys[0], api.Word{9})
	mark := s.Mark()
	s.Make(a)
	is(t, "Alloc behind Make", s.Alloc(), []api.Account{{Address: a, Balance: api.Word{4}}})
	for _, k := range keys {
		s.SetSlot(a, k, api.Word{77})
		is(t, "Original behind Make", s.Original(a, k), api.Word{})
	}
	s.Make(a)
	s.SetSlot(a, keys[1], api.Word{78})
	is(t, "Back", s.Back(mark), true)
	is(t, "Made", s.Made(a), false)
	for i, k := range keys {
		is(t, "Original", s.Original(a, k), []api.Word{{1}, {2}, {3}, {}}[i])
		is(t, "Slot", s.Slot(a, k), []api.Word{{9}, {2}, {3}, {}}[i])
	}
	s.SetSlot(a, keys[1], api.Word{10})
	is(t, "Original behind SetSlot", s.Original(a, keys[1]), api.Word{2})
	s.Back(mark)
	s.SetSlot(a, keys[0], api.Word{1})
	is(t, "Alloc", s.Alloc(), l)
}

// TestTransactions: P15.5: behind Begin and End nothing of a transaction is there any more, whatever it was; Original tells what stands.
func TestTransactions(t *testing.T) {
	a, k := address(1), api.Word{1}
	for _, begins := range []func(s *state.State){
		(*state.State).Begin,
		func(s *state.State) { s.Back(0); s.End(false) }, // Destroy is undone
	} {
		s := load(t, []api.Account{{Address: a}})
		all := deedsAt(a, k, 3, api.Word{1}, []byte{1})
		destroy := len(all) - 1
		for _, d := range all[:destroy] {
			d.do(s)
		}
		s.SetSlot(a, k, api.Word{6})
		s.Mark()
		all[destroy].do(s)
		begins(s)
		equal(t, s, load(t, s.Alloc()), "what begins a transaction")
		is(t, "Original", s.Original(a, k), api.Word{6})
		is(t, "Heat", s.Heat(a), false)
		is(t, "HeatSlot", s.HeatSlot(a, k), false)
		s.End(true)
		is(t, "Exists", s.Exists(a), true)
	}
}

// TestTouchedAhead: P15.5: who was touched, or to be destroyed, ahead of Begin is it no more.
func TestTouchedAhead(t *testing.T) {
	a, b := address(1), address(2)
	s := load(t, []api.Account{{Address: a}, {Address: b, Nonce: 1}})
	s.Touch(a)
	s.Destroy(b)
	s.Begin()
	s.End(true)
	is(t, "Alloc", s.Alloc(), []api.Account{{Address: a}, {Address: b, Nonce: 1}})
}

// TestEndOrder: P15.5: who is to be destroyed goes whatever it has; who was touched goes, if it is empty when the transaction ends, whatever it was; nobody else goes.
func TestEndOrder(t *testing.T) {
	gone, left, given, spent, still, unknown := address(1), address(2), address(3), address(4), address(5), address(6)
	l := []api.Account{
		{Address: gone, Balance: top(), Code: []byte{1}, Storage: slots(api.Word{1})},
		{Address: left}, {Address: given}, {Address: spent, Balance: api.Word{1}}, {Address: still},
	}
	for _, clear := range []bool{false, true} {
		s := load(t, l)
		s.Destroy(gone)
		s.Destroy(unknown)
		is(t, "Destroyed of nobody", s.Destroyed(unknown), true)
		s.Touch(left)
		s.SetBalance(given, api.Word{1})
		s.SetBalance(spent, api.Word{})
		s.SetSlot(spent, api.Word{1}, api.Word{1}) // a place alone makes an account no less empty
		s.Heat(still)
		s.HeatSlot(still, api.Word{1})
		s.SetTransient(still, api.Word{1}, api.Word{1})
		s.AddLog(api.Log{Address: still})
		is(t, "Destroyed", s.Destroyed(gone), true)
		s.End(clear)
		is(t, "who is there", []bool{s.Exists(gone), s.Exists(left), s.Exists(given), s.Exists(spent), s.Exists(still), s.Exists(unknown)}, []bool{false, !clear, true, !clear, true, false})
		is(t, "Destroyed behind End", s.Destroyed(gone), false)
		s.Open(gone)
		is(t, "Slot of one that was destroyed", s.Slot(gone, api.Word{1}), api.Word{})
	}
}
