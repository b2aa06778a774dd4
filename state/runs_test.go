package state_test

import (
	"testing"

	"quarry/api"
	"quarry/state"
)

const (
	noAccounts = "56e81f171bcc55a6ff8345e692c0f86e5b48e01b996cadc001622fb5e363b421"
	noCode     = "c5d2460186f7233c927e7db2dcc703c0e500b653ca82273b7bfad8045d85a470"
)

// TestRunsNew: the chapter's runs of New and of Open.
func TestRunsNew(t *testing.T) {
	s, a := state.New(), address(1)
	is(t, "Root", s.Root(), api.Hash(hexed(noAccounts)))
	is(t, "Exists", s.Exists(a), false)
	is(t, "Empty", s.Empty(a), true)
	is(t, "CodeHash", s.CodeHash(a), api.Hash{})
	is(t, "Alloc", s.Alloc(), []api.Account{})
	s.Open(a)
	is(t, "Exists behind Open", s.Exists(a), true)
	is(t, "Empty behind Open", s.Empty(a), true)
	is(t, "CodeHash behind Open", s.CodeHash(a), api.Hash(hexed(noCode)))
	is(t, "Alloc behind Open", s.Alloc(), []api.Account{{Address: a}})
}

// TestRunsOriginal: the chapter's run of Slot and Original.
func TestRunsOriginal(t *testing.T) {
	s, a, k := state.New(), address(1), api.Word{1}
	s.SetSlot(a, k, api.Word{5})
	is(t, "Slot", s.Slot(a, k), api.Word{5})
	is(t, "Original", s.Original(a, k), api.Word{})
	s.Begin()
	is(t, "Original behind Begin", s.Original(a, k), api.Word{5})
	s.SetSlot(a, k, api.Word{})
	is(t, "Original behind SetSlot", s.Original(a, k), api.Word{5})
	s.Make(a)
	is(t, "Original behind Make", s.Original(a, k), api.Word{})
}

// TestRunsBack: the chapter's runs of Mark and Back.
func TestRunsBack(t *testing.T) {
	s, a := state.New(), address(1)
	mark := s.Mark()
	s.SetBalance(a, api.Word{7})
	is(t, "Heat", s.Heat(a), false)
	s.AddRefund(3)
	s.AddLog(api.Log{Address: a})
	is(t, "Back", s.Back(mark), true)
	is(t, "Balance", s.Balance(a), api.Word{})
	is(t, "Refund", s.Refund(), uint64(0))
	is(t, "Logs", s.Logs(), []api.Log{})
	is(t, "Heat behind Back", s.Heat(a), false)
	is(t, "Back once more", s.Back(mark), true)
	is(t, "Back of none", s.Back(mark+9), false)
	mark = s.Mark()
	s.Begin()
	is(t, "Back of a mark ahead of Begin", s.Back(mark), false)
}

// TestRunsEnd: the chapter's runs of End.
func TestRunsEnd(t *testing.T) {
	a := address(1)
	for _, clear := range []bool{false, true} {
		s := load(t, []api.Account{{Address: a}})
		s.Touch(a)
		s.End(clear)
		is(t, "Exists of a touched one that is empty", s.Exists(a), !clear)
	}
	s := load(t, []api.Account{{Address: a, Balance: api.Word{7}}})
	s.Destroy(a)
	is(t, "Exists of one that is to be destroyed", s.Exists(a), true)
	is(t, "its Balance", s.Balance(a), api.Word{7})
	s.End(false)
	is(t, "Exists of one that was destroyed", s.Exists(a), false)
}

// TestRunsRefund: the chapter's runs of the refund.
func TestRunsRefund(t *testing.T) {
	s := state.New()
	s.AddRefund(3)
	s.SubRefund(5)
	is(t, "Refund of 3 less 5", s.Refund(), uint64(0))
	s.AddRefund(most)
	is(t, "Refund of the greatest", s.Refund(), uint64(most))
	s.AddRefund(most)
	is(t, "Refund of twice the greatest", s.Refund(), uint64(most))
	s.SubRefund(1)
	is(t, "Refund of one less", s.Refund(), uint64(most-1))
	s.AddRefund(2)
	is(t, "Refund of two more", s.Refund(), uint64(most))
	s.SubRefund(most)
	is(t, "Refund of none", s.Refund(), uint64(0))
}

// TestExamples: the chapter's examples.
func TestExamples(t *testing.T) {
	s, a, b := state.New(), address(1), address(2)
	s.Touch(a)
	is(t, "Exists of a touched one", s.Exists(a), false)
	code := []byte{1, 2, 3}
	s.SetCode(a, code)
	s.SetCode(b, code)
	s.Code(a)[0] = 9
	s.SetCode(b, []byte{4})
	is(t, "Code of one of two", s.Code(a), code)
}
