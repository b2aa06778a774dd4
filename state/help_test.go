package state_test

import (
	"encoding/hex"
	"reflect"
	"testing"

	"quarry/api"
	"quarry/state"
)

// worldly is what the chapter lists of a State: the plain one has it too.
type worldly interface {
	Alloc() []api.Account
	Root() api.Hash
	Exists(a api.Address) bool
	Empty(a api.Address) bool
	Nonce(a api.Address) uint64
	Balance(a api.Address) api.Word
	Code(a api.Address) []byte
	CodeHash(a api.Address) api.Hash
	Slot(a api.Address, k api.Word) api.Word
	Stored(a api.Address) bool
	Original(a api.Address, k api.Word) api.Word
	Transient(a api.Address, k api.Word) api.Word
	Open(a api.Address)
	Make(a api.Address)
	SetNonce(a api.Address, n uint64)
	SetBalance(a api.Address, w api.Word)
	SetCode(a api.Address, code []byte)
	SetSlot(a api.Address, k, v api.Word)
	SetTransient(a api.Address, k, v api.Word)
	Touch(a api.Address)
	Heat(a api.Address) bool
	HeatSlot(a api.Address, k api.Word) bool
	Warm(a api.Address) bool
	AddRefund(n uint64)
	SubRefund(n uint64)
	Refund() uint64
	AddLog(l api.Log)
	Logs() []api.Log
	Destroy(a api.Address)
	Destroyed(a api.Address) bool
	Made(a api.Address) bool
	Mark() int
	Back(mark int) bool
	Begin()
	End(clear bool)
}

// The calls' signatures, as the chapter writes them.
var (
	_ func() *state.State                           = state.New
	_ func([]api.Account) (*state.State, api.Errno) = state.Load
	_ worldly                                       = (*state.State)(nil)
	_ worldly                                       = (*plain)(nil)
)

const most = 1<<64 - 1

// top is the greatest word.
func top() api.Word { return api.Word{most, most, most, most} }

// address is 20 bytes of which the last one is n.
func address(n byte) api.Address { return api.Address{0: 0xaa, 19: n} }

// hexed is the bytes of some hex digits.
func hexed(digits string) []byte {
	b, err := hex.DecodeString(digits)
	if err != nil {
		panic(digits)
	}
	return b
}

// load is a State with these accounts.
func load(t *testing.T, l []api.Account) *state.State {
	t.Helper()
	s, e := state.Load(l)
	if s == nil || e != api.OK {
		t.Fatalf("Load of %v refuses with %d", l, e)
	}
	return s
}

// same says whether two values are one, nil and empty lists being the same.
func same(a, b any) bool { return alike(reflect.ValueOf(a), reflect.ValueOf(b)) }

func alike(a, b reflect.Value) bool {
	switch a.Kind() {
	case reflect.Slice:
		if a.Len() != b.Len() {
			return false
		}
		for i := range a.Len() {
			if !alike(a.Index(i), b.Index(i)) {
				return false
			}
		}
		return true
	case reflect.Struct:
		for i := range a.NumField() {
			if !alike(a.Field(i), b.Field(i)) {
				return false
			}
		}
		return true
	default:
		return a.Interface() == b.Interface()
	}
}

// is checks that a call tells what it must.
func is(t *testing.T, what string, got, want any) {
	t.Helper()
	if !same(got, want) {
		t.Errorf("%s: %v, must be %v", what, got, want)
	}
}

// mixer tells numbers without any order, the same ones in each run.
type mixer uint64

func (m *mixer) next() uint64 {
	*m += 0x9e3779b97f4a7c15
	z := uint64(*m)
	z = (z ^ z>>30) * 0xbf58476d1ce4e5b9
	z = (z ^ z>>27) * 0x94d049bb133111eb
	return z ^ z>>31
}

// below is a number below n.
func (m *mixer) below(n int) int { return int(m.next() % uint64(n)) }

// bytes is so many bytes.
func (m *mixer) bytes(n int) []byte {
	b := make([]byte, n)
	for i := range b {
		b[i] = byte(m.next())
	}
	return b
}

// word is a word of few bits, or of many.
func (m *mixer) word() api.Word {
	all := api.Word{m.next(), m.next(), m.next(), m.next()}
	for i := range all {
		if m.below(3) > 0 {
			all[i] = uint64(m.below(3))
		}
	}
	return all
}

// accounts are up to n accounts, in no order, whose places neither have one.
func (m *mixer) accounts(n int) []api.Account {
	var l []api.Account
	met := map[api.Address]bool{}
	for range m.below(n + 1) {
		x := api.Account{Address: api.Address(m.bytes(20)), Nonce: m.next() >> m.below(64), Balance: m.word(), Code: m.bytes(m.below(3) * m.below(50))}
		if m.below(2) == 0 {
			x.Address = address(byte(m.below(256)))
		}
		keys := map[api.Word]bool{}
		for range m.below(4) * m.below(10) {
			k := m.word()
			if !keys[k] {
				x.Storage = append(x.Storage, api.Slot{Key: k, Value: m.word()})
			}
			keys[k] = true
		}
		if !met[x.Address] {
			l = append(l, x)
		}
		met[x.Address] = true
	}
	return l
}
