package state_test

import (
	"reflect"
	"slices"
	"testing"

	"quarry/api"
	"quarry/state"
)

// answers are what all calls that P15.1 and P15.2 list tell, of some accounts and keys.
type answers struct {
	Alloc    []api.Account
	Refund   uint64
	Logs     []api.Log
	Accounts []told
}

// told is what a world tells of one account.
type told struct {
	Address                                      api.Address
	Exists, Empty, Stored, Warm, Destroyed, Made bool
	Nonce                                        uint64
	Balance                                      api.Word
	Code                                         []byte
	CodeHash                                     api.Hash
	Slots, Originals, Transients                 []api.Word
}

// ask is what a world answers.
func ask(w worldly) answers {
	all := answers{Alloc: w.Alloc(), Refund: w.Refund(), Logs: w.Logs()}
	for _, a := range append(addresses(), api.Address{19: 77}) {
		x := told{a, w.Exists(a), w.Empty(a), w.Stored(a), w.Warm(a), w.Destroyed(a), w.Made(a), w.Nonce(a), w.Balance(a), w.Code(a), w.CodeHash(a), nil, nil, nil}
		for _, k := range append(keys(), api.Word{77}) {
			x.Slots = append(x.Slots, w.Slot(a, k))
			x.Originals = append(x.Originals, w.Original(a, k))
			x.Transients = append(x.Transients, w.Transient(a, k))
		}
		all.Accounts = append(all.Accounts, x)
	}
	return all
}

// addresses and keys are those that worlds are written to at; they differ in one end alone.
func addresses() []api.Address { return []api.Address{{19: 1}, {19: 2}, {0: 1}, {}} }

func keys() []api.Word { return []api.Word{{}, {1}, {3: 1}} }

// equal checks that two worlds answer the same, the one behind what is said.
func equal(t *testing.T, got, want worldly, behind ...string) bool {
	t.Helper()
	one, other := ask(got), ask(want)
	if !same(one, other) {
		t.Errorf("behind %v a world answers\n%v, must be\n%v", behind, differing(one, other), differing(other, one))
		return false
	}
	return true
}

// differing are the parts of x that y has not so.
func differing(x, y answers) []any {
	var all []any
	a, b := reflect.ValueOf(x), reflect.ValueOf(y)
	for i := range a.NumField() {
		if !alike(a.Field(i), b.Field(i)) {
			all = append(all, a.Type().Field(i).Name, a.Field(i).Interface())
		}
	}
	return all
}

// A deed is a call that writes, with its arguments; what it answers is put into a number.
type deed struct {
	name string
	do   func(w worldly) int
}

func (d deed) String() string { return d.name }

// count is 1, if it holds, else 0.
func count(holds bool) int {
	if holds {
		return 1
	}
	return 0
}

// deedsAt are calls of each kind that P15.3 lists of an account and a key.
func deedsAt(a api.Address, k api.Word, n uint64, v api.Word, code []byte) []deed {
	quiet := func(do func(w worldly)) func(w worldly) int { return func(w worldly) int { do(w); return 0 } }
	return []deed{
		{"Open", quiet(func(w worldly) { w.Open(a) })},
		{"Make", quiet(func(w worldly) { w.Make(a) })},
		{"SetNonce", quiet(func(w worldly) { w.SetNonce(a, n) })},
		{"SetBalance", quiet(func(w worldly) { w.SetBalance(a, v) })},
		{"SetCode", quiet(func(w worldly) { w.SetCode(a, code) })},
		{"SetSlot", quiet(func(w worldly) { w.SetSlot(a, k, v) })},
		{"SetSlot to 0", quiet(func(w worldly) { w.SetSlot(a, k, api.Word{}) })},
		{"SetTransient", quiet(func(w worldly) { w.SetTransient(a, k, v) })},
		{"SetTransient to 0", quiet(func(w worldly) { w.SetTransient(a, k, api.Word{}) })},
		{"Touch", quiet(func(w worldly) { w.Touch(a) })},
		{"Heat", func(w worldly) int { return count(w.Heat(a)) }},
		{"HeatSlot", func(w worldly) int { return count(w.HeatSlot(a, k)) }},
		{"AddRefund", quiet(func(w worldly) { w.AddRefund(n) })},
		{"SubRefund", quiet(func(w worldly) { w.SubRefund(n) })},
		{"AddLog", quiet(func(w worldly) { w.AddLog(api.Log{Address: a, Topics: []api.Hash{{1}, {byte(n)}}, Data: code}) })},
		{"Destroy", quiet(func(w worldly) { w.Destroy(a) })},
	}
}

// deed is some call of some account and key.
func (m *mixer) deed() deed {
	a, k := addresses()[m.below(len(addresses()))], keys()[m.below(len(keys()))]
	n := []uint64{0, 0, 1, 5, most}[m.below(5)]
	v := []api.Word{{}, {}, {1}, {0, 0, 0, 7}, top()}[m.below(5)]
	code := [][]byte{nil, {}, {0}, {1, 2, 3}}[m.below(4)]
	all := deedsAt(a, k, n, v, code)
	return all[m.below(len(all))]
}

// start is accounts at some of the addresses, with some of the keys.
func (m *mixer) start() []api.Account {
	var l []api.Account
	for _, a := range addresses() {
		x := api.Account{Address: a, Nonce: uint64(m.below(2)), Balance: api.Word{uint64(m.below(2))}, Code: m.bytes(m.below(2))}
		for _, k := range keys() {
			if m.below(2) == 0 {
				x.Storage = append(x.Storage, api.Slot{Key: k, Value: api.Word{uint64(m.below(3))}})
			}
		}
		if m.below(3) > 0 {
			l = append(l, x)
		}
	}
	return l
}

// turn is a call that begins, ends, marks or comes back: in a transaction that some told marks have been laid in.
func (m *mixer) turn(told int) deed {
	switch at := m.below(told+3) - 1; m.below(16) {
	case 0:
		return deed{"Begin", func(w worldly) int { w.Begin(); return 0 }}
	case 1:
		return deed{"End(false)", func(w worldly) int { w.End(false); return 0 }}
	case 2:
		return deed{"End(true)", func(w worldly) int { w.End(true); return 0 }}
	case 3, 4, 5, 6:
		return deed{"Back", func(w worldly) int { return count(w.Back(at)) }}
	}
	return deed{"Mark", func(w worldly) int { return w.Mark() }}
}

// TestWorld: P15.1 to P15.7: calls without any order; behind each of them all answers are those of the plain world, to the root.
func TestWorld(t *testing.T) {
	var m mixer = 1
	for range 150 {
		l := m.start()
		got, want := load(t, l), plainOf(l)
		equal(t, got, want, "Load")
		var done []string
		for range 120 {
			d := m.deed()
			if m.below(4) == 0 {
				d = m.turn(len(want.marks))
			}
			done = append(done, d.name)
			if x, y := d.do(got), d.do(want); x != y {
				t.Fatalf("behind %v the last one answers %d, must be %d", done, x, y)
			}
			if !equal(t, got, want, done...) {
				return
			}
			if m.below(10) == 0 && got.Root() != want.Root() {
				t.Fatalf("behind %v Root is %x, must be %x", done, got.Root(), want.Root())
			}
		}
	}
}

// TestUndone: P15.4, P15.7: behind each way that an account may stand in, each two calls between Mark and Back are not seen, nor is what warmth they laid, whom they touched and what End makes of it.
func TestUndone(t *testing.T) {
	a, k := addresses()[0], keys()[1]
	ways := deedsAt(a, k, 3, api.Word{9}, []byte{1})
	full := []api.Account{{Address: a, Nonce: 1, Balance: api.Word{2}, Code: []byte{3}, Storage: []api.Slot{{Key: k, Value: api.Word{4}}}}}
	others := deedsAt(a, k, 8, api.Word{6}, []byte{7, 7})
	for _, l := range [][]api.Account{nil, {{Address: a}}, full} {
		for _, way := range ways {
			for _, first := range others {
				for _, second := range others {
					got, want := load(t, l), plainOf(l)
					way.do(got)
					way.do(want)
					mark := got.Mark()
					first.do(got)
					second.do(got)
					if mark != 0 || !got.Back(mark) || !equal(t, got, want, way.name, first.name, second.name) {
						t.Fatalf("Mark is %d, or Back undoes not all behind %v: %v, %v", mark, way, first, second)
					}
					if x, y := got.Heat(a), want.Heat(a); x != y {
						t.Fatalf("behind %v, %v, %v Heat is %v", way, first, second, x)
					}
					if x, y := got.HeatSlot(a, k), want.HeatSlot(a, k); x != y {
						t.Fatalf("behind %v, %v, %v HeatSlot is %v", way, first, second, x)
					}
					got.End(true)
					want.End(true)
					equal(t, got, want, way.name, first.name, second.name, "End")
				}
			}
		}
	}
}

// TestEachCall: P15.2, P15.3: each call over each other one, on each way that an account may stand in, with other accounts and keys beside.
func TestEachCall(t *testing.T) {
	a, b := addresses()[0], addresses()[1]
	k, l := keys()[1], keys()[2]
	beside := api.Account{Address: b, Nonce: 7, Balance: top(), Code: []byte{8}, Storage: []api.Slot{{Key: k, Value: top()}, {Key: l, Value: api.Word{5}}}}
	full := beside
	full.Address = a
	deeds := slices.Concat(deedsAt(a, k, 3, api.Word{9}, []byte{1}), deedsAt(a, l, 0, api.Word{}, nil), deedsAt(b, k, most, top(), []byte{2}))
	for _, l := range [][]api.Account{nil, {beside}, {beside, full}, {{Address: a}, {Address: b}}} {
		for _, first := range deeds {
			for _, second := range deeds {
				for _, clear := range []bool{false, true} {
					got, want := load(t, l), plainOf(l)
					for _, d := range []deed{first, second, first} {
						if x, y := d.do(got), d.do(want); x != y {
							t.Fatalf("%v, %v: %v answers %d, must be %d", first, second, d, x, y)
						}
						equal(t, got, want, first.name, second.name)
					}
					got.End(clear)
					want.End(clear)
					equal(t, got, want, first.name, second.name, "End")
				}
			}
		}
	}
}

// TestApart: R4: two worlds know nothing of each other, and asking changes nothing.
func TestApart(t *testing.T) {
	var m mixer = 2
	l := m.start()
	still, other, want := load(t, l), load(t, l), plainOf(l)
	for range 200 {
		m.deed().do(other)
		m.turn(5).do(other)
		equal(t, still, want, "what was done with another world")
	}
	one, two := state.New(), state.New()
	one.Make(addresses()[0])
	equal(t, two, plainOf(nil), "what was done with another new world")
}
