package state

import "quarry/api"

// A set is some keys.
type set[K comparable] map[K]struct{}

// has: is the key one of them?
func (s set[K]) has(k K) bool {
	_, ok := s[k]
	return ok
}

// A place is a key of an account's storage.
type place struct {
	address api.Address
	key     api.Word
}

// A transaction is what holds for one transaction alone.
type transaction struct {
	touched, made, warm, doomed set[api.Address]
	warmPlaces                  set[place]
	transient                   map[place]api.Word // no value is 0
	originals                   map[place]api.Word // what stood, when it began, at the places written to since
	refund                      uint64
	logs                        []api.Log
	journal
}

// newTransaction is one in which nothing has been done.
func newTransaction() transaction {
	return transaction{
		touched: set[api.Address]{}, made: set[api.Address]{}, warm: set[api.Address]{}, doomed: set[api.Address]{},
		warmPlaces: set[place]{}, transient: map[place]api.Word{}, originals: map[place]api.Word{},
	}
}

// Begin begins a transaction.
func (s *State) Begin() { s.transaction = newTransaction() }

// End ends it.
func (s *State) End(clear bool) {
	for a := range s.doomed {
		delete(s.accounts, a)
	}
	if clear {
		for a := range s.touched {
			s.dropEmpty(a)
		}
	}
	s.Begin()
}

// dropEmpty lets an account go, if it has nothing.
func (s *State) dropEmpty(a api.Address) {
	if s.Empty(a) {
		delete(s.accounts, a)
	}
}
