package state

import (
	"bytes"
	"math"
	"slices"

	"quarry/api"
)

// Open makes an account be there.
func (s *State) Open(a api.Address) { s.open(a) }

// open is the account that is there from now on.
func (s *State) open(a api.Address) *account {
	s.Touch(a)
	if !s.Exists(a) {
		s.create(a, api.Word{})
	}
	return s.accounts[a]
}

// create lays an account that has this balance and nothing else.
func (s *State) create(a api.Address, balance api.Word) {
	put(&s.journal, s.accounts, a, &account{0, balance, programOf(nil), map[api.Word]api.Word{}})
}

// Make makes a new account.
func (s *State) Make(a api.Address) {
	s.Touch(a)
	s.create(a, s.Balance(a))
	add(&s.journal, s.made, a)
}

// SetNonce sets a nonce.
func (s *State) SetNonce(a api.Address, n uint64) { change(&s.journal, &s.open(a).nonce, n) }

// SetBalance sets a balance.
func (s *State) SetBalance(a api.Address, w api.Word) { change(&s.journal, &s.open(a).balance, w) }

// SetCode sets a code.
func (s *State) SetCode(a api.Address, code []byte) {
	change(&s.journal, &s.open(a).program, programOf(code))
}

// SetSlot sets a place of the storage.
func (s *State) SetSlot(a api.Address, k, v api.Word) {
	c := s.open(a)
	s.keepOriginal(place{a, k}, c.storage[k])
	putWord(&s.journal, c.storage, k, v)
}

// keepOriginal keeps what stands at a place that is about to be written to, if it stood there when the transaction began. Of an account that was made it did not; Back brings back what did, and all such writes are undone then.
func (s *State) keepOriginal(p place, v api.Word) {
	if _, written := s.originals[p]; !written && !s.Made(p.address) {
		s.originals[p] = v
	}
}

// SetTransient sets a place for one transaction.
func (s *State) SetTransient(a api.Address, k, v api.Word) {
	putWord(&s.journal, s.transient, place{a, k}, v)
}

// Touch touches an account.
func (s *State) Touch(a api.Address) { add(&s.journal, s.touched, a) }

// Heat makes an account warm; was it so?
func (s *State) Heat(a api.Address) bool { return add(&s.journal, s.warm, a) }

// HeatSlot makes a place warm; was it so?
func (s *State) HeatSlot(a api.Address, k api.Word) bool {
	return add(&s.journal, s.warmPlaces, place{a, k})
}

// AddRefund counts up what is given back.
func (s *State) AddRefund(n uint64) {
	change(&s.journal, &s.refund, s.refund+min(n, math.MaxUint64-s.refund))
}

// SubRefund counts it down.
func (s *State) SubRefund(n uint64) { change(&s.journal, &s.refund, s.refund-min(n, s.refund)) }

// AddLog lays a log.
func (s *State) AddLog(l api.Log) { change(&s.journal, &s.logs, append(s.logs, copyOf(l))) }

// copyOf is a log in memory of its own.
func copyOf(l api.Log) api.Log {
	l.Topics, l.Data = slices.Clone(l.Topics), bytes.Clone(l.Data)
	return l
}

// Destroy lets an account go at the end.
func (s *State) Destroy(a api.Address) { add(&s.journal, s.doomed, a) }
