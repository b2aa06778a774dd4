package state

import (
	"bytes"

	"quarry/api"
)

// at is what stands at an address: an account that has nothing, its code's hash neither, if there is none.
func (s *State) at(a api.Address) account {
	if c, ok := s.accounts[a]; ok {
		return *c
	}
	return account{}
}

// Exists: is there such an account?
func (s *State) Exists(a api.Address) bool {
	_, ok := s.accounts[a]
	return ok
}

// Empty: is there none, or one that has nothing?
func (s *State) Empty(a api.Address) bool {
	c := s.at(a)
	return c.nonce == 0 && c.balance == api.Word{} && len(c.program.code) == 0
}

// Nonce is an account's nonce.
func (s *State) Nonce(a api.Address) uint64 { return s.at(a).nonce }

// Balance is what it has.
func (s *State) Balance(a api.Address) api.Word { return s.at(a).balance }

// Code is its code.
func (s *State) Code(a api.Address) []byte { return bytes.Clone(s.at(a).program.code) }

// CodeHash is its code's hash.
func (s *State) CodeHash(a api.Address) api.Hash { return s.at(a).program.hash }

// Slot is a place of its storage.
func (s *State) Slot(a api.Address, k api.Word) api.Word { return s.at(a).storage[k] }

// Stored: has its storage a place?
func (s *State) Stored(a api.Address) bool { return len(s.at(a).storage) > 0 }

// Original is what stood there when the transaction began.
func (s *State) Original(a api.Address, k api.Word) api.Word {
	if s.Made(a) {
		return api.Word{}
	}
	if v, written := s.originals[place{a, k}]; written {
		return v
	}
	return s.Slot(a, k)
}

// Transient is a place of its storage for one transaction.
func (s *State) Transient(a api.Address, k api.Word) api.Word { return s.transient[place{a, k}] }

// Warm: is the account warm?
func (s *State) Warm(a api.Address) bool { return s.warm.has(a) }

// Refund is how much is given back.
func (s *State) Refund() uint64 { return s.refund }

// Logs are the logs.
func (s *State) Logs() []api.Log {
	l := make([]api.Log, 0, len(s.logs))
	for _, x := range s.logs {
		l = append(l, copyOf(x))
	}
	return l
}

// Destroyed: will it go?
func (s *State) Destroyed(a api.Address) bool { return s.doomed.has(a) }

// Made: was it made in this transaction?
func (s *State) Made(a api.Address) bool { return s.made.has(a) }
