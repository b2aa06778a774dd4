package gas

import "quarry/api"

// tooLittle is how much gas left doesn't do for a write from Istanbul on: as much as comes with money that is sent, so that whoever has no more than that can't write.
const tooLittle = 2300

// What a write takes that fills an empty place, and what another takes, where nothing else is said.
const (
	fill   = 20000
	change = 5000
)

// rates are what writes take where it counts what stood there when the transaction began: the first one to fill a place, the first one to change what it has, and any that comes again or changes nothing.
type rates struct{ fill, change, again uint64 }

// Store is what a write to the storage takes, what it adds to the refund and what it takes from that; not ok, if too little gas is left.
func Store(r api.Rules, s api.Store) (cost, add, sub uint64, ok bool) {
	if r.Fork < api.Constantinople || r.Fork == api.Petersburg {
		cost, add = alone(r, s)
		return cost, add, 0, true
	}
	if r.Fork >= api.Istanbul && s.Left <= tooLittle {
		return 0, 0, 0, false
	}
	cost, add, sub = among(r, s)
	if !s.Warm {
		cost += r.ColdSlot // 0 before Berlin
	}
	return cost, add, sub, true
}

// alone is what a write takes and adds where it doesn't count what stood there when the transaction began.
func alone(r api.Rules, s api.Store) (cost, add uint64) {
	if isZero(s.Current) && !isZero(s.Next) {
		return fill, 0
	}
	return change, cleared(r, s)
}

// among is what a write takes, adds and takes from the refund as one of the writes of a transaction.
func among(r api.Rules, s api.Store) (cost, add, sub uint64) {
	by := ratesOf(r.Fork)
	switch {
	case s.Current == s.Next:
		return by.again, 0, 0
	case s.Original == s.Current:
		return by.first(s.Original), cleared(r, s), 0
	}
	if !isZero(s.Original) {
		add = cleared(r, s)
		if isZero(s.Current) { // that was added when it was cleared
			sub = r.StoreBack
		}
	}
	if s.Original == s.Next { // all is as it was: what the first change took more comes back
		add += by.first(s.Original) - by.again
	}
	return by.again, add, sub
}

// ratesOf are a fork's rates.
func ratesOf(fork int) rates {
	switch {
	case fork >= api.Berlin:
		return rates{fill: fill, change: 2900, again: 100}
	case fork >= api.Istanbul:
		return rates{fill: fill, change: change, again: 800}
	}
	return rates{fill: fill, change: change, again: 200}
}

// first is what the first change takes of a place that had this.
func (by rates) first(original api.Word) uint64 {
	if isZero(original) {
		return by.fill
	}
	return by.change
}

// cleared is what a write adds to the refund for a place that has nothing any more.
func cleared(r api.Rules, s api.Store) uint64 {
	if isZero(s.Current) || !isZero(s.Next) {
		return 0
	}
	return r.StoreBack
}

// isZero: is it 0?
func isZero(a api.Word) bool { return a == api.Word{} }
