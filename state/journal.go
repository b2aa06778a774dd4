package state

import (
	"cmp"
	"slices"

	"quarry/api"
)

// A journal knows how to undo what was done since its marks.
type journal struct {
	undo  []func() // one for each step since the first mark
	marks []point  // those that can be come back to, by rising numbers
	told  int      // how many there were in all
}

// A point is a mark's number, and how many steps were ahead of it.
type point struct{ number, steps int }

// Mark is a place to come back to.
func (s *State) Mark() int {
	number := s.told
	s.marks = append(s.marks, point{number, len(s.undo)})
	s.told++
	return number
}

// Back comes back to it: the steps behind it are undone, the last one first.
func (s *State) Back(mark int) bool {
	at, ok := slices.BinarySearchFunc(s.marks, mark, func(p point, number int) int { return cmp.Compare(p.number, number) })
	if !ok {
		return false
	}
	steps := s.marks[at].steps
	for _, undo := range slices.Backward(s.undo[steps:]) {
		undo()
	}
	clear(s.undo[steps:]) // so that what they hold can go
	s.undo, s.marks = s.undo[:steps], s.marks[:at+1]
	return true
}

// keep keeps how a step is undone; ahead of the first mark there is nothing to come back to.
func (j *journal) keep(undo func()) {
	if len(j.marks) > 0 {
		j.undo = append(j.undo, undo)
	}
}

// change sets a variable, undoably.
func change[V any](j *journal, at *V, v V) {
	old := *at
	j.keep(func() { *at = old })
	*at = v
}

// put sets what a key has in a map, undoably.
func put[K comparable, V any](j *journal, m map[K]V, k K, v V) {
	old, had := m[k]
	j.keep(func() {
		if had {
			m[k] = old
		} else {
			delete(m, k)
		}
	})
	m[k] = v
}

// drop takes a key out of a map, undoably.
func drop[K comparable, V any](j *journal, m map[K]V, k K) {
	if old, had := m[k]; had {
		j.keep(func() { m[k] = old })
		delete(m, k)
	}
}

// putWord sets what a key has in a map without zeros, undoably.
func putWord[K comparable](j *journal, m map[K]api.Word, k K, v api.Word) {
	switch v {
	case m[k]: // no step: a code may set a place to what it has again and again
	case api.Word{}:
		drop(j, m, k)
	default:
		put(j, m, k, v)
	}
}

// add lays a key in a set, undoably, and says whether it was there.
func add[K comparable](j *journal, s set[K], k K) (was bool) {
	if s.has(k) {
		return true
	}
	put(j, s, k, struct{}{})
	return false
}
