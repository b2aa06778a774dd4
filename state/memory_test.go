package state_test

import (
	"reflect"
	"testing"

	"quarry/api"
)

// A stretch is memory that a list may write to, from its first byte to ahead of its end.
type stretch struct{ from, end uintptr }

// stretches is the memory of all lists in some values, their spare room too.
func stretches(values ...any) []stretch {
	var all []stretch
	for _, v := range values {
		gather(reflect.ValueOf(v), &all)
	}
	return all
}

func gather(v reflect.Value, all *[]stretch) {
	switch v.Kind() {
	case reflect.Slice:
		from := v.Pointer()
		*all = append(*all, stretch{from, from + uintptr(v.Cap())*v.Type().Elem().Size()})
		for i := range v.Len() {
			gather(v.Index(i), all)
		}
	case reflect.Struct:
		for i := range v.NumField() {
			gather(v.Field(i), all)
		}
	}
}

// shared says whether two of them have a byte in common.
func shared(all []stretch) bool {
	for i, a := range all {
		for _, b := range all[:i] {
			if a.from < b.end && b.from < a.end {
				return true
			}
		}
	}
	return false
}

// roomy is a copy of v, each list of which has spare room behind it.
func roomy[T any](v T) T { return copied(reflect.ValueOf(v), false, 3).Interface().(T) }

// wholeOf is a copy of v with each list's spare room taken in.
func wholeOf[T any](v T) T { return copied(reflect.ValueOf(v), true, 0).Interface().(T) }

func copied(v reflect.Value, whole bool, room int) reflect.Value {
	switch v.Kind() {
	case reflect.Slice:
		if whole {
			v = v.Slice(0, v.Cap())
		}
		l := reflect.MakeSlice(v.Type(), 0, v.Len()+room)
		for i := range v.Len() {
			l = reflect.Append(l, copied(v.Index(i), whole, room))
		}
		return l
	case reflect.Struct:
		s := reflect.New(v.Type()).Elem()
		for i := range v.NumField() {
			s.Field(i).Set(copied(v.Field(i), whole, room))
		}
		return s
	}
	return v
}

// wipe overwrites all that lists in v can write to, from the innermost ones on.
func wipe(v any) { wiped(reflect.ValueOf(v)) }

func wiped(v reflect.Value) {
	switch v.Kind() {
	case reflect.Slice:
		v = v.Slice(0, v.Cap())
		for i := range v.Len() {
			wiped(v.Index(i))
			v.Index(i).SetZero()
		}
	case reflect.Struct:
		for i := range v.NumField() {
			wiped(v.Field(i))
		}
	}
}

// twins checks a call's answers against R2: two of them, and what was handed in, share no memory, and what becomes of one is not seen in the next.
func twins[T any](t *testing.T, what string, tell func() T, given ...any) {
	t.Helper()
	one, two := tell(), tell()
	if shared(stretches(append(given, one, two)...)) {
		t.Errorf("%s shares memory", what)
	}
	wipe(one)
	is(t, what+" behind what became of an answer", tell(), two)
}

// TestMemoryOfAccounts: R2: what Load is given is neither changed nor kept, and answers are new memory.
func TestMemoryOfAccounts(t *testing.T) {
	var m mixer = 40
	for range 50 {
		l := roomy(m.accounts(12))
		was := wholeOf(l)
		s, want := load(t, l), plainOf(l)
		twins(t, "Alloc", s.Alloc, l)
		for _, x := range l {
			twins(t, "Code", func() []byte { return s.Code(x.Address) }, l)
		}
		root := s.Root()
		is(t, "what Load was given", wholeOf(l), was)
		wipe(l)
		is(t, "Alloc", s.Alloc(), want.Alloc())
		is(t, "Root", s.Root(), root)
	}
}

// TestMemoryOfCalls: R2: what SetCode and AddLog are given is neither changed nor kept, Back or not; answers are new memory; nil and none are one.
func TestMemoryOfCalls(t *testing.T) {
	var m mixer = 41
	a := address(1)
	s := load(t, nil)
	for i := range 60 {
		code := roomy(m.bytes(m.below(40)))
		log := api.Log{Address: a, Data: m.bytes(m.below(40))}
		for range m.below(5) {
			log.Topics = append(log.Topics, api.Hash(m.bytes(32)))
		}
		log = roomy(log)
		if i%7 == 0 {
			code, log.Topics, log.Data = [][]byte{nil, {}}[i%2], [][]api.Hash{nil, {}}[i%2], [][]byte{nil, {}}[i%2]
		}
		wasCode, wasLog := wholeOf(code), wholeOf(log)
		mark := s.Mark()
		for range 2 {
			s.SetCode(a, code)
			s.AddLog(log)
			s.AddLog(log)
			twins(t, "Code", func() []byte { return s.Code(a) }, code, log)
			twins(t, "Logs", s.Logs, code, log)
			twins(t, "Alloc", s.Alloc, code, log)
			is(t, "what calls were given", wholeOf(log), wasLog)
			is(t, "what calls were given", wholeOf(code), wasCode)
			if i%2 == 0 {
				s.Back(mark)
			}
		}
		wantLogs, wantCode := s.Logs(), s.Code(a)
		wipe(code)
		wipe(log)
		is(t, "Logs", s.Logs(), wantLogs)
		is(t, "Code", s.Code(a), wantCode)
	}
}
