package book_test

import (
	"bytes"
	"reflect"
	"testing"
	"unsafe"

	"quarry/api"
	"quarry/book"
)

// A stretch is memory that a list may write to, from its first byte to ahead of its end.
type stretch struct{ from, end uintptr }

// stretchOf is the memory of l, its spare room too.
func stretchOf[T any](l []T) stretch {
	var one T
	from := uintptr(unsafe.Pointer(unsafe.SliceData(l)))
	return stretch{from, from + uintptr(cap(l))*unsafe.Sizeof(one)}
}

// stretches is the memory of all lists in some values.
func stretches(values ...any) []stretch {
	var all []stretch
	for _, v := range values {
		gather(reflect.ValueOf(v), &all)
	}
	return all
}

func gather(v reflect.Value, all *[]stretch) {
	switch v.Kind() {
	case reflect.Slice:
		from := v.Pointer()
		*all = append(*all, stretch{from, from + uintptr(v.Cap())*v.Type().Elem().Size()})
		for i := range v.Len() {
			gather(v.Index(i), all)
		}
	case reflect.Struct:
		for i := range v.NumField() {
			gather(v.Field(i), all)
		}
	}
}

// shared says whether two of them have a byte in common.
func shared(all []stretch) bool {
	for i, a := range all {
		for _, b := range all[:i] {
			if a.from < b.end && b.from < a.end {
				return true
			}
		}
	}
	return false
}

// inRoom is b with bytes ahead of it and spare room behind it, and the whole of that.
func inRoom(b []byte) (piece, whole []byte) {
	whole = append([]byte{0xa1, 0xa2, 0xa3, 0xa4}, b...)
	whole = append(whole, bytes.Repeat([]byte{0xb7}, 100)...)
	return whole[4 : 4+len(b)], whole
}

// roomy is a copy of v, each list of which has spare room behind it.
func roomy[T any](v T) T {
	return withRoom(reflect.ValueOf(v)).Interface().(T)
}

func withRoom(v reflect.Value) reflect.Value {
	switch v.Kind() {
	case reflect.Slice:
		l := reflect.MakeSlice(v.Type(), 0, v.Len()+3)
		for i := range v.Len() {
			l = reflect.Append(l, withRoom(v.Index(i)))
		}
		return l
	case reflect.Struct:
		s := reflect.New(v.Type()).Elem()
		for i := range v.NumField() {
			s.Field(i).Set(withRoom(v.Field(i)))
		}
		return s
	}
	return v
}

// wholeOf is a copy of v with each list's spare room taken in.
func wholeOf[T any](v T) T {
	return takenIn(reflect.ValueOf(v)).Interface().(T)
}

func takenIn(v reflect.Value) reflect.Value {
	switch v.Kind() {
	case reflect.Slice:
		v = v.Slice(0, v.Cap())
		l := reflect.MakeSlice(v.Type(), 0, v.Len())
		for i := range v.Len() {
			l = reflect.Append(l, takenIn(v.Index(i)))
		}
		return l
	case reflect.Struct:
		s := reflect.New(v.Type()).Elem()
		for i := range v.NumField() {
			s.Field(i).Set(takenIn(v.Field(i)))
		}
		return s
	}
	return v
}

// TestMemoryReading: R2: what is read stays as it is, its spare room too; no list of an answer shares memory with it, with another list of that answer, or with another answer.
func TestMemoryReading(t *testing.T) {
	var m mixer = 70
	check := func(raw []byte, read func([]byte) any) {
		t.Helper()
		piece, whole := inRoom(raw)
		was := bytes.Clone(whole)
		one := read(piece)
		two := read(piece)
		if shared(stretches(one, two, whole)) || !bytes.Equal(whole, was) {
			t.Errorf("reading %.50x shares memory, or changes it", raw)
		}
		clear(whole)
		if !same(one, two) || !same(two, read(raw)) {
			t.Errorf("what %.50x is hangs on what became of its bytes", raw)
		}
	}
	for i := range 200 {
		check(txForm(t, m.tx(i%4)), func(raw []byte) any { tx, _ := book.ReadTx(raw); return tx })
		check(form(t, plainHeader(m.header(m.fields()))), func(raw []byte) any { h, _ := book.ReadHeader(raw); return h })
	}
	for range 40 {
		check(form(t, plainBlock(t, m.block(t))), func(raw []byte) any { b, _ := book.ReadBlock(raw); return b })
	}
	for _, raw := range [][]byte{nil, {}, {0xc0}, {1, 0xc0}, {0x80}, m.bytes(60)} {
		check(raw, func(raw []byte) any { tx, _ := book.ReadTx(raw); return tx })
		check(raw, func(raw []byte) any { h, _ := book.ReadHeader(raw); return h })
		check(raw, func(raw []byte) any { b, _ := book.ReadBlock(raw); return b })
	}
}

// written holds a call that writes of v against R2.
func written[T any](t *testing.T, v T, write func(T) []byte) {
	t.Helper()
	v = roomy(v)
	was := wholeOf(v)
	one, two := write(v), write(v)
	if shared(stretches(v, one, two)) {
		t.Errorf("writing of %v shares memory", v)
	}
	if !same(was, wholeOf(v)) {
		t.Errorf("writing of %v changes it", v)
	}
	clear(one[:cap(one)])
	if !bytes.Equal(write(v), two) {
		t.Errorf("writing of %v hangs on what became of an answer", v)
	}
}

// TestMemoryWriting: R2: what is written of stays as it is, its lists' spare room too, and no answer shares memory with it or another answer.
func TestMemoryWriting(t *testing.T) {
	var m mixer = 71
	for i := range 200 {
		written(t, m.tx(i%4), func(tx api.Tx) []byte { raw, _ := book.WriteTx(tx); return raw })
		written(t, m.tx(i%4), func(tx api.Tx) []byte { h, _ := book.Signed(tx); return h[:] })
		written(t, m.header(m.fields()), func(h api.Header) []byte { raw, _ := book.WriteHeader(h); return raw })
		written(t, m.receipt(), func(r api.Receipt) []byte { raw, _ := book.WriteReceipt(r); return raw })
		written(t, m.withdrawal(), book.WriteWithdrawal)
		written(t, m.logs(), func(l []api.Log) []byte { filter := book.Bloom(l); return filter[:] })
		written(t, m.blob(), func(code []byte) []byte { a := book.Salted(api.Address{}, api.Word{}, code); return a[:] })
	}
	for _, tx := range wrongTxs() {
		written(t, tx, func(tx api.Tx) []byte { raw, _ := book.WriteTx(tx); return raw })
	}
	for range 40 {
		written(t, m.block(t), func(b api.Block) []byte { raw, _ := book.WriteBlock(b); return raw })
		tx := m.tx(m.below(4))
		tx.R, tx.S = api.Word{1, m.next()}, api.Word{m.next()}
		written(t, tx, func(tx api.Tx) []byte { a, _ := book.Sender(tx); return a[:] })
	}
}
