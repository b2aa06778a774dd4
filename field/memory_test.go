package field_test

import (
	"bytes"
	"testing"

	"quarry/api"
	"quarry/field"
)

// inRoom is a with bytes ahead of it and spare room behind it, and the whole of that.
func inRoom(a []byte) (piece, whole []byte) {
	whole = append([]byte{0xa1, 0xa2, 0xa3, 0xa4}, a...)
	whole = append(whole, bytes.Repeat([]byte{0xb7}, 200)...)
	return whole[4 : 4+len(a)], whole
}

// R2: bytes that are handed in, their spare room and what stands about them are not changed.
func TestBytesStay(t *testing.T) {
	each(t, func(t *testing.T, f *field.Field, r row) {
		m := mixer(23)
		for _, n := range []int{0, 1, 31, 32, 33, 47, 48, 49, 100} {
			for _, ahead := range []int{0, 1, 20} {
				b := append(make([]byte, ahead), m.bytes(n)...)
				piece, whole := inRoom(b)
				was := bytes.Clone(whole)
				f.Decode(piece)
				f.Exp(m.num(384), piece)
				if !bytes.Equal(whole, was) {
					t.Fatalf("%x has changed: %x", was, whole)
				}
			}
		}
	})
}

// R2: what Encode tells is new memory each time, its spare room too, and not the field's own.
func TestEncodeIsNew(t *testing.T) {
	each(t, func(t *testing.T, f *field.Field, r row) {
		var told, want [][]byte
		for _, a := range r.edges() {
			b := f.Encode(a)
			told, want = append(told, b), append(want, bytes.Clone(b))
		}
		for i, b := range told {
			if !bytes.Equal(b, want[i]) {
				t.Fatalf("%x has been written over: %x", want[i], b)
			}
			b = b[:cap(b)]
			for j := range b {
				b[j] ^= 0x5a
			}
		}
		for i, a := range r.edges() {
			if b := f.Encode(a); !bytes.Equal(b, want[i]) {
				t.Fatalf("Encode of %x is %x, and was %x", a, b, want[i])
			}
		}
	})
}

// R2: bytes that were decoded are not kept.
func TestDecodeKeepsNothing(t *testing.T) {
	each(t, func(t *testing.T, f *field.Field, r row) {
		b := make([]byte, r.size)
		b[r.size-1] = 9
		a, e := f.Decode(b)
		clear(b)
		if e != api.OK || a != (api.Num{9}) {
			t.Fatalf("Decode of 9: %x, %v", a, e)
		}
	})
}

// R2: nil and empty lists are one.
func TestNilAndEmpty(t *testing.T) {
	each(t, func(t *testing.T, f *field.Field, r row) {
		for _, b := range [][]byte{nil, {}, make([]byte, 0, 48)} {
			if a, e := f.Decode(b); a != (api.Num{}) || e != api.ErrLength {
				t.Errorf("Decode of no bytes: %x, %v", a, e)
			}
			if a := f.Exp(api.Num{9}, b); a != (api.Num{1}) {
				t.Errorf("Exp to no bytes: %x", a)
			}
		}
	})
}

// R2, R4: a field does not change, whatever is done with it; each answer is what it was.
func TestFieldStays(t *testing.T) {
	each(t, func(t *testing.T, f *field.Field, r row) {
		answers := func() (l []api.Num) {
			for _, a := range r.few() {
				inverse, _ := f.Inv(a)
				root, _ := f.Sqrt(a)
				l = append(l, f.Reduce(a), f.Neg(a), inverse, root, f.Exp(a, []byte{5}))
			}
			return l
		}
		first, second := answers(), answers()
		for i, a := range first {
			if second[i] != a {
				t.Fatalf("answer %d is %x, and was %x", i, second[i], a)
			}
		}
	})
}
