package field_test

import (
	"bytes"
	"math"
	"math/big"
	"testing"

	"quarry/api"
	"quarry/field"
)

// P6.1: the six, and no other.
func TestNew(t *testing.T) {
	for _, kind := range []int{math.MinInt, -1 << 32, 1 - 1<<32, -7, -2, -1, 0, 7, 8, 9, 255, 257, 1<<32 + 1, 1<<32 + 6, math.MaxInt32, math.MaxInt} {
		if f, e := field.New(kind); f != nil || e != api.ErrArg {
			t.Errorf("New(%d): %v, %v", kind, f, e)
		}
	}
	each(t, func(t *testing.T, f *field.Field, r row) {
		if value(f.Modulus()).Cmp(r.p) != 0 || !r.p.ProbablyPrime(20) {
			t.Errorf("Modulus is %x", f.Modulus())
		}
		if f.Size() != r.size {
			t.Errorf("Size is %d", f.Size())
		}
	})
}

// P6.4, Decode: each length but one is wrong, whatever the bytes are.
func TestDecodeLength(t *testing.T) {
	each(t, func(t *testing.T, f *field.Field, r row) {
		for n := range 100 {
			for _, fill := range []byte{0, 1, 255} {
				b := bytes.Repeat([]byte{fill}, n)
				got, e := f.Decode(b)
				want := api.ErrLength
				if n == r.size && fill == 255 {
					want = api.ErrRange
				} else if n == r.size {
					want = api.OK
				}
				if e != want || e != api.OK && got != (api.Num{}) {
					t.Errorf("Decode of %d bytes %d: %x, %v", n, fill, got, e)
				}
			}
		}
		for _, n := range []int{256, 256 + r.size, 65536 + r.size, 1 << 20} {
			if got, e := f.Decode(make([]byte, n)); got != (api.Num{}) || e != api.ErrLength {
				t.Errorf("Decode of %d bytes: %x, %v", n, got, e)
			}
		}
		if got, e := f.Decode(append([]byte{0}, sum(r.p, -1).Bytes()...)); got != (api.Num{}) || e != api.ErrLength {
			t.Errorf("Decode of p - 1 with a zero ahead: %x, %v", got, e)
		}
	})
}

// P6.4: Decode takes the numbers below p, and no others; Encode writes them all with Size bytes.
func TestDecodeAndEncode(t *testing.T) {
	each(t, func(t *testing.T, f *field.Field, r row) {
		for _, a := range append(r.edges(), corners()...) {
			n := value(a)
			rest := new(big.Int).Mod(n, r.p).FillBytes(make([]byte, r.size))
			if b := f.Encode(a); !bytes.Equal(b, rest) {
				t.Fatalf("Encode of %x is %x, must be %x", a, b, rest)
			}
			if n.BitLen() > 8*r.size {
				continue
			}
			want, why := a, api.OK
			if n.Cmp(r.p) >= 0 {
				want, why = api.Num{}, api.ErrRange
			}
			if got, e := f.Decode(n.FillBytes(make([]byte, r.size))); got != want || e != why {
				t.Fatalf("Decode of %x is %x, %v", a, got, e)
			}
		}
	})
}

// P6.4: each byte counts at its place, in both directions.
func TestPlaces(t *testing.T) {
	each(t, func(t *testing.T, f *field.Field, r row) {
		for i := range 8*r.size - 8 {
			n := power(uint(i), 0)
			b := n.FillBytes(make([]byte, r.size))
			if got, e := f.Decode(b); got != num(n) || e != api.OK {
				t.Fatalf("Decode of 2^%d: %x, %v", i, got, e)
			}
			if got := f.Encode(num(n)); !bytes.Equal(got, b) {
				t.Fatalf("Encode of 2^%d: %x", i, got)
			}
		}
	})
}

// P6.5: what was encoded is decoded as what it is modulo p.
func TestDecodeOfEncode(t *testing.T) {
	each(t, func(t *testing.T, f *field.Field, r row) {
		for _, a := range append(r.edges(), corners()...) {
			got, e := f.Decode(f.Encode(a))
			if e != api.OK || got != f.Reduce(a) {
				t.Fatalf("Decode(Encode(%x)) is %x, %v", a, got, e)
			}
			r.check(t, got, value(a), "Decode(Encode)", a)
		}
	})
}

// R4: fields know nothing of each other, and calls nothing of those ahead of them.
func TestFieldsApart(t *testing.T) {
	var fields []*field.Field
	for range 2 {
		for _, r := range table() {
			f, _ := field.New(r.kind)
			fields = append(fields, f)
		}
	}
	m := mixer(3)
	for range 200 {
		a, b, e := m.num(384), m.num(384), m.bytes(3)
		for i, r := range table() {
			for _, f := range []*field.Field{fields[i], fields[i+6]} {
				r.check(t, f.Mul(a, b), new(big.Int).Mul(value(a), value(b)), "Mul", a, b)
				r.check(t, f.Exp(a, e), new(big.Int).Exp(value(a), new(big.Int).SetBytes(e), r.p), "Exp", a)
				inverse, _ := f.Inv(b)
				r.check(t, inverse, new(big.Int).ModInverse(value(b), r.p), "Inv", b)
			}
		}
	}
}
