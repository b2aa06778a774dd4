package curve_test

import (
	"bytes"
	"math/big"
	"testing"

	"quarry/api"
	"quarry/curve"
)

// pick is one of the five sides.
func pick(c int, second bool) side {
	for _, s := range sides() {
		if s.curve == c && s.second == second {
			return s
		}
	}
	panic("no such side")
}

// form is one of the four ways in which points stand as bytes.
type form struct {
	name  string
	s     side
	read  func(b []byte) (dot, api.Errno)
	write func(d dot) ([]byte, api.Errno)
	want  func(b []byte) (dot, api.Errno)
	made  func(d dot) []byte
}

// forms are those four, with their plain readers and writers.
func forms() []form {
	bn1, bn2, bls1, bls2 := pick(api.Bn, false), pick(api.Bn, true), pick(api.Bls, false), pick(api.Bls, true)
	of := func(call func(b []byte) (api.P1, api.Errno)) func(b []byte) (dot, api.Errno) {
		return func(b []byte) (dot, api.Errno) {
			p, e := call(b)
			return of1(p), e
		}
	}
	also := func(call func(b []byte) (api.P2, api.Errno)) func(b []byte) (dot, api.Errno) {
		return func(b []byte) (dot, api.Errno) {
			p, e := call(b)
			return of2(p), e
		}
	}
	return []form{
		{"Bn1", bn1, of(curve.ReadBn1), func(d dot) ([]byte, api.Errno) { return curve.WriteBn1(d.p1()) }, bn1.read, bn1.write},
		{"Bn2", bn2, also(curve.ReadBn2), func(d dot) ([]byte, api.Errno) { return curve.WriteBn2(d.p2()) }, bn2.read, bn2.write},
		{"Pack1", bls1, of(curve.Unpack1), func(d dot) ([]byte, api.Errno) { return curve.Pack1(d.p1()) }, bls1.unpack, bls1.pack},
		{"Pack2", bls2, also(curve.Unpack2), func(d dot) ([]byte, api.Errno) { return curve.Pack2(d.p2()) }, bls2.unpack, bls2.pack},
	}
}

// eachForm runs a test for each form.
func eachForm(t *testing.T, test func(t *testing.T, f form)) {
	for _, f := range forms() {
		t.Run(f.name, func(t *testing.T) {
			t.Parallel()
			test(t, f)
		})
	}
}

// reads looks at what is read of b.
func (f form) reads(t *testing.T, b []byte) api.Errno {
	t.Helper()
	want, why := f.want(b)
	if got, e := f.read(b); e != why || !got.same(want) {
		t.Errorf("reading %x: %v, %v, not %v, %v", b, got, e, want, why)
	}
	return why
}

// P8.3, P8.4: what is written of points on the curve, in the group or not; P8.5: reading it tells them, if they are in it.
func TestWrite(t *testing.T) {
	eachForm(t, func(t *testing.T, f form) {
		for _, d := range f.s.dots() {
			b, e := f.write(d)
			if e != api.OK || !bytes.Equal(b, f.made(d)) {
				t.Errorf("writing %v: %x, %v, not %x", d, b, e, f.made(d))
			}
			f.reads(t, b)
			got, e := f.read(b)
			if f.s.In(d) {
				told(t, "reading", got, e, d)
			} else {
				refused(t, "reading", got, e, api.ErrGroup)
			}
		}
		for _, d := range f.s.others() {
			if b, e := f.write(d); e != api.ErrCurve || len(b) != 0 {
				t.Errorf("writing %v: %x, %v", d, b, e)
			}
		}
	})
}

// P8.3, P8.4: zero is written the same way, whatever X and Y are.
func TestWriteZero(t *testing.T) {
	p := api.P1{X: api.Num{1, 2, 3, 4, 5, 6}, Y: api.Num{9}, Inf: true}
	q := api.P2{X: api.F2{p.X, p.X}, Y: api.F2{p.X, p.X}, Inf: true}
	flagged := func(size int) []byte { return append([]byte{192}, make([]byte, size-1)...) }
	a, e := curve.WriteBn1(p)
	b, f := curve.WriteBn2(q)
	c, g := curve.Pack1(p)
	d, h := curve.Pack2(q)
	if !bytes.Equal(a, make([]byte, 64)) || !bytes.Equal(b, make([]byte, 128)) || !bytes.Equal(c, flagged(48)) || !bytes.Equal(d, flagged(96)) || e|f|g|h != 0 {
		t.Errorf("%x %x %x %x", a, b, c, d)
	}
}

// P8.3, P8.4: ErrLength of each other length, whatever the bytes are.
func TestLength(t *testing.T) {
	eachForm(t, func(t *testing.T, f form) {
		right := len(f.made(f.s.gen))
		for size := range 300 {
			for _, v := range []byte{0, 1, 0xc0, 0xff} {
				b := bytes.Repeat([]byte{v}, size)
				if got, e := f.read(b); (e == api.ErrLength) != (size != right) || e != api.OK && !got.same(none()) {
					t.Errorf("%d bytes %x: %v, %v", size, v, got, e)
				}
			}
		}
		b := append(f.made(f.s.gen), 0)
		for _, b := range [][]byte{nil, b, b[:right-1], b[2:], make([]byte, 1<<20)} {
			got, e := f.read(b)
			refused(t, "reading", got, e, api.ErrLength)
		}
	})
}

// P8.3: numbers about 0 and about the prime, in each place, beside others of which each could be refused; what is first in them counts.
func TestReadParts(t *testing.T) {
	for _, f := range forms()[:2] {
		t.Run(f.name, func(t *testing.T) {
			end := plus(new(big.Int).Lsh(n(1), 256), -1)
			few := []*big.Int{n(0), n(1), n(2), plus(f.s.p, -1), f.s.p, plus(f.s.p, 1), plus(f.s.p, 2), end}
			got := map[api.Errno]int{}
			places := 2
			if f.s.second {
				places = 4
				few = []*big.Int{n(0), n(1), plus(f.s.p, -1), f.s.p, end}
			}
			all := 1
			for range places {
				all *= len(few)
			}
			for i := range all {
				var b []byte
				for range places {
					b = append(b, few[i%len(few)].FillBytes(make([]byte, 32))...)
					i /= len(few)
				}
				got[f.reads(t, b)]++
			}
			if got[api.OK] == 0 || got[api.ErrRange] == 0 || got[api.ErrCurve] == 0 {
				t.Errorf("%v", got)
			}
		})
	}
}

// P8.3, P8.4: a point with one bit turned, two parts changed for one another, and a part that is the same modulo the prime.
func TestReadTurned(t *testing.T) {
	eachForm(t, func(t *testing.T, f form) {
		got := map[api.Errno]int{}
		for _, d := range []dot{f.s.gen, f.s.dots()[3], zero()} {
			b := f.made(d)
			for i := range 8 * len(b) {
				c := bytes.Clone(b)
				c[i/8] ^= 128 >> (i % 8)
				if i < 24 || i%7 == 0 {
					got[f.reads(t, c)]++
				}
			}
			half := len(b) / 2
			got[f.reads(t, append(bytes.Clone(b[half:]), b[:half]...))]++
			if size := f.s.size(); len(b) > size {
				for i := 0; i < len(b); i += size {
					c := bytes.Clone(b)
					part := new(big.Int).Add(new(big.Int).SetBytes(c[i:i+size]), f.s.p)
					if part.BitLen() <= 8*size {
						part.FillBytes(c[i : i+size])
						got[f.reads(t, c)]++
					}
				}
			}
		}
		if got[api.ErrCurve] == 0 {
			t.Errorf("%v", got)
		}
	})
}

// P8.4: X of small numbers, of those about the prime and of those without any order, with all flags.
func TestUnpack(t *testing.T) {
	for _, f := range forms()[2:] {
		t.Run(f.name, func(t *testing.T) {
			m := mixer(50)
			top := new(big.Int).Lsh(n(1), 381)
			l := []*big.Int{n(0), n(1), n(2), n(3), n(4), n(5), plus(f.s.p, -1), f.s.p, plus(f.s.p, 1), plus(top, -1)}
			for range 4 {
				l = append(l, m.below(f.s.p), new(big.Int).SetBytes(m.bytes(47)))
			}
			others := []*big.Int{n(0)}
			if f.s.second {
				others = []*big.Int{n(0), n(1), plus(f.s.p, -1), f.s.p, m.below(f.s.p)}
			}
			got := map[api.Errno]int{}
			for _, v := range l {
				for _, o := range others {
					b := v.FillBytes(make([]byte, 48))
					if f.s.second {
						b = append(b, o.FillBytes(make([]byte, 48))...)
					}
					for flags := range byte(8) {
						c := bytes.Clone(b)
						c[0] |= flags << 5
						got[f.reads(t, c)]++
						if f.s.second {
							c = append(o.FillBytes(make([]byte, 48)), v.FillBytes(make([]byte, 48))...)
							c[0] |= flags << 5
							got[f.reads(t, c)]++
						}
					}
				}
			}
			for _, e := range []api.Errno{api.ErrForm, api.ErrRange, api.ErrCurve, api.ErrGroup} {
				if got[e] == 0 {
					t.Errorf("none was refused with %d: %v", e, got)
				}
			}
		})
	}
}

// P8.4: zero has no other bits.
func TestUnpackZero(t *testing.T) {
	for _, f := range forms()[2:] {
		size := len(f.made(zero()))
		for i := range 8 * size {
			b := f.made(zero())
			b[i/8] ^= 128 >> (i % 8)
			want := api.ErrForm
			if i == 1 { // X is 0 then
				_, want = f.want(b)
			}
			got, e := f.read(b)
			refused(t, "reading", got, e, want)
		}
		got, e := f.read(f.made(zero()))
		told(t, "reading", got, e, zero())
	}
}

// P8.4: both points of an X, by their flags alone: those of the group, of as many X as points.
func TestBothOfX(t *testing.T) {
	for _, f := range forms()[2:] {
		d := f.s.gen
		lesser := 0
		for range 12 {
			b, _ := f.write(d)
			other := bytes.Clone(b)
			other[0] ^= 32
			if b[0]&32 == 0 {
				lesser++
			}
			got, e := f.read(other)
			told(t, "reading", got, e, f.s.turned(d))
			d = f.s.sum(f.s.sum(d, d), f.s.gen)
		}
		if lesser == 0 || lesser == 12 {
			t.Errorf("%d points have the lesser Y", lesser)
		}
	}
}

// R2: what is handed in stands as it stood; no two answers share memory, nor does one with an argument.
func TestMemory(t *testing.T) {
	eachForm(t, func(t *testing.T, f form) {
		d := f.s.turned(f.s.gen)
		for _, d := range []dot{d, zero()} {
			b, _ := f.write(d)
			room := append(bytes.Clone(b), bytes.Repeat([]byte{0xee}, 64)...)
			before := bytes.Clone(room)
			first, _ := f.read(room[:len(b)])
			if !bytes.Equal(room, before) {
				t.Error("a reader changed its bytes")
			}
			other, _ := f.write(d)
			for i := range b[:cap(b)] {
				b[:cap(b)][i] = 0x55
			}
			again, _ := f.write(d)
			if !bytes.Equal(other, f.made(d)) || !bytes.Equal(again, f.made(d)) {
				t.Error("two answers share memory")
			}
			if second, _ := f.read(again); !second.same(first) {
				t.Error("a reader tells another point")
			}
		}
	})
}
