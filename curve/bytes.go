package curve

import (
	"bytes"

	"quarry/api"
)

// The flags of a packed point, in its first byte.
const (
	packed  = 128
	nothing = 64
	greater = 32
	flags   = packed | nothing | greater
)

// ReadBn1 reads a point of 64 bytes.
func ReadBn1(b []byte) (api.P1, api.Errno) {
	p, e := first(api.Bn).read(b)
	return api.P1(p), e
}

// WriteBn1 writes one.
func WriteBn1(p api.P1) ([]byte, api.Errno) { return first(api.Bn).write(spot[api.Num](p)) }

// ReadBn2 reads a point of 128 bytes.
func ReadBn2(b []byte) (api.P2, api.Errno) {
	p, e := second(api.Bn).read(b)
	return api.P2(p), e
}

// WriteBn2 writes one.
func WriteBn2(p api.P2) ([]byte, api.Errno) { return second(api.Bn).write(spot[api.F2](p)) }

// Unpack1 reads a point of 48 bytes.
func Unpack1(b []byte) (api.P1, api.Errno) {
	p, e := first(api.Bls).unpack(b)
	return api.P1(p), e
}

// Pack1 writes one.
func Pack1(p api.P1) ([]byte, api.Errno) { return first(api.Bls).pack(spot[api.Num](p)) }

// Unpack2 reads a point of 96 bytes.
func Unpack2(b []byte) (api.P2, api.Errno) {
	p, e := second(api.Bls).unpack(b)
	return api.P2(p), e
}

// Pack2 writes one.
func Pack2(p api.P2) ([]byte, api.Errno) { return second(api.Bls).pack(spot[api.F2](p)) }

// read is the point of the group whose coordinates b has.
func (l *law[E]) read(b []byte) (spot[E], api.Errno) {
	if len(b) != 2*l.size {
		return spot[E]{}, api.ErrLength
	}
	x, e := l.f.parse(b[:l.size])
	if e != api.OK {
		return spot[E]{}, e
	}
	y, e := l.f.parse(b[l.size:])
	if e != api.OK {
		return spot[E]{}, e
	}
	var none E
	return l.member(spot[E]{X: x, Y: y, Inf: x == none && y == none})
}

// write is the point's coordinates; of zero they are 0.
func (l *law[E]) write(p spot[E]) ([]byte, api.Errno) {
	if e := l.refused(p); e != api.OK {
		return nil, e
	}
	if p.Inf {
		p = spot[E]{}
	}
	return append(l.f.text(p.X), l.f.text(p.Y)...), api.OK
}

// unpack is the point of the group whose X and flags b has.
func (l *law[E]) unpack(b []byte) (spot[E], api.Errno) {
	if len(b) != l.size {
		return spot[E]{}, api.ErrLength
	}
	flag, b := b[0]&flags, bytes.Clone(b)
	b[0] &^= flags
	if flag&packed == 0 {
		return spot[E]{}, api.ErrForm
	}
	if flag&nothing != 0 {
		if flag&greater != 0 || !bytes.Equal(b, make([]byte, len(b))) {
			return spot[E]{}, api.ErrForm
		}
		return spot[E]{Inf: true}, api.OK
	}
	x, e := l.f.parse(b)
	if e != api.OK {
		return spot[E]{}, e
	}
	y, ok := l.f.Sqrt(l.right(x))
	if !ok {
		return spot[E]{}, api.ErrCurve
	}
	if flag&greater != 0 { // a root that the ground tells is the lesser one
		y = l.minus(y)
	}
	return l.member(spot[E]{X: x, Y: y})
}

// pack is the point's X, with flags.
func (l *law[E]) pack(p spot[E]) ([]byte, api.Errno) {
	if e := l.refused(p); e != api.OK {
		return nil, e
	}
	if p.Inf {
		b := make([]byte, l.size)
		b[0] = packed | nothing
		return b, api.OK
	}
	b := l.f.text(p.X)
	b[0] |= packed
	if l.greater(p.Y) {
		b[0] |= greater
	}
	return b, api.OK
}

// greater: is y greater than -y? As bytes the parts stand in the order by which they are told apart.
func (l *law[E]) greater(y E) bool { return bytes.Compare(l.f.text(y), l.f.text(l.minus(y))) > 0 }
