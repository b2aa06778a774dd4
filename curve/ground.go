package curve

import (
	"quarry/api"
	"quarry/field"
	"quarry/tower"
)

// ground is what coordinates are reckoned with. What it tells is below the prime in each part; text has a coordinate's parts in the order by which the one of two with the greater part is the greater one.
type ground[E any] interface {
	Add(a, b E) E
	Sub(a, b E) E
	Mul(a, b E) E
	Inv(a E) (E, bool)
	Sqrt(a E) (E, bool)
	parse(b []byte) (E, api.Errno)
	text(a E) []byte
}

// single is the ground of first curves: a prime field.
type single struct{ *field.Field }

func (s single) parse(b []byte) (api.Num, api.Errno) { return s.Decode(b) }

func (s single) text(a api.Num) []byte { return s.Encode(a) }

// double is the ground of second curves: the field F2 of a tower, with the field of its elements' parts.
type double struct {
	*tower.Tower
	part *field.Field
}

func (d double) Add(a, b api.F2) api.F2 { return d.Add2(a, b) }

func (d double) Sub(a, b api.F2) api.F2 { return d.Sub2(a, b) }

func (d double) Mul(a, b api.F2) api.F2 { return d.Mul2(a, b) }

func (d double) Inv(a api.F2) (api.F2, bool) { return d.Inv2(a) }

func (d double) Sqrt(a api.F2) (api.F2, bool) { return d.Sqrt2(a) }

func (d double) parse(b []byte) (api.F2, api.Errno) {
	high, e := d.part.Decode(b[:len(b)/2])
	if e != api.OK {
		return api.F2{}, e
	}
	low, e := d.part.Decode(b[len(b)/2:])
	if e != api.OK {
		return api.F2{}, e
	}
	return api.F2{low, high}, api.OK
}

func (d double) text(a api.F2) []byte {
	return append(d.part.Encode(a[1]), d.part.Encode(a[0])...)
}
