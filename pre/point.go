package pre

import (
	"slices"

	"quarry/api"
	"quarry/curve"
	"quarry/field"
	"quarry/kzg"
	"quarry/pair"
	"quarry/word"
)

// How many bytes a point of Bn's first group has, and one of each group.
const (
	pointSize = 64
	pairSize  = 192
)

// sum is that of two points of Bn; it fails, if one is refused.
func sum(input []byte) ([]byte, bool) {
	b := sized(input, 2*pointSize)
	p, e := curve.ReadBn1(b[:pointSize])
	if e != api.OK {
		return nil, false
	}
	q, e := curve.ReadBn1(b[pointSize:])
	if e != api.OK {
		return nil, false
	}
	s, _ := curve.Add1(api.Bn, p, q)
	return written(s)
}

// multiple is a point of Bn, as many times as a number says; it fails, if the point is refused.
func multiple(input []byte) ([]byte, bool) {
	b := sized(input, pointSize+wordSize)
	p, e := curve.ReadBn1(b[:pointSize])
	if e != api.OK {
		return nil, false
	}
	q, _ := curve.Mul1(api.Bn, p, b[pointSize:])
	return written(q)
}

// written is a point's bytes.
func written(p api.P1) ([]byte, bool) {
	b, e := curve.WriteBn1(p)
	return b, e == api.OK
}

// product is 1, if the product of the pairs' pairings is, else 0; it fails, if a pair is not whole, or a point refused.
func product(input []byte) ([]byte, bool) {
	if len(input)%pairSize != 0 {
		return nil, false
	}
	var a []api.P1
	var b []api.P2
	for piece := range slices.Chunk(input, pairSize) {
		p, e := curve.ReadBn1(piece[:pointSize])
		if e != api.OK {
			return nil, false
		}
		q, e := curve.ReadBn2(piece[pointSize:])
		if e != api.OK {
			return nil, false
		}
		a, b = append(a, p), append(b, q)
	}
	one, e := pair.One(api.Bn, a, b)
	if e != api.OK {
		return nil, false
	}
	if one {
		return wide([]byte{1}), true
	}
	return wide(nil), true
}

// How a commitment's opening is handed in, and of how many parts a polynomial is.
const (
	openedSize = 192
	parts      = 4096
)

// opened is how many parts a polynomial has and the prime that they are below; it fails, unless what is claimed of one is shown.
func opened(input []byte) ([]byte, bool) {
	if len(input) != openedSize {
		return nil, false
	}
	h, z, y, commitment, proof := input[:32], input[32:64], input[64:96], input[96:144], input[144:]
	if kzg.Versioned(commitment) != api.Hash(h) || kzg.Verify(commitment, z, y, proof) != api.OK {
		return nil, false
	}
	f, e := field.New(api.BlsR)
	if e != api.OK {
		return nil, false
	}
	p := f.Modulus() // as a word, since Encode would tell it modulo itself
	prime := word.Bytes(api.Word(p[:4]))
	return append(wide(word.Short(word.Of(parts))), prime[:]...), true
}
