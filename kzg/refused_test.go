package kzg_test

import (
	"bytes"
	"math/big"
	"testing"

	"quarry/api"
	"quarry/curve"
	"quarry/field"
)

// part is an argument, with what is refused of it.
type part struct {
	b []byte
	e api.Errno
}

// resized are the argument in other lengths.
func resized(b []byte) [][]byte {
	l := [][]byte{nil, {}, {0}, b[:1], b[:len(b)-1], append(bytes.Clone(b), 0), append([]byte{0}, b...), append(bytes.Clone(b), b...), make([]byte, 1000)}
	for length := range 100 {
		if length != len(b) {
			l = append(l, make([]byte, length))
		}
	}
	return l
}

// P10.2: ErrLength, of each of the four, whatever the others are.
func TestLength(t *testing.T) {
	t.Parallel()
	l := line{n(3), n(4)}
	right := [4][]byte{l.commitment(t), wide(n(5)), wide(n(19)), l.proof(t)}
	ff := bytes.Repeat([]byte{0xff}, 48)
	wrong := [4][]byte{ff, ff[:32], ff[:32], ff}
	must(t, right[0], right[1], right[2], right[3], api.OK, "the right lengths")
	for i := range right {
		for _, b := range resized(right[i]) {
			for _, row := range [][4][]byte{right, wrong} {
				row[i] = b
				must(t, row[0], row[1], row[2], row[3], api.ErrLength, "argument", i, "of", len(b), "bytes")
			}
		}
	}
	must(t, nil, nil, nil, nil, api.ErrLength, "nothing")
	must(t, right[1], right[0], right[3], right[2], api.ErrLength, "lengths crosswise")
}

// P10.2: ErrRange, of numbers that are not below the prime; the one below is taken.
func TestRange(t *testing.T) {
	t.Parallel()
	p := prime()
	all := new(big.Int).Lsh(n(1), 256)
	l := []*big.Int{p, plus(p, n(1)), plus(p, n(5)), new(big.Int).Lsh(p, 1), new(big.Int).Lsh(n(1), 255), plus(all, n(-1)), plus(p, new(big.Int).Lsh(n(1), 64)), plus(p, new(big.Int).Lsh(n(1), 192))}
	x := line{n(1), n(0)}
	c, proof := x.commitment(t), x.proof(t)
	for _, v := range l {
		must(t, c, wide(v), wide(wrap(v)), proof, api.ErrRange, "z")
		must(t, c, wide(wrap(v)), wide(v), proof, api.ErrRange, "y")
		must(t, c, wide(v), wide(v), proof, api.ErrRange, "both")
		must(t, zero(), wide(v), wide(n(0)), zero(), api.ErrRange, "z of zero")
		must(t, zero(), wide(n(0)), wide(v), zero(), api.ErrRange, "y of zero")
	}
	last := wide(plus(p, n(-1)))
	must(t, c, last, last, proof, api.OK, "the greatest z and y")
}

// lost are packed points that are refused, each in one way.
func lost(t *testing.T) []part {
	t.Helper()
	f, _ := field.New(api.BlsP)
	l := []part{{make([]byte, 48), api.ErrForm}, {bytes.Repeat([]byte{0xff}, 48), api.ErrForm}, {turned(zero(), 7), api.ErrForm}, {turned(zero(), 5), api.ErrForm}, {turned(zero(), 8*47), api.ErrForm}}
	over := f.Encode(f.Neg(api.Num{1}))
	over[47]++ // the prime itself, in which no byte is carried: it ends with ab
	over[0] |= 128
	l = append(l, part{over, api.ErrRange}, part{append([]byte{0x9f}, bytes.Repeat([]byte{0xff}, 47)...), api.ErrRange})
	curves, groups := 0, 0
	for x := byte(1); curves < 2 || groups < 3; x++ {
		b := append([]byte{128 | x%2*32}, make([]byte, 47)...)
		b[47] = x
		_, e := curve.Unpack1(b)
		if e == api.ErrCurve && curves < 2 {
			curves++
			l = append(l, part{b, e})
		}
		if e == api.ErrGroup && groups < 3 {
			groups++
			l = append(l, part{b, e})
		}
	}
	for _, x := range l {
		if _, e := curve.Unpack1(x.b); e != x.e {
			t.Fatalf("Unpack1(%x): %v, not %v", x.b, e, x.e)
		}
	}
	return l
}

// P10.2: what Unpack1 refuses, of the commitment and of the proof.
func TestPoints(t *testing.T) {
	t.Parallel()
	_, g := bases(t)
	for _, x := range lost(t) {
		for _, y := range []int64{0, 1} {
			for _, other := range [][]byte{zero(), unhex(t, firstText), packed(t, g)} {
				must(t, x.b, wide(n(5)), wide(n(y)), other, x.e, "the commitment")
				must(t, other, wide(n(5)), wide(n(y)), x.b, x.e, "the proof")
			}
			must(t, x.b, wide(n(5)), wide(n(y)), x.b, x.e, "both")
		}
	}
}

// P10.2: of several faults the first counts: lengths, z, y, the commitment, the proof, and what it all says.
func TestFirst(t *testing.T) {
	t.Parallel()
	l := line{n(3), n(4)}
	points := append(lost(t), part{l.commitment(t), api.OK}, part{zero()[:47], api.ErrLength})
	proofs := append(lost(t), part{l.proof(t), api.OK}, part{append(zero(), 0), api.ErrLength})
	zs := []part{{wide(n(5)), api.OK}, {wide(prime()), api.ErrRange}, {wide(n(5))[1:], api.ErrLength}}
	ys := []part{{wide(n(19)), api.OK}, {wide(n(18)), api.OK}, {wide(prime()), api.ErrRange}, {nil, api.ErrLength}}
	for _, c := range points {
		for _, z := range zs {
			for _, y := range ys {
				for _, p := range proofs {
					row := []api.Errno{z.e, y.e, c.e, p.e}
					must(t, c.b, z.b, y.b, p.b, first(row, y.b), row)
				}
			}
		}
	}
}

// first is what counts of the faults of z, y, commitment and proof; of y 18, where nothing else is wrong, the proof is.
func first(row []api.Errno, y []byte) api.Errno {
	for _, e := range row {
		if e == api.ErrLength {
			return e
		}
	}
	for _, e := range row {
		if e != api.OK {
			return e
		}
	}
	if y[31] == 18 {
		return api.ErrProof
	}
	return api.OK
}
