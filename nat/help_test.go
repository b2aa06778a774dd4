package nat_test

import (
	"bytes"
	"math/big"
	"testing"

	"quarry/nat"
)

// value is the number whose bytes a are.
func value(a []byte) *big.Int { return new(big.Int).SetBytes(a) }

// power is 2^n, and more, as bytes.
func power(n uint, more int64) []byte {
	return new(big.Int).Add(new(big.Int).Lsh(big.NewInt(1), n), big.NewInt(more)).Bytes()
}

// check fails the test, if got is not want without zeros ahead.
func check(t *testing.T, got []byte, want *big.Int, call string, args ...[]byte) {
	t.Helper()
	if bytes.Equal(got, want.Bytes()) {
		return
	}
	for _, a := range args {
		call += " " + value(a).Text(16)
	}
	t.Fatalf("%s is %x, must be %x", call, got, want.Bytes())
}

// padded is a with zeros ahead.
func padded(a []byte, zeros int) []byte { return append(make([]byte, zeros), a...) }

// mixer tells numbers without any order, the same ones in each run.
type mixer uint64

func (m *mixer) next() uint64 {
	*m += 0x9e3779b97f4a7c15
	z := uint64(*m)
	z = (z ^ z>>30) * 0xbf58476d1ce4e5b9
	z = (z ^ z>>27) * 0x94d049bb133111eb
	return z ^ z>>31
}

// number is a number of so many bytes, the first of them not 0.
func (m *mixer) number(wide int) []byte {
	b := make([]byte, wide)
	for i := range b {
		b[i] = byte(m.next())
	}
	if wide > 0 {
		b[0] |= 1
	}
	return b
}

// edges are numbers about the ends of bytes and of limbs, and some between, of up to 41 bytes; 0 is there as no bytes, as nil and as zeros.
func edges() [][]byte {
	l := [][]byte{nil, {}, {0}, {0, 0, 0}, make([]byte, 20), {3}, {7}, {10}, {100}, {0, 5}, {1, 0, 0, 0, 0}}
	for _, n := range []uint{0, 1, 7, 8, 9, 31, 32, 63, 64, 65, 127, 128, 129, 191, 192, 255, 256, 320} {
		for _, more := range []int64{-1, 0, 1} {
			l = append(l, power(n, more))
		}
	}
	m := mixer(1)
	for wide := 1; wide <= 41; wide += 3 {
		l = append(l, m.number(wide), padded(m.number(wide), wide%9))
	}
	return l
}

// few are some of the edges, for calls of three numbers.
func few() [][]byte {
	l := [][]byte{nil, {0, 0}, {1}, {2}, {3}, {0, 7}, {255}, {1, 0}, {0x12, 0x34, 0x56}}
	for _, n := range []uint{63, 64, 65, 128, 192} {
		l = append(l, power(n, -1), power(n, 0), power(n, 1))
	}
	m := mixer(2)
	return append(l, m.number(9), m.number(16), padded(m.number(23), 10), m.number(40))
}

// corners are all numbers of up to three limbs that are 0, 1, 2^63 - 1, 2^63, 2^64 - 2 or 2^64 - 1.
func corners() [][]byte {
	ends := [][]byte{power(64, 0)[1:], {0, 0, 0, 0, 0, 0, 0, 1}, power(63, -1), power(63, 0), power(64, -2), power(64, -1)}
	var l [][]byte
	for i := range 216 {
		l = append(l, bytes.Join([][]byte{ends[i/36], ends[i/6%6], ends[i%6]}, nil))
	}
	return l
}

// The calls have the signatures that the chapter lists.
var (
	_ func(a []byte) []byte                    = nat.Trim
	_ func(a, b []byte) int                    = nat.Cmp
	_ func(a []byte) int                       = nat.Bits
	_ func(a []byte, i int) int                = nat.Bit
	_ func(a, b []byte) []byte                 = nat.Add
	_ func(a, b []byte) ([]byte, bool)         = nat.Sub
	_ func(a, b []byte) []byte                 = nat.Mul
	_ func(a, b []byte) (q, r []byte, ok bool) = nat.DivMod
	_ func(b, e, m []byte) []byte              = nat.ModExp
	_ func(a []byte, wide int) ([]byte, bool)  = nat.Fill
)
