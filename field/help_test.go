package field_test

import (
	"math/big"
	"testing"

	"quarry/api"
	"quarry/field"
)

// The calls have the signatures that the chapter lists.
var (
	_ func(kind int) (*field.Field, api.Errno)            = field.New
	_ func(f *field.Field) api.Num                        = (*field.Field).Modulus
	_ func(f *field.Field) int                            = (*field.Field).Size
	_ func(f *field.Field, a api.Num) api.Num             = (*field.Field).Reduce
	_ func(f *field.Field, a, b api.Num) api.Num          = (*field.Field).Add
	_ func(f *field.Field, a, b api.Num) api.Num          = (*field.Field).Sub
	_ func(f *field.Field, a api.Num) api.Num             = (*field.Field).Neg
	_ func(f *field.Field, a, b api.Num) api.Num          = (*field.Field).Mul
	_ func(f *field.Field, a api.Num) (api.Num, bool)     = (*field.Field).Inv
	_ func(f *field.Field, a api.Num, e []byte) api.Num   = (*field.Field).Exp
	_ func(f *field.Field, a api.Num) (api.Num, bool)     = (*field.Field).Sqrt
	_ func(f *field.Field, b []byte) (api.Num, api.Errno) = (*field.Field).Decode
	_ func(f *field.Field, a api.Num) []byte              = (*field.Field).Encode
)

// row is a row of the chapter's table, and the prime as math/big has it.
type row struct {
	name string
	kind int
	text string
	size int
	p    *big.Int
}

// table is the chapter's table of primes.
func table() []row {
	l := []row{
		{"SecpP", api.SecpP, "fffffffffffffffffffffffffffffffffffffffffffffffffffffffefffffc2f", 32, nil},
		{"SecpN", api.SecpN, "fffffffffffffffffffffffffffffffebaaedce6af48a03bbfd25e8cd0364141", 32, nil},
		{"BnP", api.BnP, "30644e72e131a029b85045b68181585d97816a916871ca8d3c208c16d87cfd47", 32, nil},
		{"BnR", api.BnR, "30644e72e131a029b85045b68181585d2833e84879b9709143e1f593f0000001", 32, nil},
		{"BlsP", api.BlsP, "1a0111ea397fe69a4b1ba7b6434bacd764774b84f38512bf6730d2a0f6b0f6241eabfffeb153ffffb9feffffffffaaab", 48, nil},
		{"BlsR", api.BlsR, "73eda753299d7d483339d80809a1d80553bda402fffe5bfeffffffff00000001", 32, nil},
	}
	for i := range l {
		l[i].p, _ = new(big.Int).SetString(l[i].text, 16)
	}
	return l
}

// each runs a test for each field.
func each(t *testing.T, test func(t *testing.T, f *field.Field, r row)) {
	for _, r := range table() {
		t.Run(r.name, func(t *testing.T) {
			f, e := field.New(r.kind)
			if e != api.OK || f == nil {
				t.Fatalf("New(%d): %v", r.kind, e)
			}
			test(t, f, r)
			if value(f.Modulus()).Cmp(r.p) != 0 || f.Size() != r.size {
				t.Errorf("the field has changed: %x, %d", f.Modulus(), f.Size())
			}
		})
	}
}

// value is the number that a is.
func value(a api.Num) *big.Int {
	n := new(big.Int)
	for i := 5; i >= 0; i-- {
		n.Lsh(n, 64)
		n.Or(n, new(big.Int).SetUint64(a[i]))
	}
	return n
}

// num is n modulo 2^384, as limbs.
func num(n *big.Int) api.Num {
	var a api.Num
	low := new(big.Int).SetUint64(1<<64 - 1)
	for i := range a {
		a[i] = new(big.Int).And(new(big.Int).Rsh(n, uint(64*i)), low).Uint64()
	}
	return a
}

// sum is n + more.
func sum(n *big.Int, more int64) *big.Int { return new(big.Int).Add(n, big.NewInt(more)) }

// power is 2^n + more.
func power(n uint, more int64) *big.Int { return sum(new(big.Int).Lsh(big.NewInt(1), n), more) }

// check fails the test, if got is not want modulo p.
func (r row) check(t *testing.T, got api.Num, want *big.Int, call string, args ...api.Num) {
	t.Helper()
	rest := new(big.Int).Mod(want, r.p)
	if value(got).Cmp(rest) == 0 {
		return
	}
	for _, a := range args {
		call += " " + value(a).Text(16)
	}
	t.Fatalf("%s: %s is %s, must be %s", r.name, call, value(got).Text(16), rest.Text(16))
}

// mixer tells numbers without any order, the same ones in each run.
type mixer uint64

func (m *mixer) next() uint64 {
	*m += 0x9e3779b97f4a7c15
	z := uint64(*m)
	z = (z ^ z>>30) * 0xbf58476d1ce4e5b9
	z = (z ^ z>>27) * 0x94d049bb133111eb
	return z ^ z>>31
}

// num is a number of so many bits.
func (m *mixer) num(wide int) api.Num {
	var a api.Num
	for i := range a {
		a[i] = m.next()
	}
	return num(new(big.Int).And(value(a), power(uint(wide), -1)))
}

// bytes is so many bytes.
func (m *mixer) bytes(n int) []byte {
	b := make([]byte, n)
	for i := range b {
		b[i] = byte(m.next())
	}
	return b
}

// few are numbers about 0, about multiples of the prime, its half, the ends of 32 bytes, of what limbs hold, and of all that a Num holds.
func (r row) few() []api.Num {
	end := power(384, 0)
	most := new(big.Int).Mul(new(big.Int).Div(sum(end, -1), r.p), r.p) // the greatest multiple of p
	middles := []*big.Int{r.p, new(big.Int).Rsh(r.p, 1), new(big.Int).Lsh(r.p, 1), power(256, 0), most}
	l := []api.Num{{}, {1}, {2}, {3}, {5}, num(sum(end, -1)), num(sum(end, -2)), num(new(big.Int).Mul(r.p, big.NewInt(5)))}
	for _, n := range middles {
		for more := range int64(5) {
			l = append(l, num(sum(n, more-2)))
		}
	}
	return l
}

// edges are the few, numbers about the ends of limbs, and numbers between, of 256 and of 384 bits.
func (r row) edges() []api.Num {
	l := r.few()
	for _, n := range []uint{32, 63, 64, 65, 127, 128, 191, 192, 193, 254, 255, 257, 319, 320, 321, 380, 381, 382, 383} {
		for more := range int64(3) {
			l = append(l, num(power(n, more-1)))
		}
	}
	m := mixer(r.kind)
	for range 12 {
		l = append(l, m.num(256), m.num(384), num(new(big.Int).Mod(value(m.num(384)), r.p)))
	}
	return l
}

// corners are all numbers whose limbs are 0, 1, 2^63 or 2^64 - 1.
func corners() []api.Num {
	ends := [4]uint64{0, 1, 1 << 63, 1<<64 - 1}
	l := make([]api.Num, 4096)
	for i := range l {
		for j := range l[i] {
			l[i][j] = ends[i>>(2*j)&3]
		}
	}
	return l
}
