package sign_test

import (
	"encoding/hex"
	"math/big"
	"testing"

	"quarry/api"
	"quarry/sign"
)

// The calls have the signatures that the chapter lists.
var (
	_ func(key api.Word) (api.P1, api.Errno)                                          = sign.Public
	_ func(p api.P1) (api.Address, api.Errno)                                         = sign.Address
	_ func(hash api.Hash, key, nonce api.Word) (odd bool, r, s api.Word, e api.Errno) = sign.Sign
	_ func(hash api.Hash, odd bool, r, s api.Word) (api.P1, api.Errno)                = sign.Recover
	_ func(s api.Word) bool                                                           = sign.Low
)

func n(v int64) *big.Int { return big.NewInt(v) }

func plus(a, b *big.Int) *big.Int { return new(big.Int).Add(a, b) }

func minus(a, b *big.Int) *big.Int { return new(big.Int).Sub(a, b) }

func times(a, b *big.Int) *big.Int { return new(big.Int).Mul(a, b) }

func mod(a, p *big.Int) *big.Int { return new(big.Int).Mod(a, p) }

// power2 is 2^bits.
func power2(bits uint) *big.Int { return new(big.Int).Lsh(n(1), bits) }

// unhex is the number that the digits say.
func unhex(text string) *big.Int {
	v, ok := new(big.Int).SetString(text, 16)
	if !ok {
		panic(text)
	}
	return v
}

// order is the number of Secp's points.
func order() *big.Int {
	return unhex("fffffffffffffffffffffffffffffffebaaedce6af48a03bbfd25e8cd0364141")
}

// prime is that of Secp's coordinates.
func prime() *big.Int {
	return unhex("fffffffffffffffffffffffffffffffffffffffffffffffffffffffefffffc2f")
}

// half is (n - 1)/2.
func half() *big.Int { return new(big.Int).Rsh(order(), 1) }

// limbs are v's, the lowest first.
func limbs(v *big.Int, l []uint64) {
	low := new(big.Int).SetUint64(1<<64 - 1)
	for i := range l {
		l[i] = new(big.Int).And(new(big.Int).Rsh(v, uint(64*i)), low).Uint64()
	}
}

// w is a number below 2^256 as a word.
func w(v *big.Int) (a api.Word) {
	limbs(v, a[:])
	return a
}

// num is a number as fields have it.
func num(v *big.Int) (a api.Num) {
	limbs(v, a[:])
	return a
}

// value is what limbs say.
func value(l []uint64) *big.Int {
	v := new(big.Int)
	for i := len(l) - 1; i >= 0; i-- {
		v.Add(v.Lsh(v, 64), new(big.Int).SetUint64(l[i]))
	}
	return v
}

// big1 is a word's value.
func big1(a api.Word) *big.Int { return value(a[:]) }

// h is a number below 2^256 as a hash.
func h(v *big.Int) (a api.Hash) {
	v.FillBytes(a[:])
	return a
}

// of is a hash's number.
func of(a api.Hash) *big.Int { return new(big.Int).SetBytes(a[:]) }

// address is what the digits say.
func address(t *testing.T, text string) (a api.Address) {
	t.Helper()
	b, e := hex.DecodeString(text)
	if e != nil || copy(a[:], b) != len(a) {
		t.Fatal(text, e)
	}
	return a
}

// mixer tells numbers without any order, the same ones in each run.
type mixer uint64

func (m *mixer) next() uint64 {
	*m += 0x9e3779b97f4a7c15
	z := uint64(*m)
	z = (z ^ z>>30) * 0xbf58476d1ce4e5b9
	z = (z ^ z>>27) * 0x94d049bb133111eb
	return z ^ z>>31
}

// word is any word.
func (m *mixer) word() *big.Int { return value([]uint64{m.next(), m.next(), m.next(), m.next()}) }

// scalar is a number from 1 to n - 1.
func (m *mixer) scalar() *big.Int { return plus(mod(m.word(), minus(order(), n(1))), n(1)) }

// hash is any hash.
func (m *mixer) hash() api.Hash { return h(m.word()) }

// edges are numbers from 1 to n - 1, about its ends, its middle, and the ends of limbs.
func edges() []*big.Int {
	l := []*big.Int{n(1), n(2), n(3), n(7), n(8), n(9), n(15), n(16), n(17), n(255), n(256)}
	for _, bits := range []uint{63, 64, 127, 128, 191, 192, 255} {
		l = append(l, minus(power2(bits), n(1)), power2(bits), plus(power2(bits), n(1)))
	}
	for _, d := range []int64{1, 2, 3, 8, 16} {
		l = append(l, minus(order(), n(d)))
	}
	for d := int64(-1); d <= 2; d++ {
		l = append(l, plus(half(), n(d)))
	}
	return l
}

// beyond are numbers below 2^256 that are not from 1 to n - 1.
func beyond() []*big.Int {
	l := []*big.Int{n(0), prime(), plus(prime(), n(1)), minus(prime(), n(1)), minus(power2(256), n(1)), minus(power2(256), n(2)), minus(power2(256), power2(64))}
	for _, d := range []int64{0, 1, 2, 3, 1000} {
		l = append(l, plus(order(), n(d)))
	}
	for _, bits := range []uint{64, 126, 128} {
		l = append(l, plus(order(), power2(bits)))
	}
	return l
}
