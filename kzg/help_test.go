package kzg_test

import (
	"bytes"
	"encoding/hex"
	"math/big"
	"testing"

	"quarry/api"
	"quarry/curve"
	"quarry/kzg"
)

// The calls have the signatures that the chapter lists.
var (
	_ func() api.P2                                  = kzg.Setup
	_ func(commitment []byte) api.Hash               = kzg.Versioned
	_ func(commitment, z, y, proof []byte) api.Errno = kzg.Verify
)

// The setup as the chapter writes it: T, and t G1.
const (
	setupText = "b5bfd7dd8cdeb128843bc287230af38926187075cbfbefa81009a2ce615ac53d2914e5870cb452d2afaaab24f3499f72" +
		"185cbfee53492714734429b7b38608e23926c911cceceac9a36851477ba4c60b087041de621000edc98edada20c1def2"
	firstText = "ad3eb50121139aa34db1d545093ac9374ab7bca2c0f3bf28e27c8dcd8fc7cb42d25926fc0c97b336e9f0fb35e5a04c81"
)

// prime is that of the field BlsR.
func prime() *big.Int {
	p, _ := new(big.Int).SetString("73eda753299d7d483339d80809a1d80553bda402fffe5bfeffffffff00000001", 16)
	return p
}

func n(v int64) *big.Int { return big.NewInt(v) }

func plus(a, b *big.Int) *big.Int { return new(big.Int).Add(a, b) }

// wrap is a modulo the prime.
func wrap(a *big.Int) *big.Int { return new(big.Int).Mod(a, prime()) }

// unhex is what the digits say.
func unhex(t *testing.T, text string) []byte {
	t.Helper()
	b, e := hex.DecodeString(text)
	if e != nil {
		t.Fatal(e)
	}
	return b
}

// wide is a number as 32 bytes, just as it is.
func wide(v *big.Int) []byte { return v.FillBytes(make([]byte, 32)) }

// packed is a point's 48 bytes.
func packed(t *testing.T, p api.P1) []byte {
	t.Helper()
	b, e := curve.Pack1(p)
	if e != api.OK {
		t.Fatal(p, e)
	}
	return b
}

// zero is the packed zero.
func zero() []byte { return append([]byte{0xc0}, make([]byte, 47)...) }

// times is k p, of k below 0 too.
func times(t *testing.T, p api.P1, k *big.Int) api.P1 {
	t.Helper()
	p, e := curve.Mul1(api.Bls, p, wrap(k).Bytes())
	if e != api.OK {
		t.Fatal(p, e)
	}
	return p
}

// bases are t G1 and G1.
func bases(t *testing.T) (api.P1, api.P1) {
	t.Helper()
	p, e := curve.Unpack1(unhex(t, firstText))
	if e != api.OK {
		t.Fatal(e)
	}
	g, e := curve.Gen1(api.Bls)
	if e != api.OK {
		t.Fatal(e)
	}
	return p, g
}

// line is a polynomial a x + b.
type line struct{ a, b *big.Int }

// at is what it is at z.
func (l line) at(z *big.Int) *big.Int { return wrap(plus(new(big.Int).Mul(l.a, z), l.b)) }

// commitment is a (t G1) + b G1, packed.
func (l line) commitment(t *testing.T) []byte {
	t.Helper()
	p, g := bases(t)
	sum, e := curve.Add1(api.Bls, times(t, p, l.a), times(t, g, l.b))
	if e != api.OK {
		t.Fatal(e)
	}
	return packed(t, sum)
}

// proof is a G1, packed.
func (l line) proof(t *testing.T) []byte {
	t.Helper()
	_, g := bases(t)
	return packed(t, times(t, g, l.a))
}

// must looks at what Verify says.
func must(t *testing.T, commitment, z, y, proof []byte, want api.Errno, what ...any) {
	t.Helper()
	if got := kzg.Verify(commitment, z, y, proof); got != want {
		t.Errorf("Verify(%x, %x, %x, %x), %v: %v, not %v", commitment, z, y, proof, what, got, want)
	}
}

// turned is b with one bit turned.
func turned(b []byte, bit int) []byte {
	b = bytes.Clone(b)
	b[bit/8] ^= 1 << (bit % 8)
	return b
}

// mixer tells numbers without any order, the same ones in each run.
type mixer uint64

func (m *mixer) next() uint64 {
	*m += 0x9e3779b97f4a7c15
	z := uint64(*m)
	z = (z ^ z>>30) * 0xbf58476d1ce4e5b9
	z = (z ^ z>>27) * 0x94d049bb133111eb
	return z ^ z>>31
}

// bytes are so many.
func (m *mixer) bytes(count int) []byte {
	b := make([]byte, count)
	for i := range b {
		b[i] = byte(m.next())
	}
	return b
}

// number is one below the prime.
func (m *mixer) number() *big.Int { return wrap(new(big.Int).SetBytes(m.bytes(48))) }
