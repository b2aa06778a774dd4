package gas_test

import (
	"math"
	"math/big"
	"testing"

	"quarry/api"
	"quarry/fork"
	"quarry/gas"
)

// The calls have the signatures that the chapter lists.
var (
	_ func(r api.Rules, op int) uint64                                = gas.Base
	_ func(size uint64, at, n api.Word) (to, cost uint64, ok bool)    = gas.Grow
	_ func(n api.Word, each uint64) (uint64, bool)                    = gas.Words
	_ func(r api.Rules, exponent api.Word) uint64                     = gas.Exp
	_ func(topics int, n api.Word) (uint64, bool)                     = gas.Log
	_ func(r api.Rules, s api.Store) (cost, add, sub uint64, ok bool) = gas.Store
	_ func(r api.Rules, left uint64, asked api.Word) (uint64, bool)   = gas.Part
	_ func(r api.Rules, t api.Tx) (uint64, bool)                      = gas.Intrinsic
	_ func(r api.Rules, used, refund uint64) uint64                   = gas.Back
)

// forks is how many there are.
const forks = 16

// rules are a fork's numbers.
func rules(t *testing.T, at int) api.Rules {
	t.Helper()
	r, e := fork.Of(at)
	if e != api.OK {
		t.Fatalf("Of(%d): %d", at, e)
	}
	return r
}

func n(v uint64) *big.Int { return new(big.Int).SetUint64(v) }

func plus(a, b *big.Int) *big.Int { return new(big.Int).Add(a, b) }

func minus(a, b *big.Int) *big.Int { return new(big.Int).Sub(a, b) }

func times(a, b *big.Int) *big.Int { return new(big.Int).Mul(a, b) }

// over is a / b, rounded down, of what is not below 0.
func over(a *big.Int, b uint64) *big.Int { return new(big.Int).Quo(a, n(b)) }

// power2 is 2^bits, and more.
func power2(bits uint, more int64) *big.Int {
	return plus(new(big.Int).Lsh(n(1), bits), big.NewInt(more))
}

// word is a number of 256 bits.
func word(v *big.Int) (w api.Word) {
	for i := range w {
		w[i] = new(big.Int).Rsh(v, uint(64*i)).Uint64()
		if v.Sign() < 0 || v.BitLen() > 256 {
			panic("no word: " + v.String())
		}
	}
	return w
}

// of is the number that a word is.
func of(w api.Word) *big.Int {
	v := new(big.Int)
	for i := 3; i >= 0; i-- {
		v = plus(new(big.Int).Lsh(v, 64), n(w[i]))
	}
	return v
}

// paid is a cost as it is told: not ok above 2^63 - 1.
func paid(v *big.Int) (uint64, bool) {
	if v.Cmp(n(math.MaxInt64)) > 0 {
		return 0, false
	}
	return v.Uint64(), true
}

// edges are words about 0, all powers of two, and the end.
func edges() []api.Word {
	var l []api.Word
	for bits := range uint(257) {
		for more := int64(-2); more <= 2; more++ {
			if v := power2(bits, more); v.Sign() >= 0 && v.BitLen() <= 256 {
				l = append(l, word(v))
			}
		}
	}
	return l
}

// mixer tells numbers without any order, the same ones in each run.
type mixer uint64

func (m *mixer) next() uint64 {
	*m += 0x9e3779b97f4a7c15
	z := uint64(*m)
	z = (z ^ z>>30) * 0xbf58476d1ce4e5b9
	z = (z ^ z>>27) * 0x94d049bb133111eb
	return z ^ z>>31
}

// below is a number below n.
func (m *mixer) below(n int) int { return int(m.next() % uint64(n)) }

// upTo is a number of few or many bits, up to as many as these.
func (m *mixer) upTo(bits int) *big.Int {
	v := new(big.Int)
	for range 4 {
		v = plus(new(big.Int).Lsh(v, 64), n(m.next()))
	}
	return new(big.Int).Rsh(v, uint(256-m.below(bits+1)))
}

// word is a word of few or many bits.
func (m *mixer) word() api.Word { return word(m.upTo(256)) }
