package word_test

import (
	"math/big"
	"testing"

	"quarry/api"
	"quarry/word"
)

// What is handed in and what comes out goes to math/big by the limbs alone, so that no call of the package is held against itself.

const full = 1<<64 - 1

// power is 2^n, and more.
func power(n uint, more int64) *big.Int {
	return new(big.Int).Add(new(big.Int).Lsh(big.NewInt(1), n), big.NewInt(more))
}

// toWord is n modulo 2^256 as a word.
func toWord(n *big.Int) api.Word {
	m := new(big.Int).Mod(n, power(256, 0))
	var a api.Word
	for i := range a {
		a[i] = new(big.Int).And(new(big.Int).Rsh(m, uint(64*i)), new(big.Int).SetUint64(full)).Uint64()
	}
	return a
}

// num is n modulo 2^256 as a word, two is 2^n and more.
func num(n int64) api.Word { return toWord(big.NewInt(n)) }

func two(n uint, more int64) api.Word { return toWord(power(n, more)) }

// value is the value of a.
func value(a api.Word) *big.Int {
	n := new(big.Int)
	for i := 3; i >= 0; i-- {
		n.Lsh(n, 64)
		n.Or(n, new(big.Int).SetUint64(a[i]))
	}
	return n
}

// signed is the signed value of a.
func signed(a api.Word) *big.Int {
	n := value(a)
	if n.Cmp(power(255, 0)) >= 0 {
		n.Sub(n, power(256, 0))
	}
	return n
}

// same says whether got is n modulo 2^256.
func same(got api.Word, n *big.Int) bool { return got == toWord(n) }

// check fails the test, if got is not want modulo 2^256.
func check(t *testing.T, got api.Word, want *big.Int, call string, args ...api.Word) {
	t.Helper()
	if same(got, want) {
		return
	}
	text := call + " of"
	for _, a := range args {
		text += " " + value(a).Text(16)
	}
	t.Fatalf("%s is %x, must be %x", text, value(got), value(toWord(want)))
}

// corners are all words whose limbs are 0, 1, 2^63 or 2^64 - 1.
func corners() []api.Word {
	ends := [4]uint64{0, 1, 1 << 63, full}
	var l []api.Word
	for i := range 256 {
		l = append(l, api.Word{ends[i&3], ends[i>>2&3], ends[i>>4&3], ends[i>>6&3]})
	}
	return l
}

// mixed are words of n different sizes without any order, the same ones in each run.
func mixed(n int) []api.Word {
	var l []api.Word
	x := uint64(12345)
	next := func() uint64 {
		x += 0x9e3779b97f4a7c15
		z := (x ^ x>>30) * 0xbf58476d1ce4e5b9
		z = (z ^ z>>27) * 0x94d049bb133111eb
		return z ^ z>>31
	}
	for i := range n {
		a := value(api.Word{next(), next(), next(), next()})
		l = append(l, toWord(a.Rsh(a, uint(i*256/n))))
	}
	return l
}

// edges are words about the ends of limbs, of signs and of all, and some between.
func edges() []api.Word {
	l := []api.Word{num(3), num(7), num(10), num(12), num(255), num(1000), num(-3), num(-7), num(-10), num(-255)}
	for _, n := range []uint{0, 1, 8, 63, 64, 65, 127, 128, 129, 191, 192, 193, 254, 255, 256} {
		for _, more := range []int64{-2, -1, 0, 1} {
			l = append(l, two(n, more))
		}
	}
	return append(l, mixed(32)...)
}

// few are some of the edges, for what takes three words or long.
func few() []api.Word {
	l := []api.Word{num(0), num(1), num(2), num(3), num(12), num(-1), num(-2), num(-7)}
	for _, n := range []uint{63, 64, 128, 192, 255} {
		l = append(l, two(n, -1), two(n, 0), two(n, 1))
	}
	return append(l, mixed(9)...)
}

// huge are numbers that are far too great for a place or a shift; in some of them the lowest limb alone would not be.
func huge() []api.Word {
	return []api.Word{two(32, 0), two(32, 5), two(63, 0), two(63, 3), two(64, -1), two(64, 0), two(64, 1), two(64, 30), two(64, 32), two(128, 0), two(128, 7), two(192, 0), two(192, 2), two(200, 0), two(255, 0), two(255, 1), two(256, -256), two(256, -1)}
}

// The calls must have the signatures that the chapter lists.
var (
	_ func(uint64) api.Word                 = word.Of
	_ func(api.Word) (uint64, bool)         = word.Small
	_ func([]byte) (api.Word, bool)         = word.From
	_ func(api.Word) [32]byte               = word.Bytes
	_ func(api.Word) []byte                 = word.Short
	_ func(api.Word) int                    = word.Bits
	_ func(a, b api.Word) int               = word.Cmp
	_ func(a, b api.Word) int               = word.Scmp
	_ func(a, b api.Word) api.Word          = word.Add
	_ func(a, b api.Word) api.Word          = word.Sub
	_ func(a, b api.Word) api.Word          = word.Mul
	_ func(a, b api.Word) (hi, lo api.Word) = word.Wide
	_ func(a, b api.Word) api.Word          = word.Div
	_ func(a, b api.Word) api.Word          = word.Mod
	_ func(a, b api.Word) api.Word          = word.Sdiv
	_ func(a, b api.Word) api.Word          = word.Smod
	_ func(a, b, m api.Word) api.Word       = word.Addmod
	_ func(a, b, m api.Word) api.Word       = word.Mulmod
	_ func(a, b api.Word) api.Word          = word.Exp
	_ func(k, a api.Word) api.Word          = word.Signextend
	_ func(a, b api.Word) api.Word          = word.And
	_ func(a, b api.Word) api.Word          = word.Or
	_ func(a, b api.Word) api.Word          = word.Xor
	_ func(a api.Word) api.Word             = word.Not
	_ func(i, a api.Word) api.Word          = word.Byte
	_ func(n, a api.Word) api.Word          = word.Shl
	_ func(n, a api.Word) api.Word          = word.Shr
	_ func(n, a api.Word) api.Word          = word.Sar
)
