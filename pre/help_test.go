package pre_test

import (
	"bytes"
	"encoding/hex"
	"math"
	"math/big"
	"testing"

	"quarry/api"
	"quarry/pre"
)

// The calls have the signatures that the chapter lists.
var (
	_ func(fork, number int, input []byte) (uint64, api.Errno)                            = pre.Price
	_ func(fork, number int, input []byte, gas uint64) (out []byte, left uint64, ok bool) = pre.Run
)

// natives is how many contracts there are.
const natives = 10

// firstFork is the first fork that has a contract.
func firstFork(number int) int {
	switch {
	case number <= 4:
		return api.Frontier
	case number <= 8:
		return api.Byzantium
	case number == 9:
		return api.Istanbul
	}
	return api.Cancun
}

// forksOf are the forks at which a contract's price is another, and those ahead of these, so far as it is there.
func forksOf(number int) []int {
	var l []int
	for _, at := range []int{api.Frontier, api.Byzantium, api.Petersburg, api.Istanbul, api.Muir, api.Berlin, api.Cancun} {
		if at >= firstFork(number) {
			l = append(l, at)
		}
	}
	return l
}

func n(v int64) *big.Int { return big.NewInt(v) }

func plus(a, b *big.Int) *big.Int { return new(big.Int).Add(a, b) }

func minus(a, b *big.Int) *big.Int { return new(big.Int).Sub(a, b) }

func times(a, b *big.Int) *big.Int { return new(big.Int).Mul(a, b) }

func mod(a, p *big.Int) *big.Int { return new(big.Int).Mod(a, p) }

// over is a / b, rounded down, of what is not below 0.
func over(a *big.Int, b int64) *big.Int { return new(big.Int).Quo(a, n(b)) }

// power2 is 2^bits, and more.
func power2(bits uint, more int64) *big.Int { return plus(new(big.Int).Lsh(n(1), bits), n(more)) }

// of is the number whose bytes b are.
func of(b []byte) *big.Int { return new(big.Int).SetBytes(b) }

// wide is a number as 32 bytes.
func wide(v *big.Int) []byte { return v.FillBytes(make([]byte, 32)) }

// digits is the number that they say.
func digits(text string) *big.Int { return of(unhex(text)) }

// unhex is the bytes that the digits say.
func unhex(text string) []byte {
	b, e := hex.DecodeString(text)
	if e != nil {
		panic(text)
	}
	return b
}

// join is all of them, one behind the other.
func join(parts ...[]byte) []byte { return bytes.Join(parts, nil) }

// sized is b cut, or with zeros behind it.
func sized(b []byte, size int) []byte { return join(b, make([]byte, size))[:size] }

// turned is b with one bit turned.
func turned(b []byte, bit int) []byte {
	b = bytes.Clone(b)
	b[bit/8] ^= 1 << (bit % 8)
	return b
}

// fails is what Run must tell where a contract fails.
var fails []byte = nil

// none is what it must tell of a contract that tells no bytes.
var none = []byte{}

// must looks at what a contract tells of an input, at each of its forks and of much gas, just enough and too little: want is what it tells, and nil, if it fails.
func must(t *testing.T, number int, input, want []byte, what ...any) {
	t.Helper()
	for _, at := range forksOf(number) {
		price := priceOf(at, number, input)
		if got, e := pre.Price(at, number, input); got != price || e != api.OK {
			t.Fatalf("Price(%d, %d, %x), %v: %d %v, not %d", at, number, input, what, got, e, price)
		}
		ran(t, at, number, input, price, want, what...)
	}
	at := forksOf(number)[0]
	price := priceOf(at, number, input)
	if price < math.MaxUint64 {
		ran(t, at, number, input, price+1, want, what...)
		ran(t, at, number, input, math.MaxUint64, want, what...)
	}
	if price > 0 {
		ran(t, at, number, input, price-1, fails, what...)
		ran(t, at, number, input, 0, fails, what...)
	}
}

// ran looks at one run; none is told with a price of no gas.
func ran(t *testing.T, at, number int, input []byte, gas uint64, want []byte, what ...any) {
	t.Helper()
	price := priceOf(at, number, input)
	if price > gas || price == math.MaxUint64 {
		want = fails
	}
	out, left, ok := pre.Run(at, number, input, gas)
	if want == nil {
		if ok || left != 0 || len(out) != 0 {
			t.Fatalf("Run(%d, %d, %x, %d), %v: %x %d %v, must fail", at, number, input, gas, what, out, left, ok)
		}
		return
	}
	if !ok || left != gas-price || !bytes.Equal(out, want) {
		t.Fatalf("Run(%d, %d, %x, %d), %v: %x %d %v, not %x %d", at, number, input, gas, what, out, left, ok, want, gas-price)
	}
}

// mixer tells numbers without any order, the same ones in each run.
type mixer uint64

func (m *mixer) next() uint64 {
	*m += 0x9e3779b97f4a7c15
	z := uint64(*m)
	z = (z ^ z>>30) * 0xbf58476d1ce4e5b9
	z = (z ^ z>>27) * 0x94d049bb133111eb
	return z ^ z>>31
}

// below is a number below end.
func (m *mixer) below(end int) int { return int(m.next() % uint64(end)) }

// bytes are so many.
func (m *mixer) bytes(count int) []byte {
	b := make([]byte, count)
	for i := range b {
		b[i] = byte(m.next())
	}
	return b
}

// number is one below end.
func (m *mixer) number(end *big.Int) *big.Int { return mod(of(m.bytes(48)), end) }
