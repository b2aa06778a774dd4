package pre_test

import (
	"bytes"
	"math"
	"math/big"
	"testing"

	"quarry/api"
	"quarry/pre"
)

// lengths are those of base, exponent and modulus, as the fifth's input begins.
func lengths(b, e, m *big.Int) []byte { return join(wide(b), wide(e), wide(m)) }

// asked is an input of the fifth, whose lengths are those of the three.
func asked(base, exponent, modulus []byte) []byte {
	sizes := lengths(n(int64(len(base))), n(int64(len(exponent))), n(int64(len(modulus))))
	return join(sizes, base, exponent, modulus)
}

// example is EIP-198's: 3 to the power p - 1 modulo Secp's p.
func example() []byte {
	p := secp().p
	return asked([]byte{3}, wide(minus(p, n(1))), wide(p))
}

// raise holds the fifth against math/big.
func raise(t *testing.T, input []byte, what ...any) {
	t.Helper()
	must(t, 5, input, powerOf(input).out(), what...)
}

// P16.3: powers that others tell, and what they cost.
func TestKnownPowers(t *testing.T) {
	t.Parallel()
	p := secp().p
	must(t, 5, example(), wide(n(1)), "Fermat's")
	must(t, 5, asked(nil, wide(minus(p, n(1))), wide(p)), wide(n(0)), "of 0")
	short := join(lengths(n(1), n(2), n(32)), []byte{3, 0xff, 0xff, 0x80})
	must(t, 5, short, wide(new(big.Int).Exp(n(3), n(0xffff), power2(255, 0))), "a modulus of one byte, and zeros behind it")
	for _, x := range []struct {
		size         int
		exponent     []byte
		first, later uint64
	}{
		{64, []byte{2}, 204, 200}, {64, []byte{3}, 204, 200}, {64, []byte{1, 0, 1}, 3276, 341},
		{128, []byte{2}, 665, 200}, {128, []byte{3}, 665, 200}, {128, []byte{1, 0, 1}, 10649, 1365},
		{256, []byte{2}, 1894, 341}, {256, []byte{1, 0, 1}, 30310, 5461},
		{512, []byte{2}, 5580, 1365}, {512, []byte{1, 0, 1}, 89292, 21845},
		{1024, []byte{2}, 17868, 5461}, {1024, []byte{1, 0, 1}, 285900, 87381},
	} {
		var m mixer = mixer(x.size)
		input := asked(m.bytes(x.size), x.exponent, m.bytes(x.size))
		first, _ := pre.Price(api.Byzantium, 5, input)
		later, _ := pre.Price(api.Berlin, 5, input)
		if first != x.first || later != x.later {
			t.Errorf("%d bytes to the power %x: %d, %d, not %d, %d", x.size, x.exponent, first, later, x.first, x.later)
		}
		raise(t, input, x.size)
	}
}

// P16.3: powers of small numbers, with zeros ahead and without, 0 and 1 among them, of each length from none on.
func TestSmallPowers(t *testing.T) {
	t.Parallel()
	l := [][]byte{{}, {0}, {1}, {2}, {3}, {7}, {255}, {0, 0}, {0, 1}, {0, 5}, {1, 0}, {255, 255}, {0, 0, 0, 9}}
	for _, base := range l {
		for _, exponent := range l {
			for _, modulus := range l {
				raise(t, asked(base, exponent, modulus))
			}
		}
	}
}

// P16.3: powers of longer numbers, about the ends of what f(x) and h count, with moduli that are even and odd.
func TestLongPowers(t *testing.T) {
	t.Parallel()
	var m mixer = 1
	sizes := []int{0, 1, 8, 31, 32, 33, 63, 64, 65, 100}
	for _, b := range sizes {
		for _, e := range sizes[:7] {
			for _, size := range sizes {
				modulus := m.bytes(size)
				if size > 0 {
					modulus[size-1] &^= byte(b % 2)
				}
				raise(t, asked(m.bytes(b), m.bytes(e), modulus), b, e, size)
			}
		}
	}
	for _, size := range []int{1023, 1024, 1025, 3000} {
		raise(t, asked(m.bytes(size), []byte{1, 1}, m.bytes(size/2)), size)
		raise(t, asked(m.bytes(size/3), []byte{3}, m.bytes(size)), size)
	}
}

// P16.3: an answer has M bytes, be these more than a number of nat may be filled to.
func TestLongAnswers(t *testing.T) {
	t.Parallel()
	for _, size := range []int{65535, 65536, 65537, 70000} {
		raise(t, asked([]byte{5}, []byte{2}, append(make([]byte, size-2), 1, 0)), size)
		raise(t, asked([]byte{5}, []byte{2}, append(make([]byte, size-1), 1)), "modulo 1", size)
		raise(t, join(lengths(n(1), n(1), n(int64(size))), []byte{9, 3}), "modulo 0", size)
	}
	var m mixer = 2
	input := asked(m.bytes(3), []byte{1}, m.bytes(65537))
	ran(t, api.Berlin, 5, input, priceOf(api.Berlin, 5, input), powerOf(input).out(), "a modulus without zeros")
}

// P16.3: zeros stand behind an input, wherever it ends, and what is behind its numbers does not count.
func TestCutPowers(t *testing.T) {
	t.Parallel()
	var m mixer = 3
	for _, x := range [][3]int{{3, 4, 5}, {1, 40, 2}, {40, 1, 33}, {0, 33, 1}, {0, 0, 8}} {
		whole := asked(m.bytes(x[0]), m.bytes(x[1]), m.bytes(x[2]))
		for end := 64; end <= len(whole); end++ {
			if r := powerOf(whole[:end]); r.m.Cmp(n(1_000_000)) > 0 {
				continue // more bytes than are to be told in a test
			}
			raise(t, whole[:end], x, end)
		}
		must(t, 5, join(whole, m.bytes(50)), powerOf(whole).out(), "more behind it", x)
	}
	for end := 1; end <= 96; end++ { // where the lengths themselves end
		raise(t, lengths(n(5), n(7), n(9))[:end], end)
		checkFar(t, append(make([]byte, end-1), 1))
		checkFar(t, append(make([]byte, end-1), 128))
	}
}

// far are lengths about the ends of words, of what memory holds, and of numbers of 64 bits.
func far() []*big.Int {
	l := []*big.Int{n(0), n(1), n(32), n(33), n(1025)}
	for _, bits := range []uint{31, 32, 33, 34, 36, 63, 64} {
		l = append(l, power2(bits, -1), power2(bits, 0), power2(bits, 1))
	}
	return append(l, power2(128, 0), power2(255, 0), power2(256, -97), power2(256, -33), power2(256, -1))
}

// P16.3: prices of lengths beyond all inputs, and what can still be told.
func TestFarLengths(t *testing.T) {
	t.Parallel()
	for _, b := range far() {
		for _, e := range far() {
			for _, m := range far() {
				for _, tail := range [][]byte{nil, {1}, bytes.Repeat([]byte{255}, 200)} {
					checkFar(t, join(lengths(b, e, m), tail))
				}
			}
		}
	}
}

// checkFar looks at a price at both ends of Berlin, and at the answer of a modulus that is short, or at its price beyond all gas.
func checkFar(t *testing.T, input []byte) {
	t.Helper()
	r := powerOf(input)
	for _, at := range []int{api.Muir, api.Berlin} {
		price := r.price(at)
		if got, e := pre.Price(at, 5, input); got != price || e != api.OK {
			t.Fatalf("Price(%d, 5, %x): %d %v, not %d", at, input, got, e, price)
		}
		switch {
		case price == math.MaxUint64:
			ran(t, at, 5, input, math.MaxUint64, fails)
		case r.m.Cmp(n(2000)) < 0:
			ran(t, at, 5, input, price, r.out())
			ran(t, at, 5, input, math.MaxUint64, r.out())
		}
	}
}

// P16.1, P16.3: prices about 2^64 - 1, which is told of all that are as much or more.
func TestGreatestPrice(t *testing.T) {
	t.Parallel()
	limit := power2(64, -1)
	found := 0
	for _, at := range []int{api.Muir, api.Berlin} {
		for e := int64(0); e < 300; e++ { // x is the greatest whose price still fits, and one more
			low, high := n(0), power2(40, 0)
			for minus(high, low).Cmp(n(1)) > 0 {
				middle := over(plus(low, high), 2)
				if r := powerOf(lengths(middle, n(32+e), n(0))); r.price(at) == math.MaxUint64 {
					high = middle
				} else {
					low = middle
				}
			}
			for _, x := range []*big.Int{low, high} {
				input := lengths(x, n(32+e), n(0))
				want := powerOf(input).price(at)
				if got, _ := pre.Price(at, 5, input); got != want {
					t.Fatalf("Price(%d, 5, %x): %d, not %d", at, input, got, want)
				}
				if want > limit.Uint64()-1<<34 && want < limit.Uint64() {
					found++
					ran(t, at, 5, input, want, none)
					ran(t, at, 5, input, want-1, fails)
				}
			}
			ran(t, at, 5, lengths(high, n(32+e), n(0)), math.MaxUint64, fails)
		}
	}
	if found == 0 {
		t.Error("no price is near the greatest")
	}
}

// P16.1: a price that is just 2^64 - 1 is more than any gas, though it fits.
func TestPriceJustAtTheEnd(t *testing.T) {
	t.Parallel()
	// From Berlin on: of B 1 the price is the bits by 3, so 8 (E - 32) = 3 (2^64 - 1) + 1 or 2 is asked: 3 * 2^64 - 3 is 5 modulo 8, so three bits more come from h.
	e := plus(over(minus(times(n(3), power2(64, -1)), n(5)), 8), n(32))
	head := sized([]byte{0}, 32)
	for bits := range 12 {
		head = wide(power2(uint(bits), 0))
		input := join(lengths(n(1), e, n(0)), []byte{0}, head)
		want := powerOf(input).price(api.Berlin)
		if got, _ := pre.Price(api.Berlin, 5, input); got != want {
			t.Errorf("%d bits: %d, not %d", bits, got, want)
		}
		if (want == math.MaxUint64) != (bits >= 5) {
			t.Errorf("%d bits: the price is %d", bits, want)
		}
		ran(t, api.Berlin, 5, input, math.MaxUint64, none, bits)
	}
}

// P16.3: each bit of h, at each length of the exponent, and h of 0.
func TestExponentBits(t *testing.T) {
	t.Parallel()
	for _, e := range []int{0, 1, 2, 31, 32, 33, 34, 64, 100} {
		for bit := -1; bit < 8*e; bit++ {
			exponent := make([]byte, e)
			if bit >= 0 {
				exponent = power2(uint(bit), 0).FillBytes(exponent)
			}
			for _, base := range [][]byte{nil, {7}, make([]byte, 30)} {
				for _, m := range [][]byte{nil, {0}, make([]byte, 100)} {
					input := asked(base, exponent, m)
					must(t, 5, input, make([]byte, len(m)), e, bit)
				}
			}
		}
	}
}

// R1, R7: an answer of more bytes than any may have is not told; the call ends all the same.
func TestBeyondTheBound(t *testing.T) {
	t.Parallel()
	for _, bits := range []uint{31, 32, 35} {
		for _, at := range []int{api.Byzantium, api.Cancun} {
			if out, left, ok := pre.Run(at, 5, lengths(n(0), n(0), power2(bits, 0)), math.MaxUint64); ok || left != 0 || len(out) != 0 {
				t.Errorf("2^%d bytes: %d bytes, %d %v", bits, len(out), left, ok)
			}
		}
	}
}
