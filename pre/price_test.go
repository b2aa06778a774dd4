package pre_test

import (
	"math"
	"testing"

	"quarry/api"
	"quarry/pre"
)

// P16.1: ErrArg of each number that a fork has not, some of which have such a number's lowest byte, and of what is no fork.
func TestNoContract(t *testing.T) {
	t.Parallel()
	refused := func(at, number int) {
		for _, input := range [][]byte{nil, {1, 2, 3}, make([]byte, 192), make([]byte, 213)} {
			if price, e := pre.Price(at, number, input); price != 0 || e != api.ErrArg {
				t.Fatalf("Price(%d, %d, %x): %d %v", at, number, input, price, e)
			}
			for _, gas := range []uint64{0, 100, math.MaxUint64} {
				if out, left, ok := pre.Run(at, number, input, gas); len(out) != 0 || left != 0 || ok {
					t.Fatalf("Run(%d, %d, %x, %d): %x %d %v", at, number, input, gas, out, left, ok)
				}
			}
		}
	}
	far := []int{1 << 32, 1<<32 + 1, 1<<32 + 9, -1 << 32, math.MinInt, math.MinInt + 1, math.MaxInt}
	for at := range 16 {
		for number := -300; number < 600; number++ {
			if number < 1 || number > natives || at < firstFork(number) {
				refused(at, number)
			}
		}
		for _, number := range far {
			refused(at, number)
		}
	}
	for _, at := range append(far, -1, -2, 16, 17, 256, 255) {
		for number := -1; number <= natives+1; number++ {
			refused(at, number)
		}
	}
}

// P16.1: the price of each contract at each fork that has it, by how many bytes there are.
func TestPrices(t *testing.T) {
	t.Parallel()
	sizes := []int{0, 1, 31, 32, 33, 63, 64, 65, 95, 96, 97, 127, 128, 129, 191, 192, 193, 212, 213, 214, 383, 384, 385, 575, 576, 577, 10000, 100000}
	var m mixer = 10
	for number := 1; number <= natives; number++ {
		for at := firstFork(number); at < 16; at++ {
			for _, size := range sizes {
				for _, input := range [][]byte{make([]byte, size), m.bytes(size)} {
					if got, e := pre.Price(at, number, input); got != priceOf(at, number, input) || e != api.OK {
						t.Errorf("Price(%d, %d, %d bytes): %d %v, not %d", at, number, size, got, e, priceOf(at, number, input))
					}
				}
			}
		}
	}
}

// P16.1: some prices as the chapter's table has them.
func TestKnownPrices(t *testing.T) {
	t.Parallel()
	for _, x := range []struct {
		at, number, size int
		want             uint64
	}{
		{0, 1, 0, 3000}, {15, 1, 1000, 3000},
		{0, 2, 0, 60}, {0, 2, 1, 72}, {0, 2, 32, 72}, {0, 2, 33, 84},
		{0, 3, 0, 600}, {0, 3, 1, 720}, {15, 3, 64, 840},
		{0, 4, 0, 15}, {0, 4, 32, 18}, {0, 4, 65, 24},
		{4, 6, 128, 500}, {6, 6, 0, 500}, {7, 6, 128, 150}, {15, 6, 0, 150},
		{4, 7, 96, 40000}, {6, 7, 0, 40000}, {7, 7, 96, 6000}, {15, 7, 0, 6000},
		{4, 8, 0, 100000}, {4, 8, 191, 100000}, {4, 8, 192, 180000}, {6, 8, 400, 260000},
		{7, 8, 0, 45000}, {7, 8, 191, 45000}, {7, 8, 192, 79000}, {15, 8, 400, 113000},
		{7, 9, 213, 0}, {15, 9, 212, 0}, {15, 10, 192, 50000}, {15, 10, 0, 50000},
	} {
		if got, e := pre.Price(x.at, x.number, make([]byte, x.size)); got != x.want || e != api.OK {
			t.Errorf("Price(%d, %d, %d zeros): %d %v, not %d", x.at, x.number, x.size, got, e, x.want)
		}
	}
}

// P16.1: the ninth's price is its rounds, of each bit, if its bytes are as many as they must be, whatever the others are.
func TestPriceOfRounds(t *testing.T) {
	t.Parallel()
	for bit := range 32 {
		for _, fill := range []byte{0, 1, 255} {
			input := make([]byte, 214)
			for i := range input {
				input[i] = fill
			}
			rounds := power2(uint(bit), 0).FillBytes(make([]byte, 4))
			copy(input, rounds)
			for size, want := range map[int]uint64{3: 0, 4: 0, 212: 0, 213: 1 << bit, 214: 0} {
				if got, e := pre.Price(api.Istanbul, 9, input[:size]); got != want || e != api.OK {
					t.Errorf("%d bytes, %x rounds: %d %v, not %d", size, rounds, got, e, want)
				}
			}
		}
	}
}
