package pre_test

import (
	"bytes"
	"math"
	"reflect"
	"testing"

	"quarry/api"
	"quarry/hash"
	"quarry/pre"
)

// taken are inputs of each contract, by its number, each of which it tells bytes of.
func taken(t *testing.T) map[int][][]byte {
	t.Helper()
	var m mixer = 40
	return map[int][][]byte{
		1:  {signed(t, hash.Keccak(nil), 3, 4), join(signed(t, hash.Keccak(nil), 3, 4), m.bytes(9))},
		2:  {nil, m.bytes(100)},
		3:  {nil, m.bytes(100)},
		4:  {m.bytes(1), m.bytes(31), m.bytes(32), m.bytes(100)},
		5:  {example(), asked(m.bytes(5), m.bytes(5), m.bytes(5)), lengths(n(1), n(1), n(7)), join(lengths(n(0), n(0), n(32)), m.bytes(32))},
		6:  {nil, join(bnG().bytes(), bnG().bytes()), join(bnG().bytes(), make([]byte, 64))},
		7:  {nil, join(bnG().bytes(), wide(n(7)))},
		8:  {nil, pairs(t, n(1), n(1)), pairs(t, n(1), n(1), n(-1), n(1))},
		9:  {abc(3, 0), abc(3, 1)},
		10: {claim(t, n(1), n(0), n(5), n(5))},
	}
}

// inRoom is b with bytes ahead of it and spare room behind it, and the whole of that.
func inRoom(b []byte) (piece, whole []byte) {
	whole = join([]byte{1, 2, 3, 4, 5}, b, bytes.Repeat([]byte{0xb7}, 300))
	return whole[5 : 5+len(b)], whole
}

// span is where a list stands in memory, its spare room too.
func span(b []byte) (from, end uintptr) {
	from = reflect.ValueOf(b).Pointer()
	return from, from + uintptr(cap(b))
}

// shared: do two lists share memory?
func shared(a, b []byte) bool {
	aFrom, aEnd := span(a)
	bFrom, bEnd := span(b)
	return aFrom < bEnd && bFrom < aEnd
}

// R2: what is handed in, its spare room and what stands about it are not changed and not kept, and answers are new memory.
func TestMemory(t *testing.T) {
	t.Parallel()
	for number, inputs := range taken(t) {
		for _, input := range inputs {
			piece, whole := inRoom(input)
			was := bytes.Clone(whole)
			run := func() []byte {
				if _, e := pre.Price(api.Cancun, number, piece); e != api.OK {
					t.Fatal(number, e)
				}
				out, _, ok := pre.Run(api.Cancun, number, piece, 1_000_000)
				if !ok || len(out) == 0 {
					t.Fatalf("%d of %x: %x %v", number, input, out, ok)
				}
				return out
			}
			one, two := run(), run()
			if shared(one, two) || shared(one, whole) || shared(two, whole) {
				t.Errorf("%d of %x: memory is shared", number, input)
			}
			want := bytes.Clone(two)
			clear(one[:cap(one)])
			if !bytes.Equal(two, want) || !bytes.Equal(run(), want) {
				t.Errorf("%d of %x: what became of an answer is seen in another", number, input)
			}
			if !bytes.Equal(whole, was) {
				t.Errorf("%d of %x: what was handed in has changed", number, input)
			}
			clear(whole)
			if !bytes.Equal(two, want) {
				t.Errorf("%d of %x: what became of the input is seen in an answer", number, input)
			}
		}
	}
}

// R2: nil and empty inputs are one.
func TestNilAndEmpty(t *testing.T) {
	t.Parallel()
	for number := 1; number <= natives; number++ {
		price, e := pre.Price(api.Cancun, number, nil)
		price2, e2 := pre.Price(api.Cancun, number, []byte{})
		if price != price2 || e != e2 {
			t.Errorf("the price of %d: %d %v, %d %v", number, price, e, price2, e2)
		}
		out, left, ok := pre.Run(api.Cancun, number, nil, 1_000_000)
		out2, left2, ok2 := pre.Run(api.Cancun, number, []byte{}, 1_000_000)
		if !bytes.Equal(out, out2) || left != left2 || ok != ok2 {
			t.Errorf("%d: %x %d %v, %x %d %v", number, out, left, ok, out2, left2, ok2)
		}
	}
}

// P16.4: Run with gas one less than Price is false, with as much it tells; Price hangs on the input alone; what is told is the same at all forks.
func TestGas(t *testing.T) {
	t.Parallel()
	for number, inputs := range taken(t) {
		for _, input := range inputs {
			want, _, _ := pre.Run(api.Cancun, number, input, math.MaxUint64)
			for at := firstFork(number); at < 16; at++ {
				price, e := pre.Price(at, number, bytes.Clone(input))
				again, _ := pre.Price(at, number, input)
				if e != api.OK || price != again {
					t.Errorf("Price(%d, %d, %x): %d %v, %d", at, number, input, price, e, again)
				}
				for _, more := range []uint64{0, 1, 1000, math.MaxUint64 - price} {
					out, left, ok := pre.Run(at, number, input, price+more)
					if !bytes.Equal(out, want) || left != more || !ok {
						t.Errorf("Run(%d, %d, %x) with %d more: %x %d %v, not %x", at, number, input, more, out, left, ok, want)
					}
				}
				if price == 0 {
					continue
				}
				for _, gas := range []uint64{price - 1, price / 2, 0} {
					if out, left, ok := pre.Run(at, number, input, gas); len(out) != 0 || left != 0 || ok {
						t.Errorf("Run(%d, %d, %x, %d): %x %d %v", at, number, input, gas, out, left, ok)
					}
				}
			}
		}
	}
}

// R1, R3: calls end, whatever they are given: any bytes, at any fork, and right inputs with some bytes changed.
func TestAnything(t *testing.T) {
	t.Parallel()
	var m mixer = 41
	right := taken(t)
	for range 3000 {
		number, at := m.below(natives+3)-1, m.below(18)-1
		input := m.bytes(m.below(450))
		if l := right[number]; len(l) > 0 && m.below(3) > 0 {
			input = bytes.Clone(l[m.below(len(l))])
			for range m.below(4) {
				if len(input) > 0 {
					input[m.below(len(input))] = byte(m.next())
				}
			}
			input = input[:m.below(len(input)+1)]
		}
		price, e := pre.Price(at, number, input)
		gas := uint64(m.below(1_000_000))
		out, left, ok := pre.Run(at, number, input, gas)
		there := number >= 1 && number <= natives && at >= firstFork(max(number, 1)) && at < 16
		if there && (e != api.OK || price != priceOf(at, number, input)) || !there && (e != api.ErrArg || price != 0) {
			t.Fatalf("Price(%d, %d, %x): %d %v", at, number, input, price, e)
		}
		if ok && (e != api.OK || left != gas-price || price > gas) || !ok && (left != 0 || len(out) != 0) {
			t.Fatalf("Run(%d, %d, %x, %d): %x %d %v", at, number, input, gas, out, left, ok)
		}
	}
}
