package pre_test

import (
	"bytes"
	"math"
	"testing"

	"quarry/api"
	"quarry/pre"
)

// The chapter's table of runs, row by row, and its examples.

func TestRunsOfPrice(t *testing.T) {
	t.Parallel()
	for _, x := range []struct {
		at, number int
		input      []byte
		want       uint64
		e          api.Errno
	}{
		{0, 5, nil, 0, api.ErrArg},
		{4, 11, nil, 0, api.ErrArg},
		{0, 2, make([]byte, 33), 84, api.OK},
		{api.Byzantium, 5, example(), 13056, api.OK},
		{api.Istanbul, 5, example(), 13056, api.OK},
		{api.Berlin, 5, example(), 1360, api.OK},
		{api.Cancun, 5, example(), 1360, api.OK},
		{api.Byzantium, 5, lengths(power2(255, 0), n(1), n(0)), math.MaxUint64, api.OK},
		{api.Berlin, 5, lengths(power2(255, 0), n(1), n(0)), math.MaxUint64, api.OK},
	} {
		if got, e := pre.Price(x.at, x.number, x.input); got != x.want || e != x.e {
			t.Errorf("Price(%d, %d, %x): %d %v, not %d %v", x.at, x.number, x.input, got, e, x.want, x.e)
		}
	}
}

func TestRunsOfRun(t *testing.T) {
	t.Parallel()
	abc := []byte("abc")
	one := append(make([]byte, 31), 1)
	for _, x := range []struct {
		at, number int
		input      []byte
		gas        uint64
		out        []byte
		left       uint64
		ok         bool
	}{
		{0, 4, abc, 18, abc, 0, true},
		{0, 4, abc, 17, nil, 0, false},
		{0, 4, abc, 20, abc, 2, true},
		{0, 1, nil, 3000, nil, 0, true},
		{api.Byzantium, 6, nil, 500, make([]byte, 64), 0, true},
		{api.Byzantium, 6, bytes.Repeat([]byte{1}, 64), 500, nil, 0, false},
		{api.Byzantium, 8, nil, 100000, one, 0, true},
		{api.Byzantium, 8, make([]byte, 191), 100000, nil, 0, false},
		{api.Istanbul, 9, make([]byte, 212), 0, nil, 0, false},
		{api.Istanbul, 9, make([]byte, 212), 1000, nil, 0, false},
		{api.Istanbul, 9, make([]byte, 212), math.MaxUint64, nil, 0, false},
		{api.Cancun, 10, make([]byte, 192), 50000, nil, 0, false},
	} {
		out, left, ok := pre.Run(x.at, x.number, x.input, x.gas)
		if !bytes.Equal(out, x.out) || left != x.left || ok != x.ok {
			t.Errorf("Run(%d, %d, %x, %d): %x %d %v, not %x %d %v", x.at, x.number, x.input, x.gas, out, left, ok, x.out, x.left, x.ok)
		}
	}
}

// The chapter's examples: the fifth with M 0 tells no bytes; a point that is not on the curve costs all gas.
func TestExamples(t *testing.T) {
	t.Parallel()
	out, left, ok := pre.Run(api.Byzantium, 5, join(lengths(n(1), n(1), n(0)), []byte{3, 2}), 100)
	if len(out) != 0 || left != 100 || !ok {
		t.Errorf("M 0: %x %d %v", out, left, ok)
	}
	off := join(wide(n(1)), wide(n(3)))
	for _, number := range []int{6, 7} {
		if out, left, ok := pre.Run(api.Byzantium, number, off, 1_000_000); len(out) != 0 || left != 0 || ok {
			t.Errorf("%d of a point that is not on the curve: %x %d %v", number, out, left, ok)
		}
	}
}
