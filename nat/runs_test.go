package nat_test

import (
	"bytes"
	"testing"

	"quarry/nat"
)

// The chapter's table of runs, row by row, and its examples; numbers that are told are written as the table writes them.
func TestRuns(t *testing.T) {
	less, lessOK := nat.Sub([]byte{1, 0}, []byte{1})
	below, belowOK := nat.Sub([]byte{1}, []byte{2})
	nothing, nothingOK := nat.Sub([]byte{9, 9}, []byte{9, 9})
	q, r, ok := nat.DivMod([]byte{1, 0}, []byte{7})
	noQ, noR, noOK := nat.DivMod([]byte{5}, []byte{0, 0})
	for _, c := range []struct {
		call      string
		got, want []byte
	}{
		{"Trim(0 0 1 0)", nat.Trim([]byte{0, 0, 1, 0}), []byte{1, 0}},
		{"Trim(0)", nat.Trim([]byte{0}), nil},
		{"Add(255, 1)", nat.Add([]byte{255}, []byte{1}), []byte{1, 0}},
		{"Sub(1 0, 1)", less, []byte{255}},
		{"Sub(1, 2)", below, nil},
		{"Sub(a, a)", nothing, nil},
		{"Mul(255, 255)", nat.Mul([]byte{255}, []byte{255}), []byte{254, 1}},
		{"DivMod(1 0, 7)", q, []byte{36}},
		{"DivMod(1 0, 7), what is left", r, []byte{4}},
		{"DivMod(5, 0 0)", noQ, nil},
		{"DivMod(5, 0 0), what is left", noR, nil},
		{"ModExp(3, 5, 7)", nat.ModExp([]byte{3}, []byte{5}, []byte{7}), []byte{5}},
		{"ModExp(0, 0, 5)", nat.ModExp([]byte{0}, []byte{0}, []byte{5}), []byte{1}},
		{"ModExp(9, 9, 1)", nat.ModExp([]byte{9}, []byte{9}, []byte{1}), nil},
		{"ModExp(2, 1 0, 0)", nat.ModExp([]byte{2}, []byte{1, 0}, []byte{0}), nil},
		{"ModExp(2, none, 3)", nat.ModExp([]byte{2}, nil, []byte{3}), []byte{1}},
		{"ModExp(x, e, 1)", nat.ModExp(mixed(30), mixed(5), []byte{1}), nil},
	} {
		if !bytes.Equal(c.got, c.want) {
			t.Errorf("%s is %x, must be %x", c.call, c.got, c.want)
		}
	}
	if !lessOK || belowOK || !nothingOK || !ok || noOK {
		t.Error("the oks of Sub(1 0, 1), Sub(1, 2), Sub(a, a), DivMod(1 0, 7), DivMod(5, 0 0):", lessOK, belowOK, nothingOK, ok, noOK)
	}
	if nat.Cmp([]byte{0, 5}, []byte{5}) != 0 || nat.Bits([]byte{0, 1, 0}) != 9 || nat.Bit([]byte{2}, 1) != 1 || nat.Bit([]byte{2}, 900) != 0 {
		t.Error("Cmp(0 5, 5), Bits(0 1 0), Bit(2, 1), Bit(2, 900)")
	}
}

func TestRunsOfFill(t *testing.T) {
	for _, c := range []struct {
		a    []byte
		wide int
		want []byte
		ok   bool
	}{{[]byte{1}, 3, []byte{0, 0, 1}, true}, {[]byte{1, 0}, 1, nil, false}, {nil, 0, nil, true}, {[]byte{0, 0, 5}, 1, []byte{5}, true}} {
		if b, ok := nat.Fill(c.a, c.wide); !bytes.Equal(b, c.want) || ok != c.ok {
			t.Errorf("Fill(%x, %d): %x, %v", c.a, c.wide, b, ok)
		}
	}
}
