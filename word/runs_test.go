package word_test

import (
	"bytes"
	"testing"

	"quarry/api"
	"quarry/word"
)

// The chapter's table of runs, row by row, and its examples.
func TestRuns(t *testing.T) {
	all, sign, x := two(256, -1), two(255, 0), two(255, 12345)
	for _, r := range []struct {
		call      string
		got, want api.Word
	}{
		{"Add(2^256 - 1, 2)", word.Add(all, num(2)), num(1)},
		{"Sub(0, 1)", word.Sub(num(0), num(1)), all},
		{"Div(7, 2)", word.Div(num(7), num(2)), num(3)},
		{"Div(7, 0)", word.Div(num(7), num(0)), num(0)},
		{"Mod(7, 0)", word.Mod(num(7), num(0)), num(0)},
		{"Sdiv(-7, 2)", word.Sdiv(num(-7), num(2)), num(-3)},
		{"Sdiv(-7, 0)", word.Sdiv(num(-7), num(0)), num(0)},
		{"Smod(-7, 2)", word.Smod(num(-7), num(2)), num(-1)},
		{"Smod(-7, 0)", word.Smod(num(-7), num(0)), num(0)},
		{"Sdiv(-2^255, -1)", word.Sdiv(sign, num(-1)), sign},
		{"Smod(-2^255, -1)", word.Smod(sign, num(-1)), num(0)},
		{"Smod(7, -2)", word.Smod(num(7), num(-2)), num(1)},
		{"Addmod(2^256 - 1, 2^256 - 1, 7)", word.Addmod(all, all, num(7)), num(2)},
		{"Mulmod(2^256 - 1, 2^256 - 1, 12)", word.Mulmod(all, all, num(12)), num(9)},
		{"Addmod(1, 2, 0)", word.Addmod(num(1), num(2), num(0)), num(0)},
		{"Mulmod(1, 2, 0)", word.Mulmod(num(1), num(2), num(0)), num(0)},
		{"Mulmod(1, 2, 1)", word.Mulmod(num(1), num(2), num(1)), num(0)},
		{"Exp(2, 255)", word.Exp(num(2), num(255)), sign},
		{"Exp(2, 256)", word.Exp(num(2), num(256)), num(0)},
		{"Exp(0, 0)", word.Exp(num(0), num(0)), num(1)},
		{"3 Exp(3, 2^256 - 1)", word.Mul(num(3), word.Exp(num(3), all)), num(1)},
		{"Signextend(0, 0x80)", word.Signextend(num(0), num(0x80)), num(-128)},
		{"Signextend(0, 0x17f)", word.Signextend(num(0), num(0x17f)), num(127)},
		{"Signextend(31, x)", word.Signextend(num(31), x), x},
		{"Signextend(2^255, x)", word.Signextend(sign, x), x},
		{"Byte(31, 0xab)", word.Byte(num(31), num(0xab)), num(0xab)},
		{"Byte(0, 2^255)", word.Byte(num(0), sign), num(0x80)},
		{"Byte(32, x)", word.Byte(num(32), x), num(0)},
		{"Byte(2^64, x)", word.Byte(two(64, 0), x), num(0)},
		{"Shl(255, 3)", word.Shl(num(255), num(3)), sign},
		{"Shr(255, 2^255)", word.Shr(num(255), sign), num(1)},
		{"Sar(255, 2^255)", word.Sar(num(255), sign), num(-1)},
		{"Sar(1, -3)", word.Sar(num(1), num(-3)), num(-2)},
		{"Sar(2^200, -1)", word.Sar(two(200, 0), num(-1)), num(-1)},
		{"Not(0)", word.Not(num(0)), all},
	} {
		if r.got != r.want {
			t.Errorf("%s is %x, must be %x", r.call, value(r.got), value(r.want))
		}
	}
}

func TestRunsInAndOut(t *testing.T) {
	if hi, lo := word.Wide(two(255, 0), num(6)); hi != num(3) || lo != num(0) {
		t.Errorf("Wide(2^255, 6) is %x, %x", hi, lo)
	}
	if word.Bits(num(0)) != 0 || word.Bits(num(255)) != 8 {
		t.Error("Bits(0), Bits(255)")
	}
	if a, ok := word.From(make([]byte, 33)); ok || a != (api.Word{}) {
		t.Error("From of 33 bytes")
	}
	if b := word.Short(num(256)); !bytes.Equal(b, []byte{1, 0}) {
		t.Errorf("Short(256) is %x", b)
	}
	if n, ok := word.Small(two(64, 0)); n != 0 || ok {
		t.Errorf("Small(2^64) is %d, %v", n, ok)
	}
	if num(-1) != (api.Word{full, full, full, full}) || word.Not(num(0)) != word.Sub(num(0), num(1)) {
		t.Error("-1 is not 2^256 - 1")
	}
	if word.Scmp(two(255, 0), num(0)) != -1 {
		t.Error("Scmp(2^255, 0)")
	}
	if len(word.Short(num(0))) != 0 {
		t.Error("Short(0) has bytes")
	}
}
