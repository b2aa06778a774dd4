package hexa_test

import (
	"bytes"
	"slices"
	"strings"
	"testing"

	"quarry/api"
	"quarry/hexa"
)

// The chapter's table of runs: P4.1, Bytes.
func TestRunsBytes(t *testing.T) {
	for _, c := range []struct {
		text  string
		want  []byte
		fault api.Fault
	}{
		{"0x", nil, none},
		{"0x00fF", []byte{0, 255}, none},
		{"", nil, form(0)},
		{"0", nil, form(1)},
		{"1x", nil, form(0)},
		{"0X", nil, form(1)},
		{"0x0", nil, form(3)},
		{"0x0g", nil, form(3)},
		{"0xé0", nil, form(2)},
		{"0x00é", nil, form(4)},
		{"0x\xff0", nil, form(2)}, // the chapter's example 1
	} {
		b, fault := hexa.Bytes(c.text)
		checkFault(t, "Bytes", c.text, fault, c.fault)
		if !bytes.Equal(b, c.want) {
			t.Errorf("Bytes(%+q) is %x, must be %x", c.text, b, c.want)
		}
	}
}

// The table: P4.2, Number.
func TestRunsNumber(t *testing.T) {
	for _, c := range []struct {
		text  string
		want  api.Word
		fault api.Fault
	}{
		{"0x0", api.Word{}, none},
		{"0x1f", api.Word{31}, none},
		{"0x", api.Word{}, form(2)},
		{"0x00", api.Word{}, form(3)},
		{"0x01", api.Word{}, form(3)},
		{"0x" + strings.Repeat("f", 64), api.Word{1<<64 - 1, 1<<64 - 1, 1<<64 - 1, 1<<64 - 1}, none},
		{"0x" + strings.Repeat("f", 65), api.Word{}, far(66)},
		{"1", api.Word{}, form(0)},
	} {
		a, fault := hexa.Number(c.text)
		checkFault(t, "Number", c.text, fault, c.fault)
		if a != c.want {
			t.Errorf("Number(%+q) is %x, must be %x", c.text, a, c.want)
		}
	}
}

// The rest of the table: P4.1 to P4.4.
func TestRuns(t *testing.T) {
	if got := hexa.Quantity(api.Word{255}); got != "0xff" {
		t.Errorf("Quantity(255) is %q", got)
	}
	if got := hexa.Decimal(api.Word{0, 1}); got != "18446744073709551616" {
		t.Errorf("Decimal(2^64) is %q", got)
	}
	if got := hexa.Text(nil); got != "0x" {
		t.Errorf("Text of none is %q", got)
	}
	a, fault := hexa.Address("0x00")
	if checkFault(t, "Address", "0x00", fault, length); a != (api.Address{}) {
		t.Errorf("Address of one byte is %x", a)
	}
	a, fault = hexa.Address("0x5aaeb6053f3e94c9b9a09f33669435e7ef1beaed")
	checkFault(t, "Address", "0x5aae..", fault, none)
	if got := hexa.Mixed(a); got != "0x5aAeb6053F3E94C9b9A09f33669435E7Ef1BeAed" {
		t.Errorf("Mixed of %x is %q", a, got)
	}
	if got := hexa.Fields(" a  b\tc\u00a0d\n"); !slices.Equal(got, []string{"a", "b", "c", "d"}) {
		t.Errorf("Fields is %q", got)
	}
	if got := hexa.Fields(" \t\n\v\f\r\u0085\u00a0"); len(got) != 0 { // the chapter's example 2
		t.Errorf("Fields of white space is %q", got)
	}
}
