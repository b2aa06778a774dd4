package hexa_test

import (
	"math/big"
	"strings"
	"testing"

	"quarry/api"
	"quarry/hexa"
)

// plainNumber is Number as the chapter has it, over the whole row of runes.
func plainNumber(text string) (api.Word, api.Fault) {
	runes := []rune(text)
	for at, r := range runes {
		switch {
		case at == 0 && r != '0', at == 1 && r != 'x', at > 1 && !isDigit(r):
			return api.Word{}, form(at)
		case at == 3 && runes[2] == '0':
			return api.Word{}, form(at)
		case at == 66:
			return api.Word{}, far(at)
		}
	}
	if len(runes) < 3 {
		return api.Word{}, form(len(runes))
	}
	n, ok := new(big.Int).SetString(text[2:], 16)
	if !ok {
		panic(text)
	}
	return toWord(n), none
}

// checkNumber holds Number against plainNumber.
func checkNumber(t *testing.T, text string) {
	t.Helper()
	got, fault := hexa.Number(text)
	want, wrong := plainNumber(text)
	checkFault(t, "Number", text, fault, wrong)
	if got != want {
		t.Fatalf("Number(%+q) is %x, must be %x", text, got, want)
	}
}

// TestNumber: P4.2: each short text of odd pieces, behind 0x and alone.
func TestNumber(t *testing.T) {
	texts(4, odd(), func(text string) {
		checkNumber(t, text)
		checkNumber(t, "0x"+text)
		checkNumber(t, "0x5"+text)
	})
}

// TestNumberDigits: P4.2: numbers of each length in capitals and small letters, with zeros ahead, and with digits too many.
func TestNumberDigits(t *testing.T) {
	for _, n := range numbers() {
		digits := n.Text(16)
		checkNumber(t, "0x"+digits)
		checkNumber(t, "0x"+strings.ToUpper(digits))
		checkNumber(t, "0x0"+digits)
		checkNumber(t, "0x"+strings.Repeat("0", 64-len(digits)+1)+digits)
		checkNumber(t, "0x"+digits+strings.Repeat("0", 65-len(digits)))
		checkNumber(t, "0x"+digits+strings.Repeat("a", 64-len(digits)))
		checkNumber(t, digits)
	}
	for n := 60; n < 200; n++ {
		checkNumber(t, "0x"+strings.Repeat("1", n))
		checkNumber(t, "0x"+strings.Repeat("0", n))
	}
}

// TestNumberFirst: P4.2: of two faults the one that stands first is told, whatever it is: a wrong rune ahead of the sixty-fifth digit, and none behind it.
func TestNumberFirst(t *testing.T) {
	all := "0x" + strings.Repeat("c", 100)
	for n := range all {
		for _, piece := range odd() {
			checkNumber(t, all[:n]+piece)
			checkNumber(t, all[:n]+piece+all[n:])
		}
	}
	for text, want := range map[string]api.Fault{
		all[:65] + "g":                form(65),
		all[:65] + "g" + all:          form(65),
		all[:66] + "g":                form(66),
		all[:66] + "g" + all:          form(66),
		all[:67] + "g":                far(66),
		all[:67] + "\xff":             far(66),
		"0x0" + all[2:]:               form(3),
		"0x0g":                        form(3),
		"0x" + strings.Repeat("0", 9): form(3),
	} {
		a, fault := hexa.Number(text)
		if checkFault(t, "Number", text, fault, want); a != (api.Word{}) {
			t.Errorf("Number(%+q) is %x", text, a)
		}
	}
}

// TestQuantity, TestDecimal: P4.2, P4.5.
func TestQuantity(t *testing.T) {
	for _, n := range numbers() {
		a := toWord(n)
		text := hexa.Quantity(a)
		if want := "0x" + n.Text(16); text != want {
			t.Fatalf("Quantity is %q, must be %q", text, want)
		}
		b, fault := hexa.Number(text)
		if checkFault(t, "Number", text, fault, none); b != a {
			t.Fatalf("Number(Quantity(%x)) is %x", a, b)
		}
	}
	if got := hexa.Quantity(api.Word{}); got != "0x0" {
		t.Errorf("Quantity(0) is %q", got)
	}
}

func TestDecimal(t *testing.T) {
	for _, n := range numbers() {
		if got, want := hexa.Decimal(toWord(n)), n.String(); got != want {
			t.Fatalf("Decimal is %q, must be %q", got, want)
		}
	}
	if got := hexa.Decimal(api.Word{}); got != "0" {
		t.Errorf("Decimal(0) is %q", got)
	}
}
