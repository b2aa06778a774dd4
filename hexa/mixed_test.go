package hexa_test

import (
	"encoding/hex"
	"strings"
	"testing"

	"quarry/api"
	"quarry/hash"
	"quarry/hexa"
)

// TestMixedKnown: P4.3, on the examples of EIP-55: all capitals, all small, and both.
func TestMixedKnown(t *testing.T) {
	for _, text := range []string{
		"0x52908400098527886E0F7030069857D2E4169EE7",
		"0x8617E340B3D01FA5F11F306F4090FD50E238070D",
		"0xde709f2102306220921060314715629080e2fb77",
		"0x27b1fdb04752bbc536007a920d24acb045561c26",
		"0x5aAeb6053F3E94C9b9A09f33669435E7Ef1BeAed",
		"0xfB6916095ca1df60bB79Ce92cE3Ea74c37c5d359",
		"0xdbF03B407c01E7cD3CBea99509d93f8DDDC8C6FB",
		"0xD1220A0cf47c7B9Be7A2E6BA89F429762e7b9aDb",
	} {
		for _, given := range []string{text, strings.ToLower(text), "0x" + strings.ToUpper(text[2:])} {
			a, fault := hexa.Address(given)
			checkFault(t, "Address", given, fault, none)
			if got := hexa.Mixed(a); got != text {
				t.Errorf("Mixed of %q is %q, must be %q", given, got, text)
			}
		}
	}
}

// plainMixed is Mixed as the chapter has it, by the hex digits of the hash as numbers.
func plainMixed(a api.Address) string {
	digits := hex.EncodeToString(a[:])
	sum := hash.Keccak([]byte(digits))
	text := "0x"
	for i := range digits {
		c := digits[i : i+1]
		if sum[i/2]>>(4*(1-i%2))&15 >= 8 {
			c = strings.ToUpper(c)
		}
		text += c
	}
	return text
}

// TestMixed: P4.3, P4.5.
func TestMixed(t *testing.T) {
	m := mixer(6)
	l := []api.Address{{}}
	for n := range 256 {
		var same api.Address
		for i := range same {
			same[i] = byte(n)
		}
		l = append(l, same, api.Address{19: byte(n)}, api.Address{byte(n)})
	}
	for range 2000 {
		l = append(l, api.Address(m.bytes(20)))
	}
	for _, a := range l {
		text := hexa.Mixed(a)
		if want := plainMixed(a); text != want {
			t.Fatalf("Mixed of %x is %q, must be %q", a, text, want)
		}
		b, fault := hexa.Address(text)
		if checkFault(t, "Address", text, fault, none); b != a {
			t.Fatalf("Address(Mixed(%x)) is %x", a, b)
		}
	}
}
