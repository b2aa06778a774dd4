package hexa_test

import (
	"bytes"
	"encoding/hex"
	"strings"
	"testing"
	"unicode/utf8"

	"quarry/api"
	"quarry/hexa"
)

// plainBytes is Bytes as the chapter has it, over the whole row of runes.
func plainBytes(text string) ([]byte, api.Fault) {
	runes := []rune(text)
	for at, r := range runes {
		if at == 0 && r != '0' || at == 1 && r != 'x' || at > 1 && !isDigit(r) {
			return nil, form(at)
		}
	}
	if len(runes) < 2 || len(runes)%2 == 1 {
		return nil, form(len(runes))
	}
	b, err := hex.DecodeString(text[2:])
	if err != nil {
		panic(err)
	}
	return b, none
}

// checkBytes holds Bytes against plainBytes.
func checkBytes(t *testing.T, text string) {
	t.Helper()
	got, fault := hexa.Bytes(text)
	want, wrong := plainBytes(text)
	checkFault(t, "Bytes", text, fault, wrong)
	if !bytes.Equal(got, want) {
		t.Fatalf("Bytes(%+q) is %x, must be %x", text, got, want)
	}
}

// TestBytes: P4.1: each short text of odd pieces, behind 0x and alone.
func TestBytes(t *testing.T) {
	texts(4, odd(), func(text string) {
		checkBytes(t, text)
		checkBytes(t, "0x"+text)
		checkBytes(t, "0x7"+text)
	})
}

// TestBytesDigits: P4.1: each pair of digits, each number of digits, and a wrong rune at each place.
func TestBytesDigits(t *testing.T) {
	for _, a := range hexDigits {
		for _, b := range hexDigits {
			checkBytes(t, "0x"+string(a)+string(b))
		}
	}
	m := mixer(1)
	all := "0x" + hex.EncodeToString(m.bytes(100))
	for n := range all {
		checkBytes(t, all[:n])
		for _, piece := range odd() {
			checkBytes(t, all[:n]+piece)
			checkBytes(t, all[:n]+piece+all[n:])
		}
	}
	checkBytes(t, "0x"+hex.EncodeToString(m.bytes(200000)))
	checkBytes(t, "0x"+strings.Repeat("00", 200000)+"0")
}

// TestRunes: P4.1, P4.2: each rune that there is as a digit, and the lower ones at the first and the second place, too: no more than 22 are digits.
func TestRunes(t *testing.T) {
	for r := rune(0); r <= utf8.MaxRune; r++ {
		text := string(r)
		checkBytes(t, "0x0"+text)
		checkNumber(t, "0x8"+text)
		if r >= 0x1000 {
			continue
		}
		checkBytes(t, text)
		checkBytes(t, "0"+text)
		checkBytes(t, "0x00"+text+"0")
		checkNumber(t, text)
		checkNumber(t, "0"+text)
		checkNumber(t, "0x"+text)
	}
}

// TestBroken: P4.1, P4.2: bytes that are part of no rune, alone and two together, and runes that break off.
func TestBroken(t *testing.T) {
	for a := range 256 {
		for b := range 256 {
			text := string([]byte{byte(a), byte(b)})
			checkBytes(t, text)
			checkBytes(t, "0x"+text)
			checkBytes(t, "0x0"+text)
			checkNumber(t, text)
			checkNumber(t, "0x"+text)
		}
	}
	for _, text := range []string{"0x\xf0\x9d\x9f", "0x1\xed\xa0\x80", "\xc0\xb0x00", "0\xc1\xb800", "0x\xc0\xb00"} { // some would be digits, if they were not written too long
		checkBytes(t, text)
		checkNumber(t, text)
	}
}

// TestText: P4.1: each byte, and rows of each length; P4.5: what is written is read again.
func TestText(t *testing.T) {
	check := func(b []byte) {
		t.Helper()
		text := hexa.Text(b)
		if want := "0x" + hex.EncodeToString(b); text != want {
			t.Fatalf("Text of %x is %q, must be %q", b, text, want)
		}
		got, fault := hexa.Bytes(text)
		if checkFault(t, "Bytes", text, fault, none); !bytes.Equal(got, b) {
			t.Fatalf("Bytes(Text(%x)) is %x", b, got)
		}
	}
	m := mixer(2)
	for n := range 256 {
		check([]byte{byte(n)})
		check(m.bytes(n))
		check(make([]byte, n))
	}
	check(m.bytes(200000))
}

// TestExact: P4.3: each number of bytes, as an address and as a hash; letters in any case.
func TestExact(t *testing.T) {
	m := mixer(3)
	for n := range 80 {
		b := m.bytes(n)
		small := hexa.Text(b)
		for _, text := range []string{small, "0x" + strings.ToUpper(small[2:])} {
			a, fault := hexa.Address(text)
			switch {
			case n == 20:
				if checkFault(t, "Address", text, fault, none); !bytes.Equal(a[:], b) {
					t.Errorf("Address(%q) is %x", text, a)
				}
			case fault != length || a != (api.Address{}):
				t.Errorf("Address(%q) is %x, %v", text, a, fault)
			}
			h, fault := hexa.Hash(text)
			switch {
			case n == 32:
				if checkFault(t, "Hash", text, fault, none); !bytes.Equal(h[:], b) {
					t.Errorf("Hash(%q) is %x", text, h)
				}
			case fault != length || h != (api.Hash{}):
				t.Errorf("Hash(%q) is %x, %v", text, h, fault)
			}
		}
	}
}

// TestExactForm: P4.3: what Bytes refuses, Address and Hash refuse alike, ahead of the length; a wrong rune may be the last of many.
func TestExactForm(t *testing.T) {
	check := func(text string) {
		t.Helper()
		_, want := plainBytes(text)
		if want == none {
			return
		}
		a, fault := hexa.Address(text)
		if checkFault(t, "Address", text, fault, want); a != (api.Address{}) {
			t.Fatalf("Address(%+q) is %x", text, a)
		}
		h, fault := hexa.Hash(text)
		if checkFault(t, "Hash", text, fault, want); h != (api.Hash{}) {
			t.Fatalf("Hash(%+q) is %x", text, h)
		}
	}
	texts(3, odd(), check)
	all := "0x" + strings.Repeat("1a", 40)
	for n := range all {
		for _, piece := range odd() {
			check(all[:n] + piece)
			check(all[:n] + piece + all[n:])
		}
	}
}
