package hexa

import (
	"quarry/api"
	"quarry/word"
)

// Bytes reads bytes: 0x, and two digits for each.
func Bytes(text string) ([]byte, api.Fault) {
	b := make([]byte, 0, len(text)/2)
	n, fault := digits(text, func(place int, value byte) api.Errno {
		if place%2 == 0 {
			b = append(b, value<<4)
		} else {
			b[place/2] |= value
		}
		return api.OK
	})
	if fault.Why == api.OK && n%2 == 1 {
		fault = early(n)
	}
	if fault.Why != api.OK {
		return nil, fault
	}
	return b, fault
}

// Number reads a number: 0x, and its digits without zeros ahead.
func Number(text string) (api.Word, api.Fault) {
	var a api.Word
	n, fault := digits(text, func(place int, value byte) api.Errno {
		switch {
		case place == 1 && a == api.Word{}:
			return api.ErrForm
		case place == 64:
			return api.ErrRange
		}
		a = word.Or(word.Shl(word.Of(4), a), word.Of(uint64(value)))
		return api.OK
	})
	if fault.Why == api.OK && n == 0 {
		fault = early(n)
	}
	if fault.Why != api.OK {
		return api.Word{}, fault
	}
	return a, fault
}

// Address reads an address.
func Address(text string) (api.Address, api.Fault) {
	var a api.Address
	fault := fill(a[:], text)
	return a, fault
}

// Hash reads a hash.
func Hash(text string) (api.Hash, api.Fault) {
	var h api.Hash
	fault := fill(h[:], text)
	return h, fault
}

// fill writes the bytes that text tells over b, if they are as many.
func fill(b []byte, text string) api.Fault {
	told, fault := Bytes(text)
	if fault.Why != api.OK {
		return fault
	}
	if len(told) != len(b) {
		return api.Fault{Why: api.ErrLength}
	}
	copy(b, told)
	return api.Fault{}
}

// digits goes through 0x and the digits behind it, and says how many digits there are. What is wrong with a digit of this value at this place, if anything is, is asked of may, which keeps those that it lets pass.
func digits(text string, may func(place int, value byte) api.Errno) (int, api.Fault) {
	at := 0
	for _, r := range text {
		value, ok := digit(r)
		why := api.OK
		switch {
		case at == 0 && r != '0', at == 1 && r != 'x', at > 1 && !ok:
			why = api.ErrForm
		case at > 1:
			why = may(at-2, value)
		}
		if why != api.OK {
			return 0, api.Fault{Why: why, At: at}
		}
		at++
	}
	if at < 2 {
		return 0, early(at - 2)
	}
	return at - 2, api.Fault{}
}

// early is the fault of a text that ends behind n digits, where another rune must stand.
func early(n int) api.Fault { return api.Fault{Why: api.ErrForm, At: 2 + n} }

// digit is the value of a hex digit, if r is one.
func digit(r rune) (byte, bool) {
	switch {
	case r >= '0' && r <= '9':
		return byte(r - '0'), true
	case r >= 'a' && r <= 'f':
		return byte(r-'a') + 10, true
	case r >= 'A' && r <= 'F':
		return byte(r-'A') + 10, true
	}
	return 0, false
}
