package hexa

import (
	"strings"

	"quarry/api"
	"quarry/hash"
	"quarry/word"
)

// small are the hex digits by their values.
const small = "0123456789abcdef"

// Text writes bytes.
func Text(b []byte) string {
	var out strings.Builder
	out.Grow(2 + 2*len(b))
	out.WriteString("0x")
	for _, v := range b {
		out.WriteByte(small[v>>4])
		out.WriteByte(small[v&15])
	}
	return out.String()
}

// Quantity writes a number.
func Quantity(a api.Word) string {
	digits := Text(word.Short(a))[2:]
	if digits == "" {
		return "0x0"
	}
	return "0x" + strings.TrimPrefix(digits, "0")
}

// Decimal writes a number in decimal digits.
func Decimal(a api.Word) string {
	var digits [78]byte // 2^256 - 1 has so many
	first := len(digits)
	for {
		last, _ := word.Small(word.Mod(a, word.Of(10)))
		first--
		digits[first] = '0' + byte(last)
		a = word.Div(a, word.Of(10))
		if a == (api.Word{}) {
			return string(digits[first:])
		}
	}
}

// Mixed writes an address with a check in its letters' case (EIP-55).
func Mixed(a api.Address) string {
	digits := []byte(Text(a[:])[2:])
	sum := hash.Keccak(digits)
	check := Text(sum[:])[2:]
	for i, c := range digits {
		if c >= 'a' && check[i] >= '8' { // as bytes, too, a to f come behind 8 and 9
			digits[i] = c - 'a' + 'A'
		}
	}
	return "0x" + string(digits)
}
