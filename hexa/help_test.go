package hexa_test

import (
	"math/big"
	"strings"
	"testing"

	"quarry/api"
	"quarry/hexa"
)

// The calls' signatures, as the chapter writes them.
var (
	_ func(string) ([]byte, api.Fault)      = hexa.Bytes
	_ func([]byte) string                   = hexa.Text
	_ func(string) (api.Word, api.Fault)    = hexa.Number
	_ func(api.Word) string                 = hexa.Quantity
	_ func(api.Word) string                 = hexa.Decimal
	_ func(string) (api.Address, api.Fault) = hexa.Address
	_ func(string) (api.Hash, api.Fault)    = hexa.Hash
	_ func(api.Address) string              = hexa.Mixed
	_ func(string) []string                 = hexa.Fields
)

// none is no fault.
var none = api.Fault{}

// form, far and length are the faults that the chapter names.
func form(at int) api.Fault { return api.Fault{Why: api.ErrForm, At: at} }

func far(at int) api.Fault { return api.Fault{Why: api.ErrRange, At: at} }

var length = api.Fault{Why: api.ErrLength}

// hexDigits are all of them.
const hexDigits = "0123456789abcdefABCDEF"

// isDigit says whether r is a hex digit.
func isDigit(r rune) bool { return strings.IndexByte(hexDigits, byte(r)) >= 0 && r < 128 }

// toWord is n as a word.
func toWord(n *big.Int) api.Word {
	var a api.Word
	limb := new(big.Int).Lsh(big.NewInt(1), 64)
	for i := range a {
		n, a[i] = new(big.Int).Rsh(n, 64), new(big.Int).Mod(n, limb).Uint64()
	}
	return a
}

// mixer tells numbers without any order, the same ones in each run.
type mixer uint64

func (m *mixer) next() uint64 {
	*m += 0x9e3779b97f4a7c15
	z := uint64(*m)
	z = (z ^ z>>30) * 0xbf58476d1ce4e5b9
	z = (z ^ z>>27) * 0x94d049bb133111eb
	return z ^ z>>31
}

// bytes is so many bytes.
func (m *mixer) bytes(n int) []byte {
	b := make([]byte, n)
	for i := range b {
		b[i] = byte(m.next())
	}
	return b
}

// numbers are words of all lengths in bits, and about the powers of 2, 10 and 16.
func numbers() []*big.Int {
	end := new(big.Int).Lsh(big.NewInt(1), 256)
	var l []*big.Int
	add := func(n *big.Int) {
		for more := int64(-1); more <= 1; more++ {
			k := new(big.Int).Add(n, big.NewInt(more))
			if k.Sign() >= 0 && k.Cmp(end) < 0 {
				l = append(l, k)
			}
		}
	}
	for n := range int64(257) {
		add(new(big.Int).Lsh(big.NewInt(1), uint(n)))
		add(new(big.Int).Exp(big.NewInt(10), big.NewInt(n), nil))
		add(new(big.Int).Sub(end, big.NewInt(n)))
	}
	m := mixer(4)
	for n := range uint(257) {
		k := new(big.Int).SetBytes(m.bytes(32))
		l = append(l, k.Rsh(k, n), big.NewInt(int64(n)))
	}
	return l
}

// texts gives each text of up to n pieces out of all.
func texts(n int, pieces []string, give func(string)) {
	level := []string{""}
	for range n + 1 {
		var next []string
		for _, text := range level {
			give(text)
			for _, piece := range pieces {
				next = append(next, text+piece)
			}
		}
		level = next
	}
}

// odd are pieces of texts: digits, what stands beside them in the order of bytes, runes of several bytes, and bytes that are part of no rune.
func odd() []string {
	return []string{"0", "x", "1", "f", "F", "g", "G", "X", "/", ":", "@", "`", " ", "\x00", "é", "\uff10", "\xff", "\x80", "\U0001d7d8", "\xe2\x82"}
}

// checkFault fails the test, if got is not want.
func checkFault(t *testing.T, call, text string, got, want api.Fault) {
	t.Helper()
	if got != want {
		t.Fatalf("%s(%+q): fault %v, must be %v", call, text, got, want)
	}
}
