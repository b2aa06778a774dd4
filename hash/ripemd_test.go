package hash_test

import (
	"bytes"
	"encoding/binary"
	"encoding/hex"
	"math/big"
	"math/bits"
	"strings"
	"testing"

	"quarry/hash"
)

// plainShifts tells the turns as the function's makers do: by the round and the word that is taken, for both lines.
var plainShifts = [5][16]int{
	{11, 14, 15, 12, 5, 8, 7, 9, 11, 13, 14, 15, 6, 7, 9, 8},
	{12, 13, 11, 15, 6, 9, 9, 7, 12, 15, 11, 13, 7, 8, 7, 7},
	{13, 15, 14, 11, 7, 7, 6, 8, 13, 14, 13, 12, 5, 5, 6, 9},
	{14, 11, 12, 14, 8, 6, 5, 5, 15, 12, 15, 14, 9, 9, 8, 6},
	{15, 12, 13, 13, 9, 5, 8, 6, 14, 11, 12, 11, 8, 6, 5, 5},
}

// plainRho leads from the words' order in one round to that in the next.
var plainRho = [16]int{7, 4, 13, 1, 10, 6, 15, 3, 12, 0, 9, 5, 2, 14, 11, 8}

// rooted is 2^30 times the root of n, rounded down: the square root, or the cube root.
func rooted(n int64, cube bool) uint32 {
	least, most := big.NewInt(0), big.NewInt(1<<33)
	power, scale := big.NewInt(2), uint(60)
	if cube {
		power, scale = big.NewInt(3), 90
	}
	whole := new(big.Int).Lsh(big.NewInt(n), scale)
	for least.Cmp(most) < 0 {
		middle := new(big.Int).Add(least, most)
		middle.Add(middle, big.NewInt(1)).Rsh(middle, 1)
		if new(big.Int).Exp(middle, power, nil).Cmp(whole) <= 0 {
			least = middle
		} else {
			most = middle.Sub(middle, big.NewInt(1))
		}
	}
	return uint32(least.Uint64())
}

// plainMix is the round's function.
func plainMix(round int, x, y, z uint32) uint32 {
	return [5]uint32{x ^ y ^ z, x&y | ^x&z, (x | ^y) ^ z, x&z | y&^z, x ^ (y | ^z)}[round]
}

// plainLine is one line of 80 steps, by the makers' rules.
func plainLine(h [5]uint32, x [16]uint32, right bool) [5]uint32 {
	order := [16]int{}
	for i := range order {
		order[i] = i
		if right {
			order[i] = (9*i + 5) % 16
		}
	}
	primes := [5]int64{0, 2, 3, 5, 7}
	for round := range 5 {
		mix, k := round, rooted(primes[round], false)
		if right {
			mix, k = 4-round, rooted(primes[(round+1)%5], true)
		}
		for _, w := range order {
			t := bits.RotateLeft32(h[0]+plainMix(mix, h[1], h[2], h[3])+x[w]+k, plainShifts[round][w]) + h[4]
			h = [5]uint32{h[4], t, h[1], bits.RotateLeft32(h[2], 10), h[3]}
		}
		for i, w := range order {
			order[i] = plainRho[w]
		}
	}
	return h
}

// plainRipemd is RIPEMD-160 by the makers' rules.
func plainRipemd(text []byte) []byte {
	bitLength := uint64(len(text)) * 8
	text = append(append([]byte{}, text...), 128)
	for len(text)%64 != 56 {
		text = append(text, 0)
	}
	text = binary.LittleEndian.AppendUint64(text, bitLength)
	h := [5]uint32{0x67452301, 0xefcdab89, 0x98badcfe, 0x10325476, 0xc3d2e1f0}
	for ; len(text) > 0; text = text[64:] {
		var x [16]uint32
		for i := range x {
			x[i] = binary.LittleEndian.Uint32(text[4*i:])
		}
		l, r, was := plainLine(h, x, false), plainLine(h, x, true), h
		for i := range h {
			h[i] = was[(i+1)%5] + l[(i+2)%5] + r[(i+3)%5]
		}
	}
	var sum []byte
	for _, v := range h {
		sum = binary.LittleEndian.AppendUint32(sum, v)
	}
	return sum
}

// TestRipemd: P3.4.
func TestRipemd(t *testing.T) {
	l := texts()
	for i := 0; i < len(l); i += 1 + i/300 {
		if got, want := hash.Ripemd(l[i]), plainRipemd(l[i]); !bytes.Equal(got[:], want) {
			t.Fatalf("Ripemd of %d bytes %x is %x, must be %x", len(l[i]), l[i], got, want)
		}
	}
}

// TestRipemdKnown: P3.4, on the makers' own examples.
func TestRipemdKnown(t *testing.T) {
	for text, want := range map[string]string{
		"":                           "9c1185a5c5e9fc54612808977ee8f548b2258d31",
		"a":                          "0bdc9d2d256b3ee9daae347be6f4dc835a467ffe",
		"abc":                        "8eb208f7e05d987a9b044a8e98c6b087f15a0bfc",
		"message digest":             "5d0689ef49d2fae572b881b123a85ffa21595f36",
		"abcdefghijklmnopqrstuvwxyz": "f71c27109c692c1b56bbdceb5b9d2865b3708dbc",
		"abcdbcdecdefdefgefghfghighijhijkijkljklmklmnlmnomnopnopq":       "12a053384a9c0c88e405a06c27dcf49ada62eb2b",
		"ABCDEFGHIJKLMNOPQRSTUVWXYZabcdefghijklmnopqrstuvwxyz0123456789": "b0e20b6e3116640286ed3a87a5713079b21f5189",
		strings.Repeat("1234567890", 8):                                  "9b752e45573d4b39f4dbd3323cab82bf63326bfb",
		strings.Repeat("a", 1000000):                                     "52783243c1697bdbe16d37f97f68f08325dc1528",
	} {
		got := hash.Ripemd([]byte(text))
		if hex.EncodeToString(got[:]) != want {
			t.Errorf("Ripemd of %.70q is %x, must be %s", text, got, want)
		}
	}
}
