package hash_test

import (
	"encoding/hex"
	"testing"

	"quarry/hash"
)

// The calls' signatures, as the chapter writes them.
var (
	_ func([]byte) [32]byte                                          = hash.Keccak
	_ func() *hash.Sponge                                            = hash.New
	_ func(*hash.Sponge, []byte)                                     = (*hash.Sponge).Write
	_ func(*hash.Sponge) [32]byte                                    = (*hash.Sponge).Sum
	_ func([]byte) [32]byte                                          = hash.Sha
	_ func([]byte) [20]byte                                          = hash.Ripemd
	_ func(uint32, [8]uint64, [16]uint64, [2]uint64, bool) [8]uint64 = hash.Blake
)

// unhex is the bytes that a text of hexadecimal digits tells.
func unhex(t *testing.T, text string) []byte {
	t.Helper()
	b, err := hex.DecodeString(text)
	if err != nil {
		t.Fatal(err)
	}
	return b
}

// mixer tells numbers without any order, the same ones in each run.
type mixer uint64

func (m *mixer) next() uint64 {
	*m += 0x9e3779b97f4a7c15
	z := uint64(*m)
	z = (z ^ z>>30) * 0xbf58476d1ce4e5b9
	z = (z ^ z>>27) * 0x94d049bb133111eb
	return z ^ z>>31
}

// bytes is so many bytes.
func (m *mixer) bytes(n int) []byte {
	b := make([]byte, n)
	for i := range b {
		b[i] = byte(m.next())
	}
	return b
}

// texts are byte strings of each length up to some blocks of any of the functions, and of the lengths about later ends of blocks: without any order, all zeros, and all ones.
func texts() [][]byte {
	var lengths []int
	for n := range 300 {
		lengths = append(lengths, n)
	}
	for _, block := range []int{64, 128, 136} {
		for k := 3; k < 9; k++ {
			for n := block*k - 10; n < block*k+2; n++ {
				lengths = append(lengths, n)
			}
		}
	}
	m := mixer(3)
	l := [][]byte{nil, m.bytes(10000), make([]byte, 5000)}
	for _, n := range lengths {
		ones := make([]byte, n)
		for i := range ones {
			ones[i] = 255
		}
		l = append(l, m.bytes(n), make([]byte, n), ones)
	}
	return l
}
