package hash_test

import (
	"bytes"
	"encoding/binary"
	"encoding/hex"
	"math/bits"
	"testing"

	"quarry/hash"
)

// blakeIV is what the chapter calls IV.
var blakeIV = [8]uint64{
	0x6a09e667f3bcc908, 0xbb67ae8584caa73b, 0x3c6ef372fe94f82b, 0xa54ff53a5f1d36f1,
	0x510e527fade682d1, 0x9b05688c2b3e6c1f, 0x1f83d9abfb41bd6b, 0x5be0cd19137e2179,
}

// plainSigma is the rounds' orders, a hexadecimal digit for each word.
var plainSigma = [10]string{
	"0123456789abcdef", "ea489fd61c02b753", "b8c052fdae367194", "7931dcbe265a40f8", "905724afe1bc683d",
	"2c6a0b834d75fe19", "c51fed4a0763928b", "db7ec13950f4862a", "6fe9b308c2d714a5", "a2847615fb9e3cd0",
}

// plainBlake is F as the chapter has it, word by word.
func plainBlake(rounds int, h [8]uint64, m [16]uint64, t [2]uint64, final bool) [8]uint64 {
	v := append(append([]uint64{}, h[:]...), blakeIV[:]...)
	v[12] ^= t[0]
	v[13] ^= t[1]
	if final {
		v[14] ^= 1<<64 - 1
	}
	corners := []string{"048c", "159d", "26ae", "37bf", "05af", "16bc", "278d", "349e"}
	digit := func(c byte) int { return bytes.IndexByte([]byte("0123456789abcdef"), c) }
	for i := range rounds {
		for k, corner := range corners {
			a, b, c, d := &v[digit(corner[0])], &v[digit(corner[1])], &v[digit(corner[2])], &v[digit(corner[3])]
			for half, turns := range [2][2]int{{32, 24}, {16, 63}} {
				*a += *b + m[digit(plainSigma[i%10][2*k+half])]
				*d = bits.RotateLeft64(*d^*a, 64-turns[0])
				*c += *d
				*b = bits.RotateLeft64(*b^*c, 64-turns[1])
			}
		}
	}
	for i := range h {
		h[i] ^= v[i] ^ v[i+8]
	}
	return h
}

// TestBlake: P3.5: each number of rounds up to some turns through the orders, with words without any order.
func TestBlake(t *testing.T) {
	r := mixer(5)
	for rounds := range 64 {
		for k := range 8 {
			var h [8]uint64
			var m [16]uint64
			for i := range h {
				h[i] = r.next()
			}
			for i := range m {
				m[i] = r.next()
			}
			count := [2]uint64{r.next(), r.next()}
			got, want := hash.Blake(uint32(rounds), h, m, count, k%2 == 1), plainBlake(rounds, h, m, count, k%2 == 1)
			if got != want {
				t.Fatalf("Blake(%d, %x, %x, %x, %v) is %x, must be %x", rounds, h, m, count, k%2 == 1, got, want)
			}
		}
	}
}

// TestBlakeMany: P3.5: so many rounds that their number has 17 bits.
func TestBlakeMany(t *testing.T) {
	m := [16]uint64{1, 2, 3}
	if got, want := hash.Blake(70001, blakeIV, m, [2]uint64{5, 6}, true), plainBlake(70001, blakeIV, m, [2]uint64{5, 6}, true); got != want {
		t.Fatalf("70001 rounds are %x, must be %x", got, want)
	}
}

// blake2b is the whole function of RFC 7693, with a key or none, over hash.Blake.
func blake2b(size int, key, text []byte) []byte {
	h := blakeIV
	h[0] ^= 0x01010000 ^ uint64(len(key))<<8 ^ uint64(size)
	if len(key) > 0 {
		text = append(append(bytes.Clone(key), make([]byte, 128-len(key))...), text...)
	}
	count := [2]uint64{}
	for first := true; first || len(text) > 0; first = false {
		n := min(128, len(text))
		block := append(bytes.Clone(text[:n]), make([]byte, 128-n)...)
		text = text[n:]
		var m [16]uint64
		for i := range m {
			m[i] = binary.LittleEndian.Uint64(block[8*i:])
		}
		count[0] += uint64(n)
		h = hash.Blake(12, h, m, count, len(text) == 0)
	}
	var sum []byte
	for _, v := range h {
		sum = binary.LittleEndian.AppendUint64(sum, v)
	}
	return sum[:size]
}

// sequence is the RFC's row of bytes for its test of itself.
func sequence(n int, seed uint32) []byte {
	b := make([]byte, n)
	x, y := 0xdead4bad*seed, uint32(1)
	for i := range b {
		x, y = y, x+y
		b[i] = byte(y >> 24)
	}
	return b
}

// TestBlakeItself: P3.5: the RFC's test of itself: the hash of the hashes of many texts, with keys and without.
func TestBlakeItself(t *testing.T) {
	var sums []byte
	for _, size := range []int{20, 32, 48, 64} {
		for _, n := range []int{0, 3, 128, 129, 255, 1024} {
			text, key := sequence(n, uint32(n)), sequence(size, uint32(size))
			sums = append(sums, blake2b(size, nil, text)...)
			sums = append(sums, blake2b(size, key, text)...)
		}
	}
	want := unhex(t, "c23a7800d98123bd10f506c61e29da5603d763b8bbad2e737f5e765a7bccd475")
	if got := blake2b(32, nil, sums); !bytes.Equal(got, want) {
		t.Errorf("the hash of the hashes is %x, must be %x", got, want)
	}
}

// TestBlakeKnown: P3.5, on the examples with which EIP-152 brought F to the machine: "abc" of 64 bytes.
func TestBlakeKnown(t *testing.T) {
	h := blakeIV
	h[0] ^= 0x01010040
	for _, c := range []struct {
		rounds uint32
		final  bool
		want   string
	}{
		{0, true, "08c9bcf367e6096a3ba7ca8485ae67bb2bf894fe72f36e3cf1361d5f3af54fa5d282e6ad7f520e511f6c3e2b8c68059b9442be0454267ce079217e1319cde05b"},
		{12, true, "ba80a53f981c4d0d6a2797b69f12f6e94c212f14685ac4b74b12bb6fdbffa2d17d87c5392aab792dc252d5de4533cc9518d38aa8dbf1925ab92386edd4009923"},
		{12, false, "75ab69d3190a562c51aef8d88f1c2775876944407270c42c9844252c26d2875298743e7f6d5ea2f2d3e8d226039cd31b4e426ac4f2d3d666a610c2116fde4735"},
		{1, true, "b63a380cb2897d521994a85234ee2c181b5f844d2c624c002677e9703449d2fba551b3a8333bcdf5f2f7e08993d53923de3d64fcc68c034e717b9293fed7a421"},
	} {
		var got []byte
		for _, v := range hash.Blake(c.rounds, h, [16]uint64{0x636261}, [2]uint64{3, 0}, c.final) {
			got = binary.LittleEndian.AppendUint64(got, v)
		}
		if hex.EncodeToString(got) != c.want {
			t.Errorf("%d rounds, final %v, are %x, must be %s", c.rounds, c.final, got, c.want)
		}
	}
}
