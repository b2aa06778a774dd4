package hash_test

import (
	"crypto/sha3"
	"encoding/hex"
	"math/bits"
	"testing"

	"quarry/hash"
)

// square is the state as the chapter speaks of it: the lane at (x, y).
type square [5][5]uint64

// plainTurns are the turns of the lanes by the chapter's rule.
func plainTurns() (r [5][5]int) {
	x, y := 1, 0
	for t := range 24 {
		r[x][y] = (t + 1) * (t + 2) / 2 % 64
		x, y = y, (2*x+3*y)%5
	}
	return r
}

// plainRound is one round by the chapter's rule; changing is what lane (0, 0) is changed by.
func plainRound(a square, r [5][5]int, changing uint64) square {
	var c [5]uint64
	for x := range 5 {
		for y := range 5 {
			c[x] ^= a[x][y]
		}
	}
	var b, out square
	for x := range 5 {
		for y := range 5 {
			lane := a[x][y] ^ c[(x+4)%5] ^ bits.RotateLeft64(c[(x+1)%5], 1)
			b[y][(2*x+3*y)%5] = bits.RotateLeft64(lane, r[x][y])
		}
	}
	for x := range 5 {
		for y := range 5 {
			out[x][y] = b[x][y] ^ ^b[(x+1)%5][y]&b[(x+2)%5][y]
		}
	}
	out[0][0] ^= changing
	return out
}

// plainChanging is what each round changes lane (0, 0) by, from the register of the chapter.
func plainChanging() (rc [24]uint64) {
	register := 1
	for k := range 24 {
		for j := range 7 {
			if register&1 == 1 {
				rc[k] |= 1 << (1<<j - 1)
			}
			register <<= 1
			if register > 255 {
				register = register&255 ^ 0x71
			}
		}
	}
	return rc
}

// plain is the sponge with 136 bytes a block, written as the chapter has it, with the byte that padding begins with.
func plain(text []byte, padding byte) (sum [32]byte) {
	text = append(append([]byte{}, text...), padding)
	for len(text)%136 != 0 {
		text = append(text, 0)
	}
	text[len(text)-1] |= 128
	var a square
	r, rc := plainTurns(), plainChanging()
	for ; len(text) > 0; text = text[136:] {
		for i, b := range text[:136] {
			a[i/8%5][i/8/5] ^= uint64(b) << (i % 8 * 8)
		}
		for k := range 24 {
			a = plainRound(a, r, rc[k])
		}
	}
	for i := range sum {
		sum[i] = byte(a[i/8][0] >> (i % 8 * 8))
	}
	return sum
}

// TestPlain: what P3.1 is tested against is SHA-3, but for the padding.
func TestPlain(t *testing.T) {
	for _, b := range texts() {
		if plain(b, 6) != sha3.Sum256(b) {
			t.Fatalf("the plain sponge fails on %d bytes", len(b))
		}
	}
}

// TestKeccak: P3.1.
func TestKeccak(t *testing.T) {
	for _, b := range texts() {
		if got, want := hash.Keccak(b), plain(b, 1); got != want {
			t.Fatalf("Keccak of %d bytes %x is %x, must be %x", len(b), b, got, want)
		}
	}
}

// TestKeccakKnown: P3.1, on hashes that are known elsewhere.
func TestKeccakKnown(t *testing.T) {
	for text, want := range map[string]string{
		"":                                  "c5d2460186f7233c927e7db2dcc703c0e500b653ca82273b7bfad8045d85a470",
		"\x80":                              "56e81f171bcc55a6ff8345e692c0f86e5b48e01b996cadc001622fb5e363b421",
		"\xc0":                              "1dcc4de8dec75d7aab85b567b6ccd41ad312451b948a7413f0a142fd40d49347",
		"Transfer(address,address,uint256)": "ddf252ad1be2c89b69c2b068fc378daa952ba7f163c4a11628f55a4df523b3ef",
		"The quick brown fox jumps over the lazy dog": "4d741b6f1eb29cb2a9b9911c82f56fa8d73b04959d3d9d222895df6c0b28aa15",
	} {
		got := hash.Keccak([]byte(text))
		if hex.EncodeToString(got[:]) != want {
			t.Errorf("Keccak of %q is %x, must be %s", text, got, want)
		}
	}
}

// TestSpongeCut: P3.2 and P3.6: what was fed in pieces was fed whole, wherever it was cut, and empty pieces are nothing.
func TestSpongeCut(t *testing.T) {
	m := mixer(7)
	text := m.bytes(300)
	for n := range len(text) + 1 {
		want := hash.Keccak(text[:n])
		for cut := range n + 1 {
			s := hash.New()
			s.Write(text[:cut])
			s.Write(nil)
			s.Write(text[cut:n])
			s.Write([]byte{})
			if got := s.Sum(); got != want {
				t.Fatalf("%d bytes and %d behind them are %x, must be %x", cut, n-cut, got, want)
			}
		}
	}
}

// TestSpongePieces: P3.6, of many pieces of any lengths.
func TestSpongePieces(t *testing.T) {
	m := mixer(8)
	for range 200 {
		text := m.bytes(int(m.next() % 3000))
		most := 1 + m.next()%500
		s := hash.New()
		for rest := text; len(rest) > 0; {
			n := min(int(m.next()%most), len(rest))
			s.Write(rest[:n])
			rest = rest[n:]
		}
		if got, want := s.Sum(), hash.Keccak(text); got != want {
			t.Fatalf("%d bytes in pieces of less than %d are %x, must be %x", len(text), most, got, want)
		}
	}
}

// TestSumChangesNothing: P3.2: Sum tells all that was fed so far, as often as it is asked, and more may be fed behind it.
func TestSumChangesNothing(t *testing.T) {
	m := mixer(9)
	text := m.bytes(500)
	s := hash.New()
	for n := range len(text) {
		if first, again := s.Sum(), s.Sum(); first != again || first != hash.Keccak(text[:n]) {
			t.Fatalf("behind %d bytes Sum is %x, then %x, must be %x", n, first, again, hash.Keccak(text[:n]))
		}
		s.Write(text[n : n+1])
	}
}

// TestSpongesApart: R4: two sponges know nothing of each other, nor does one of a sum that was told.
func TestSpongesApart(t *testing.T) {
	a, b := hash.New(), hash.New()
	a.Write([]byte("one"))
	b.Write([]byte("other"))
	sum := a.Sum()
	clear(sum[:])
	a.Write([]byte(" more"))
	if a.Sum() != hash.Keccak([]byte("one more")) || b.Sum() != hash.Keccak([]byte("other")) {
		t.Error("two sponges are fed as one")
	}
	if hash.New().Sum() != hash.Keccak(nil) {
		t.Error("a new sponge was fed")
	}
}
