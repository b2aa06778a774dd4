package hash

import "math/bits"

// The left line's words of the block, turns and numbers to add.
var (
	leftWords = [80]uint8{
		0, 1, 2, 3, 4, 5, 6, 7, 8, 9, 10, 11, 12, 13, 14, 15,
		7, 4, 13, 1, 10, 6, 15, 3, 12, 0, 9, 5, 2, 14, 11, 8,
		3, 10, 14, 4, 9, 15, 8, 1, 2, 7, 0, 6, 13, 11, 5, 12,
		1, 9, 11, 10, 0, 8, 12, 4, 13, 3, 7, 15, 14, 5, 6, 2,
		4, 0, 5, 9, 7, 12, 2, 10, 14, 1, 3, 8, 11, 6, 15, 13,
	}
	leftTurns = [80]uint8{
		11, 14, 15, 12, 5, 8, 7, 9, 11, 13, 14, 15, 6, 7, 9, 8,
		7, 6, 8, 13, 11, 9, 7, 15, 7, 12, 15, 9, 11, 7, 13, 12,
		11, 13, 6, 7, 14, 9, 13, 15, 14, 8, 13, 6, 5, 12, 7, 5,
		11, 12, 14, 15, 14, 15, 9, 8, 9, 14, 5, 6, 8, 6, 5, 12,
		9, 15, 5, 11, 6, 8, 13, 12, 5, 12, 13, 14, 11, 8, 5, 6,
	}
	leftAdds = [5]uint32{0, 0x5a827999, 0x6ed9eba1, 0x8f1bbcdc, 0xa953fd4e}
)

// The right line's.
var (
	rightWords = [80]uint8{
		5, 14, 7, 0, 9, 2, 11, 4, 13, 6, 15, 8, 1, 10, 3, 12,
		6, 11, 3, 7, 0, 13, 5, 10, 14, 15, 8, 12, 4, 9, 1, 2,
		15, 5, 1, 3, 7, 14, 6, 9, 11, 8, 12, 2, 10, 0, 4, 13,
		8, 6, 4, 1, 3, 11, 15, 0, 5, 12, 2, 13, 9, 7, 10, 14,
		12, 15, 10, 4, 1, 5, 8, 7, 6, 2, 13, 14, 0, 3, 9, 11,
	}
	rightTurns = [80]uint8{
		8, 9, 9, 11, 13, 15, 15, 5, 7, 7, 8, 11, 14, 14, 12, 6,
		9, 13, 15, 7, 12, 8, 9, 11, 7, 7, 12, 7, 6, 15, 13, 11,
		9, 7, 15, 11, 8, 6, 6, 14, 12, 13, 5, 14, 13, 13, 7, 5,
		15, 5, 8, 11, 14, 14, 6, 14, 6, 9, 12, 9, 12, 5, 15, 8,
		8, 5, 12, 9, 12, 5, 14, 6, 8, 13, 6, 5, 15, 13, 11, 11,
	}
	rightAdds = [5]uint32{0x50a28be6, 0x5c4dd124, 0x6d703ef3, 0x7a6d76e9, 0}
)

// chain is what a block of Ripemd begins with, and each of its lines.
type chain [5]uint32

// Ripemd is RIPEMD-160.
func Ripemd(b []byte) [20]byte {
	tail, n := padded(b, lowFirst(8*uint64(len(b))))
	h := chain{0x67452301, 0xefcdab89, 0x98badcfe, 0x10325476, 0xc3d2e1f0}
	h = ripemdBlocks(h, b)
	h = ripemdBlocks(h, tail[:n])
	var sum [20]byte
	for i := range 5 {
		for j := range 4 {
			sum[4*i+j] = byte(h[i] >> (8 * j))
		}
	}
	return sum
}

// ripemdBlocks is h behind the whole blocks of b.
func ripemdBlocks(h chain, b []byte) chain {
	for ; len(b) >= 64; b = b[64:] {
		x := ripemdWords([64]byte(b))
		l, r := leftLine(h, x), rightLine(h, x)
		for i := range 5 {
			l[i] += r[(i+1)%5]
		}
		h = chain{h[1] + l[2], h[2] + l[3], h[3] + l[4], h[4] + l[0], h[0] + l[1]}
	}
	return h
}

// ripemdWords are the words of a block.
func ripemdWords(block [64]byte) (x [16]uint32) {
	for i := range 16 {
		b := [4]byte(block[4*i:])
		x[i] = uint32(b[0]) | uint32(b[1])<<8 | uint32(b[2])<<16 | uint32(b[3])<<24
	}
	return x
}

// leftLine is what h comes to by the left line.
func leftLine(h chain, x [16]uint32) chain {
	a, b, c, d, e := h[0], h[1], h[2], h[3], h[4]
	for j := range 80 {
		sum := a + ripemdMix(j/16, b, c, d) + x[leftWords[j]&15] + leftAdds[j/16]
		a, e, d, c, b = e, d, bits.RotateLeft32(c, 10), b, bits.RotateLeft32(sum, int(leftTurns[j]))+e
	}
	return chain{a, b, c, d, e}
}

// rightLine is what h comes to by the right line, which mixes in the other order.
func rightLine(h chain, x [16]uint32) chain {
	a, b, c, d, e := h[0], h[1], h[2], h[3], h[4]
	for j := range 80 {
		sum := a + ripemdMix(4-j/16, b, c, d) + x[rightWords[j]&15] + rightAdds[j/16]
		a, e, d, c, b = e, d, bits.RotateLeft32(c, 10), b, bits.RotateLeft32(sum, int(rightTurns[j]))+e
	}
	return chain{a, b, c, d, e}
}

// ripemdMix mixes three words in one of five ways.
func ripemdMix(way int, x, y, z uint32) uint32 {
	switch way {
	case 0:
		return x ^ y ^ z
	case 1:
		return x&y | ^x&z
	case 2:
		return (x | ^y) ^ z
	case 3:
		return x&z | y&^z
	}
	return x ^ (y | ^z)
}
