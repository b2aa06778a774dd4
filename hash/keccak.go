package hash

import "math/bits"

// rate is how many bytes a permutation takes in.
const rate = 136

// roundBits are what each round changes lane 0 by, so that no two rounds are alike.
var roundBits = [24]uint64{
	0x0000000000000001, 0x0000000000008082, 0x800000000000808a, 0x8000000080008000,
	0x000000000000808b, 0x0000000080000001, 0x8000000080008081, 0x8000000000008009,
	0x000000000000008a, 0x0000000000000088, 0x0000000080008009, 0x000000008000000a,
	0x000000008000808b, 0x800000000000008b, 0x8000000000008089, 0x8000000000008003,
	0x8000000000008002, 0x8000000000000080, 0x000000000000800a, 0x800000008000000a,
	0x8000000080008081, 0x8000000000008080, 0x0000000080000001, 0x8000000080008008,
}

// Sponge is Keccak-256, fed in pieces.
type Sponge struct {
	lanes [25]uint64
	block [rate]byte // what was fed behind the last permutation
	held  int        // so many bytes of block; less than rate between calls
}

// Keccak is Keccak-256.
func Keccak(b []byte) [32]byte {
	s := New()
	s.Write(b)
	return s.Sum()
}

// New is a sponge that was fed nothing.
func New() *Sponge { return &Sponge{} }

// Write feeds it.
func (s *Sponge) Write(b []byte) {
	for len(b) > 0 {
		n := copy(s.block[s.held:], b)
		s.held += n
		b = b[n:]
		if s.held == rate {
			s.takeIn()
		}
	}
}

// Sum is the hash of all that was fed. It pads a copy, so that more may be fed behind.
func (s *Sponge) Sum() [32]byte {
	last := *s
	clear(last.block[last.held:])
	last.block[last.held] = 1
	last.block[rate-1] |= 128
	last.takeIn()
	var sum [32]byte
	for i := range 4 {
		b := lowFirst(last.lanes[i])
		copy(sum[8*i:], b[:])
	}
	return sum
}

// takeIn mixes the block into the lanes.
func (s *Sponge) takeIn() {
	for i := range rate / 8 {
		s.lanes[i] ^= lane([8]byte(s.block[8*i:]))
	}
	permute(&s.lanes)
	s.held = 0
}

// lane is the number of 8 bytes, the lowest first.
func lane(b [8]byte) uint64 {
	return uint64(b[0]) | uint64(b[1])<<8 | uint64(b[2])<<16 | uint64(b[3])<<24 |
		uint64(b[4])<<32 | uint64(b[5])<<40 | uint64(b[6])<<48 | uint64(b[7])<<56
}

// permute is the permutation: lane x + 5 y is the one at (x, y).
func permute(a *[25]uint64) {
	var other [25]uint64
	b := &other
	for k := range 24 { // an even number of rounds: the last one ends in a
		round(a, b)
		b[0] ^= roundBits[k]
		a, b = b, a
	}
}

// round makes the lanes of b from those of a: each is changed by its neighbours' columns, turned and moved, and folded with two of its new row. It is written out, since all hashing of the program waits for it.
func round(a, b *[25]uint64) {
	c0 := a[0] ^ a[5] ^ a[10] ^ a[15] ^ a[20]
	c1 := a[1] ^ a[6] ^ a[11] ^ a[16] ^ a[21]
	c2 := a[2] ^ a[7] ^ a[12] ^ a[17] ^ a[22]
	c3 := a[3] ^ a[8] ^ a[13] ^ a[18] ^ a[23]
	c4 := a[4] ^ a[9] ^ a[14] ^ a[19] ^ a[24]
	d0 := c4 ^ left(c1, 1)
	d1 := c0 ^ left(c2, 1)
	d2 := c1 ^ left(c3, 1)
	d3 := c2 ^ left(c4, 1)
	d4 := c3 ^ left(c0, 1)
	b[0], b[1], b[2], b[3], b[4] = fold(a[0]^d0, left(a[6]^d1, 44), left(a[12]^d2, 43), left(a[18]^d3, 21), left(a[24]^d4, 14))
	b[5], b[6], b[7], b[8], b[9] = fold(left(a[3]^d3, 28), left(a[9]^d4, 20), left(a[10]^d0, 3), left(a[16]^d1, 45), left(a[22]^d2, 61))
	b[10], b[11], b[12], b[13], b[14] = fold(left(a[1]^d1, 1), left(a[7]^d2, 6), left(a[13]^d3, 25), left(a[19]^d4, 8), left(a[20]^d0, 18))
	b[15], b[16], b[17], b[18], b[19] = fold(left(a[4]^d4, 27), left(a[5]^d0, 36), left(a[11]^d1, 10), left(a[17]^d2, 15), left(a[23]^d3, 56))
	b[20], b[21], b[22], b[23], b[24] = fold(left(a[2]^d2, 62), left(a[8]^d3, 55), left(a[14]^d4, 39), left(a[15]^d0, 41), left(a[21]^d1, 2))
}

// fold makes each lane of a row from itself and the two behind it.
func fold(v0, v1, v2, v3, v4 uint64) (uint64, uint64, uint64, uint64, uint64) {
	return v0 ^ v2&^v1, v1 ^ v3&^v2, v2 ^ v4&^v3, v3 ^ v0&^v4, v4 ^ v1&^v0
}

// left is v turned to the left.
func left(v uint64, n int) uint64 { return bits.RotateLeft64(v, n) }
