package hash

import "math/bits"

// blakeStart is what half of the words begin with.
var blakeStart = [8]uint64{
	0x6a09e667f3bcc908, 0xbb67ae8584caa73b, 0x3c6ef372fe94f82b, 0xa54ff53a5f1d36f1,
	0x510e527fade682d1, 0x9b05688c2b3e6c1f, 0x1f83d9abfb41bd6b, 0x5be0cd19137e2179,
}

// blakeOrders are the orders in which rounds take the message's words; round 10 takes the first one again.
var blakeOrders = [10][16]uint8{
	{0, 1, 2, 3, 4, 5, 6, 7, 8, 9, 10, 11, 12, 13, 14, 15},
	{14, 10, 4, 8, 9, 15, 13, 6, 1, 12, 0, 2, 11, 7, 5, 3},
	{11, 8, 12, 0, 5, 2, 15, 13, 10, 14, 3, 6, 7, 1, 9, 4},
	{7, 9, 3, 1, 13, 12, 11, 14, 2, 6, 5, 10, 4, 0, 15, 8},
	{9, 0, 5, 7, 2, 4, 10, 15, 14, 1, 11, 12, 6, 8, 3, 13},
	{2, 12, 6, 10, 0, 11, 8, 3, 4, 13, 7, 5, 15, 14, 1, 9},
	{12, 5, 1, 15, 14, 13, 4, 10, 0, 7, 6, 3, 9, 2, 8, 11},
	{13, 11, 7, 14, 12, 1, 3, 9, 5, 0, 15, 4, 8, 6, 2, 10},
	{6, 15, 14, 9, 11, 3, 0, 8, 12, 2, 13, 7, 1, 4, 10, 5},
	{10, 2, 8, 4, 7, 6, 1, 5, 15, 11, 9, 14, 3, 12, 13, 0},
}

// Blake is the compression function F of BLAKE2b.
func Blake(rounds uint32, h [8]uint64, m [16]uint64, t [2]uint64, final bool) [8]uint64 {
	var v [16]uint64
	for i := range 8 {
		v[i], v[8+i] = h[i], blakeStart[i]
	}
	v[12] ^= t[0]
	v[13] ^= t[1]
	if final {
		v[14] = ^v[14]
	}
	for i := range rounds {
		blakeRound(&v, &m, i%10)
	}
	for i := range 8 {
		h[i] ^= v[i] ^ v[8+i]
	}
	return h
}

// blakeRound mixes the words of v, as a square, down its columns and along its diagonals.
func blakeRound(v, m *[16]uint64, row uint32) {
	s := blakeOrders[row]
	v[0], v[4], v[8], v[12] = blakeMix(v[0], v[4], v[8], v[12], m[s[0]&15], m[s[1]&15])
	v[1], v[5], v[9], v[13] = blakeMix(v[1], v[5], v[9], v[13], m[s[2]&15], m[s[3]&15])
	v[2], v[6], v[10], v[14] = blakeMix(v[2], v[6], v[10], v[14], m[s[4]&15], m[s[5]&15])
	v[3], v[7], v[11], v[15] = blakeMix(v[3], v[7], v[11], v[15], m[s[6]&15], m[s[7]&15])
	v[0], v[5], v[10], v[15] = blakeMix(v[0], v[5], v[10], v[15], m[s[8]&15], m[s[9]&15])
	v[1], v[6], v[11], v[12] = blakeMix(v[1], v[6], v[11], v[12], m[s[10]&15], m[s[11]&15])
	v[2], v[7], v[8], v[13] = blakeMix(v[2], v[7], v[8], v[13], m[s[12]&15], m[s[13]&15])
	v[3], v[4], v[9], v[14] = blakeMix(v[3], v[4], v[9], v[14], m[s[14]&15], m[s[15]&15])
}

// blakeMix mixes four words with two of the message.
func blakeMix(a, b, c, d, x, y uint64) (uint64, uint64, uint64, uint64) {
	a += b + x
	d = bits.RotateLeft64(d^a, -32)
	c += d
	b = bits.RotateLeft64(b^c, -24)
	a += b + y
	d = bits.RotateLeft64(d^a, -16)
	c += d
	b = bits.RotateLeft64(b^c, -63)
	return a, b, c, d
}
