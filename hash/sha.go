package hash

import "math/bits"

// shaStart is what SHA-256 begins with.
var shaStart = [8]uint32{
	0x6a09e667, 0xbb67ae85, 0x3c6ef372, 0xa54ff53a, 0x510e527f, 0x9b05688c, 0x1f83d9ab, 0x5be0cd19,
}

// shaAdds are what its steps add.
var shaAdds = [64]uint32{
	0x428a2f98, 0x71374491, 0xb5c0fbcf, 0xe9b5dba5, 0x3956c25b, 0x59f111f1, 0x923f82a4, 0xab1c5ed5,
	0xd807aa98, 0x12835b01, 0x243185be, 0x550c7dc3, 0x72be5d74, 0x80deb1fe, 0x9bdc06a7, 0xc19bf174,
	0xe49b69c1, 0xefbe4786, 0x0fc19dc6, 0x240ca1cc, 0x2de92c6f, 0x4a7484aa, 0x5cb0a9dc, 0x76f988da,
	0x983e5152, 0xa831c66d, 0xb00327c8, 0xbf597fc7, 0xc6e00bf3, 0xd5a79147, 0x06ca6351, 0x14292967,
	0x27b70a85, 0x2e1b2138, 0x4d2c6dfc, 0x53380d13, 0x650a7354, 0x766a0abb, 0x81c2c92e, 0x92722c85,
	0xa2bfe8a1, 0xa81a664b, 0xc24b8b70, 0xc76c51a3, 0xd192e819, 0xd6990624, 0xf40e3585, 0x106aa070,
	0x19a4c116, 0x1e376c08, 0x2748774c, 0x34b0bcb5, 0x391c0cb3, 0x4ed8aa4a, 0x5b9cca4f, 0x682e6ff3,
	0x748f82ee, 0x78a5636f, 0x84c87814, 0x8cc70208, 0x90befffa, 0xa4506ceb, 0xbef9a3f7, 0xc67178f2,
}

// Sha is SHA-256.
func Sha(b []byte) [32]byte {
	tail, n := padded(b, highFirst(8*uint64(len(b))))
	h := shaBlocks(shaStart, b)
	h = shaBlocks(h, tail[:n])
	var sum [32]byte
	for i := range 8 {
		for j := range 4 {
			sum[4*i+j] = byte(h[i] >> (24 - 8*j))
		}
	}
	return sum
}

// shaBlocks is h behind the whole blocks of b.
func shaBlocks(h [8]uint32, b []byte) [8]uint32 {
	for ; len(b) >= 64; b = b[64:] {
		h = shaBlock(h, [64]byte(b))
	}
	return h
}

// shaBlock is h behind one block.
func shaBlock(h [8]uint32, block [64]byte) [8]uint32 {
	w := shaWords(block)
	a, b, c, d, e, f, g, last := h[0], h[1], h[2], h[3], h[4], h[5], h[6], h[7]
	for t := range 64 {
		high := turned(e, 6, 11, 25)
		low := turned(a, 2, 13, 22)
		t1 := last + high + (e&f ^ ^e&g) + shaAdds[t] + w[t]
		t2 := low + (a&b ^ a&c ^ b&c)
		last, g, f, e, d, c, b, a = g, f, e, d+t1, c, b, a, t1+t2
	}
	return [8]uint32{h[0] + a, h[1] + b, h[2] + c, h[3] + d, h[4] + e, h[5] + f, h[6] + g, h[7] + last}
}

// shaWords are a block's words, and those that are made of them.
func shaWords(block [64]byte) (w [64]uint32) {
	for t := range 16 {
		b := [4]byte(block[4*t:])
		w[t] = uint32(b[0])<<24 | uint32(b[1])<<16 | uint32(b[2])<<8 | uint32(b[3])
	}
	for t := 16; t < 64; t++ {
		near, far := w[t-2], w[t-15]
		near = right(near, 17) ^ right(near, 19) ^ near>>10
		far = right(far, 7) ^ right(far, 18) ^ far>>3
		w[t] = near + w[t-7] + far + w[t-16]
	}
	return w
}

// turned is the xor of three turns of v.
func turned(v uint32, n1, n2, n3 int) uint32 { return right(v, n1) ^ right(v, n2) ^ right(v, n3) }

// right is v turned to the right.
func right(v uint32, n int) uint32 { return bits.RotateLeft32(v, -n) }
