package word

import "quarry/api"

// Signextend is a, if k is 31 or more; else its lowest k + 1 bytes, and the highest bit of these in all places above them.
func Signextend(k, a api.Word) api.Word {
	n, ok := below(k, 31)
	if !ok {
		return a
	}
	above := Of(uint64(256 - 8*(n+1)))
	return Sar(above, Shl(above, a))
}

// And is a and b, bit by bit.
func And(a, b api.Word) api.Word {
	return api.Word{a[0] & b[0], a[1] & b[1], a[2] & b[2], a[3] & b[3]}
}

// Or is a or b, bit by bit.
func Or(a, b api.Word) api.Word {
	return api.Word{a[0] | b[0], a[1] | b[1], a[2] | b[2], a[3] | b[3]}
}

// Xor is either a or b, bit by bit.
func Xor(a, b api.Word) api.Word {
	return api.Word{a[0] ^ b[0], a[1] ^ b[1], a[2] ^ b[2], a[3] ^ b[3]}
}

// Not is not a, bit by bit.
func Not(a api.Word) api.Word {
	return api.Word{^a[0], ^a[1], ^a[2], ^a[3]}
}

// Byte is the i-th of a's 32 bytes, the highest first; 0, if there is none.
func Byte(i, a api.Word) api.Word {
	n, ok := below(i, 32)
	if !ok {
		return api.Word{}
	}
	place := 31 - n
	return Of(a[place/8] >> (place % 8 * 8) & 0xff)
}

// Shl is a * 2^n modulo 2^256.
func Shl(n, a api.Word) api.Word {
	shift, ok := below(n, 256)
	if !ok {
		return api.Word{}
	}
	return shiftLeft(a, shift)
}

// Shr is a / 2^n, rounded down.
func Shr(n, a api.Word) api.Word {
	shift, ok := below(n, 256)
	if !ok {
		return api.Word{}
	}
	return shiftRight(a, shift)
}

// Sar is the signed value of a / 2^n, rounded down, modulo 2^256.
func Sar(n, a api.Word) api.Word {
	if negative(a) {
		// Not a is -a - 1, which is not negative: what is shifted out of it is rounded the right way.
		return Not(Shr(n, Not(a)))
	}
	return Shr(n, a)
}

// below is a as an int, if it is below end.
func below(a api.Word, end uint64) (int, bool) {
	n, ok := Small(a)
	if !ok || n >= end {
		return 0, false
	}
	return int(n), true
}

// shiftLeft shifts a by n bits, 0 to 255: a limb gets the rest of the one below it.
func shiftLeft(a api.Word, n int) api.Word {
	var b api.Word
	whole, part := n/64, n%64
	for i := 3; i >= whole; i-- {
		b[i] = a[i-whole] << part
		if i > whole {
			b[i] |= a[i-whole-1] >> (64 - part)
		}
	}
	return b
}

// shiftRight shifts a by n bits, 0 to 255: a limb gets the rest of the one above it.
func shiftRight(a api.Word, n int) api.Word {
	var b api.Word
	whole, part := n/64, n%64
	for i := 0; i+whole < 4; i++ {
		b[i] = a[i+whole] >> part
		if i+whole < 3 {
			b[i] |= a[i+whole+1] << (64 - part)
		}
	}
	return b
}
