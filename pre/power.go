package pre

import (
	"math"

	"quarry/api"
	"quarry/nat"
	"quarry/word"
)

// least is what a power costs from Berlin on, if not more.
const least = 200

// beyond is more bytes than an input has.
const beyond = 1 << 32

// lengths are how many bytes base, exponent and modulus have, each as 32 bytes.
func lengths(input []byte) (base, exponent, modulus []byte) {
	b := sized(input, 3*wordSize)
	return b[:32], b[32:64], b[64:]
}

// reach is a length as far as inputs go: the greatest ones are all alike.
func reach(length []byte) uint64 {
	n, ok := word.Small(number(length))
	if !ok || n > beyond {
		return beyond
	}
	return n
}

// piece is what input has of so many bytes behind the lengths and skip more; of the zeros behind its end it has none.
func piece(input []byte, skip, size uint64) []byte {
	end := uint64(len(input))
	from := min(3*wordSize+skip, end)
	return input[from:min(from+size, end)]
}

// byPower is the price of a power, by EIP-198, and by EIP-2565 from Berlin on.
func byPower(at int, input []byte) uint64 {
	base, _, modulus := lengths(input)
	x := base
	if nat.Cmp(modulus, base) > 0 {
		x = modulus
	}
	n := steps(input)
	if at < api.Berlin {
		return gas(over(nat.Mul(work(x), n), 20))
	}
	eighth := over(nat.Add(x, row(7)), 8)
	return max(least, gas(over(nat.Mul(nat.Mul(eighth, eighth), n), 3)))
}

// steps is how many bits of the exponent are counted, 1 at least: those behind the highest one of its first 32 bytes, and all others.
func steps(input []byte) []byte {
	base, exponent, _ := lengths(input)
	size := min(reach(exponent), wordSize)
	head := sized(piece(input, reach(base), size), int(size))
	n := row(uint64(max(nat.Bits(head), 1) - 1))
	if tail, ok := nat.Sub(exponent, row(wordSize)); ok {
		n = nat.Add(n, nat.Mul(tail, row(8)))
	}
	if len(nat.Trim(n)) == 0 {
		return row(1)
	}
	return n
}

// work is what a step costs ahead of Berlin, by how many bytes the longer of base and modulus has.
func work(x []byte) []byte {
	square := nat.Mul(x, x)
	switch {
	case nat.Cmp(x, row(64)) <= 0:
		return square
	case nat.Cmp(x, row(1024)) <= 0:
		return line(over(square, 4), x, 96, 3072)
	}
	return line(over(square, 16), x, 480, 199680)
}

// line is a + k x - c, where that is not below 0.
func line(a, x []byte, k, c uint64) []byte {
	n, _ := nat.Sub(nat.Add(a, nat.Mul(x, row(k))), row(c))
	return n
}

// over is a divided by n, rounded down.
func over(a []byte, n uint64) []byte {
	q, _, _ := nat.DivMod(a, row(n))
	return q
}

// row is n as nat has numbers.
func row(n uint64) []byte { return word.Short(word.Of(n)) }

// gas is a number as a price.
func gas(a []byte) uint64 {
	if nat.Bits(a) > 64 {
		return never
	}
	n, _ := word.Small(number(a))
	return n
}

// power is base to the power exponent modulo modulus, in as many bytes as that has; it fails, if these are more than an answer may have.
func power(input []byte) ([]byte, bool) {
	b, e, m := lengths(input)
	base, exponent, modulus := reach(b), reach(e), reach(m)
	if modulus > math.MaxInt32 {
		return nil, false
	}
	out := sized(piece(input, base+exponent, modulus), int(modulus))
	// Where input ends within base or exponent, the modulus is 0, and it does not count that their last bytes lack.
	p := nat.ModExp(piece(input, 0, base), piece(input, base, exponent), out)
	clear(out)
	copy(out[len(out)-len(p):], p)
	return out, true
}
