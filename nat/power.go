package nat

// ModExp is b to the power e, divided by m, what is left; none, if m is 0.
func ModExp(b, e, m []byte) []byte {
	_, base, ok := DivMod(b, m)
	if !ok {
		return nil
	}
	modulus := toLimbs(m)
	times := modulo(modulus)
	factor := make([]uint64, len(modulus))
	copy(factor, toLimbs(base))
	power := make([]uint64, len(modulus))
	power[0] = 1
	for i := Bits(e) - 1; i >= 0; i-- {
		times(power, power)
		if Bit(e, i) == 1 {
			times(power, factor)
		}
	}
	_, rest, _ := DivMod(toBytes(power), m)
	return rest
}

// modulo makes the product modulo m, which is not 0: it multiplies its first number by its second, both of as many limbs as m. A power takes thousands of products, so the room for them is made once, and they are not shifted: they are left modulo a multiple of m that divide can take, which keeps them right modulo m; the numbers given must be below that multiple, as those below m and 1 are.
func modulo(m []uint64) func(a, b []uint64) {
	multiple, _ := raised(m)
	product := make([]uint64, 2*len(m))
	quotient := make([]uint64, len(m))
	return func(a, b []uint64) {
		multiply(product, a, b)
		divide(quotient, product, multiple)
		copy(a, product)
	}
}
