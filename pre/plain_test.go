package pre_test

import (
	"math"
	"math/big"

	"quarry/api"
	"quarry/hash"
)

// The chapter's words over math/big: prices, who signed, sums of points, powers.

// priceOf is what a contract that is there takes.
func priceOf(at, number int, input []byte) uint64 {
	length := uint64(len(input))
	words := length / 32
	if length%32 != 0 {
		words++
	}
	late := at >= api.Istanbul
	pick := func(first, later uint64) uint64 {
		if late {
			return later
		}
		return first
	}
	switch number {
	case 1:
		return 3000
	case 2:
		return 60 + 12*words
	case 3:
		return 600 + 120*words
	case 4:
		return 15 + 3*words
	case 5:
		return powerOf(input).price(at)
	case 6:
		return pick(500, 150)
	case 7:
		return pick(40000, 6000)
	case 8:
		return pick(100000+80000*(length/192), 45000+34000*(length/192))
	case 9:
		if length != 213 {
			return 0
		}
		return of(input[:4]).Uint64()
	}
	return 50000
}

// An endless is an input with zeros without end behind it.
type endless []byte

// take is the number of so many bytes from a place on; a million at most.
func (b endless) take(from, size *big.Int) *big.Int {
	v := new(big.Int)
	if from.Cmp(n(int64(len(b)))) >= 0 {
		return v
	}
	if size.Cmp(n(1_000_000)) > 0 {
		panic("too long a number")
	}
	start, end := int(from.Int64()), int(from.Int64()+size.Int64())
	return of(sized(b[start:min(end, len(b))], end-start))
}

// A raised is what the fifth is asked for: base to the power exponent modulo modulus, by how many bytes these have, and where they begin.
type raised struct {
	b, e, m                 *big.Int
	base, exponent, modulus *big.Int
	input                   endless
}

func powerOf(input []byte) raised {
	r := raised{input: input}
	r.b, r.e, r.m = r.input.take(n(0), n(32)), r.input.take(n(32), n(32)), r.input.take(n(64), n(32))
	r.base = n(96)
	r.exponent = plus(r.base, r.b)
	r.modulus = plus(r.exponent, r.e)
	return r
}

// price is what it takes.
func (r raised) price(at int) uint64 {
	x := r.b
	if r.m.Cmp(x) > 0 {
		x = r.m
	}
	bits := r.bits()
	if bits.Sign() == 0 {
		bits = n(1)
	}
	var v *big.Int
	if at < api.Berlin {
		v = over(times(f(x), bits), 20)
	} else {
		y := over(plus(x, n(7)), 8)
		v = over(times(times(y, y), bits), 3)
		if v.Cmp(n(200)) < 0 {
			v = n(200)
		}
	}
	if !v.IsUint64() {
		return math.MaxUint64
	}
	return v.Uint64()
}

// f is the chapter's f(x).
func f(x *big.Int) *big.Int {
	square := times(x, x)
	if x.Cmp(n(64)) <= 0 {
		return square
	}
	if x.Cmp(n(1024)) <= 0 {
		return minus(plus(over(square, 4), times(n(96), x)), n(3072))
	}
	return minus(plus(over(square, 16), times(n(480), x)), n(199680))
}

// bits is the chapter's n.
func (r raised) bits() *big.Int {
	size, rest := r.e, n(0)
	if size.Cmp(n(32)) > 0 {
		rest = times(n(8), minus(size, n(32)))
		size = n(32)
	}
	h := r.input.take(r.exponent, size)
	if h.Sign() == 0 {
		return rest
	}
	return plus(rest, n(int64(h.BitLen()-1)))
}

// out is what it tells; r.m is no more than some millions.
func (r raised) out() []byte {
	out := make([]byte, r.m.Int64())
	if len(out) == 0 {
		return out
	}
	m := r.input.take(r.modulus, r.m)
	if m.Sign() == 0 {
		return out
	}
	v := new(big.Int).Exp(r.input.take(r.base, r.b), r.input.take(r.exponent, r.e), m)
	return mod(v, m).FillBytes(out)
}

// A group is that of the points of y^2 = x^3 + b modulo p; order is how many there are.
type group struct{ p, b, order *big.Int }

// dot is a point; zero's x is nil.
type dot struct{ x, y *big.Int }

func secp() group {
	return group{digits("fffffffffffffffffffffffffffffffffffffffffffffffffffffffefffffc2f"), n(7), digits("fffffffffffffffffffffffffffffffebaaedce6af48a03bbfd25e8cd0364141")}
}

func bn() group {
	return group{digits("30644e72e131a029b85045b68181585d97816a916871ca8d3c208c16d87cfd47"), n(3), digits("30644e72e131a029b85045b68181585d2833e84879b9709143e1f593f0000001")}
}

// secpG is Secp's generator.
func secpG() dot {
	return dot{digits("79be667ef9dcbbac55a06295ce870b07029bfcdb2dce28d959f2815b16f81798"), digits("483ada7726a3c4655da4fbfc0e1108a8fd17b448a68554199c47d08ffb10d4b8")}
}

// bnG is Bn's.
func bnG() dot { return dot{n(1), n(2)} }

// right is x^3 + b.
func (g group) right(x *big.Int) *big.Int { return mod(plus(times(times(x, x), x), g.b), g.p) }

// quotient is a / b modulo the prime.
func (g group) quotient(a, b *big.Int) *big.Int {
	return mod(times(a, new(big.Int).ModInverse(mod(b, g.p), g.p)), g.p)
}

// sum is d + o, by the slope of the line through them. No point has y 0.
func (g group) sum(d, o dot) dot {
	if d.x == nil {
		return o
	}
	if o.x == nil {
		return d
	}
	rise, run := minus(o.y, d.y), minus(o.x, d.x)
	if run.Sign() == 0 {
		if rise.Sign() != 0 {
			return dot{}
		}
		rise, run = times(n(3), times(d.x, d.x)), times(n(2), d.y)
	}
	s := g.quotient(rise, run)
	x := mod(minus(minus(times(s, s), d.x), o.x), g.p)
	return dot{x, mod(minus(times(s, minus(d.x, x)), d.y), g.p)}
}

// times is d added to itself so many times.
func (g group) times(d dot, k *big.Int) dot {
	var all dot
	for i := k.BitLen() - 1; i >= 0; i-- {
		all = g.sum(all, all)
		if k.Bit(i) == 1 {
			all = g.sum(all, d)
		}
	}
	return all
}

// bytes are the point's 64.
func (d dot) bytes() []byte {
	if d.x == nil {
		return make([]byte, 64)
	}
	return join(wide(d.x), wide(d.y))
}

// read is the point of Bn that 64 bytes are, if they are one.
func (g group) read(b []byte) (dot, bool) {
	x, y := of(b[:32]), of(b[32:])
	if x.Cmp(g.p) >= 0 || y.Cmp(g.p) >= 0 {
		return dot{}, false
	}
	if x.Sign() == 0 && y.Sign() == 0 {
		return dot{}, true
	}
	return dot{x, y}, mod(times(y, y), g.p).Cmp(g.right(x)) == 0
}

// sumOut is what the sixth tells.
func sumOut(input []byte) []byte {
	b := sized(input, 128)
	p, ok := bn().read(b[:64])
	q, ok2 := bn().read(b[64:])
	if !ok || !ok2 {
		return fails
	}
	return bn().sum(p, q).bytes()
}

// multipleOut is what the seventh tells.
func multipleOut(input []byte) []byte {
	b := sized(input, 96)
	p, ok := bn().read(b[:64])
	if !ok {
		return fails
	}
	return bn().times(p, of(b[64:])).bytes()
}

// signerOut is what the first tells.
func signerOut(input []byte) []byte {
	b := sized(input, 128)
	h, v, r, s := of(b[:32]), of(b[32:64]), of(b[64:96]), of(b[96:])
	g := secp()
	if v.Cmp(n(27)) != 0 && v.Cmp(n(28)) != 0 {
		return none
	}
	for _, a := range []*big.Int{r, s} {
		if a.Sign() == 0 || a.Cmp(g.order) >= 0 {
			return none
		}
	}
	y := new(big.Int).ModSqrt(g.right(r), g.p)
	if y == nil {
		return none
	}
	if (y.Bit(0) == 1) != (v.Bit(0) == 0) { // 28 is for an odd Y
		y = minus(g.p, y)
	}
	inverse := new(big.Int).ModInverse(r, g.order)
	key := g.sum(g.times(dot{r, y}, mod(times(s, inverse), g.order)), g.times(secpG(), mod(times(minus(g.order, mod(h, g.order)), inverse), g.order)))
	if key.x == nil {
		return none
	}
	k := hash.Keccak(key.bytes())
	return join(make([]byte, 12), k[12:])
}
