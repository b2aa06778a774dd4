package pair_test

import (
	"math/big"
	"testing"

	"quarry/api"
	"quarry/curve"
)

// P9.2: e(k G1, m G2) e(n G1, G2) is 1 just if k m + n is 0, of small numbers.
func TestSmall(t *testing.T) {
	each(t, func(t *testing.T, s side) {
		for k := int64(-3); k <= 3; k++ {
			for m := int64(-3); m <= 3; m++ {
				for _, other := range []int64{-k * m, k * m, 1 - k*m, -k * m * 2} {
					s.check(t, logs{n(k), n(m)}, logs{n(other), n(1)})
				}
			}
		}
	})
}

// edges are numbers about 0, about the order, its half and its third, and powers of 2.
func (s side) edges() []*big.Int {
	half, third := new(big.Int).Rsh(s.order, 1), new(big.Int).Div(s.order, n(3))
	return []*big.Int{
		n(0), n(1), n(2), plus(s.order, -1), plus(s.order, -2), s.order, plus(s.order, 1), half, plus(half, 1), third,
		new(big.Int).Lsh(n(1), 64), new(big.Int).Lsh(n(1), 128), new(big.Int).Lsh(n(1), 253),
	}
}

// P9.2: numbers of edges; what is missing from the product to 1, and numbers beside it.
func TestEdges(t *testing.T) {
	each(t, func(t *testing.T, s side) {
		for i, k := range s.edges() {
			for j, m := range s.edges() {
				missing := minus(times(k, m))
				s.check(t, logs{k, m}, logs{missing, n(1)})
				s.check(t, logs{k, m}, logs{plus(missing, int64(1-2*((i+j)%2))), n(1)})
			}
		}
	})
}

// P9.2: one pair; of k and m without any order too.
func TestOnePair(t *testing.T) {
	each(t, func(t *testing.T, s side) {
		m := mixer(s.curve)
		for _, k := range s.edges() {
			s.check(t, logs{k, n(1)})
			s.check(t, logs{n(1), k})
			s.check(t, logs{m.below(s.order), k})
			s.check(t, logs{k, m.below(s.order)})
		}
		for range 20 {
			s.check(t, logs{m.below(s.order), m.below(s.order)})
		}
	})
}

// product is some pairs without any order, with one more, by which the sum of k m is what it must be.
func (s side) product(m *mixer, pairs int, sum *big.Int) []logs {
	var l []logs
	for range pairs - 1 {
		x := logs{m.below(s.order), m.below(s.order)}
		l = append(l, x)
		sum = new(big.Int).Sub(sum, times(x.k, x.m))
	}
	last := m.below(s.order)
	part := new(big.Int).ModInverse(last, s.order)
	k := new(big.Int).Mod(times(sum, part), s.order)
	if m.next()%2 == 0 {
		return append(l, logs{k, last})
	}
	return append(l, logs{last, k})
}

// P9.1, P9.2: products of pairs without any order, whose sum of k m is 0, or beside it, or as great as can be.
func TestMixed(t *testing.T) {
	each(t, func(t *testing.T, s side) {
		m := mixer(20 + s.curve)
		sums := []*big.Int{n(1), n(-1), n(2), n(3), new(big.Int).Lsh(n(1), 64), new(big.Int).Rsh(s.order, 1), m.below(s.order)}
		for pairs := 1; pairs <= 7; pairs++ {
			for _, sum := range sums {
				for _, sum := range []*big.Int{n(0), sum} {
					l := s.product(&m, pairs, sum)
					if s.unity(l) != (sum.Sign() == 0) {
						t.Fatalf("the sum of %v is not %v", l, sum)
					}
					s.check(t, l...)
				}
			}
		}
	})
}

// P9.1: sums that are not 0, but numbers by which the curves were made, or powers of the prime.
func TestSums(t *testing.T) {
	each(t, func(t *testing.T, s side) {
		seed, prime := new(big.Int).SetUint64(4965661367192848881), "30644e72e131a029b85045b68181585d97816a916871ca8d3c208c16d87cfd47"
		if s.curve == api.Bls {
			seed, prime = new(big.Int).SetUint64(0xd201000000010000), "1a0111ea397fe69a4b1ba7b6434bacd764774b84f38512bf6730d2a0f6b0f6241eabfffeb153ffffb9feffffffffaaab"
		}
		p, _ := new(big.Int).SetString(prime, 16)
		power := n(1)
		for range 13 {
			s.check(t, logs{n(1), power})
			s.check(t, logs{power, n(1)}, logs{n(-1), power})
			s.check(t, logs{power, n(1)}, logs{n(-1), plus(power, 1)})
			power = new(big.Int).Mod(times(power, p), s.order)
		}
		for _, k := range []*big.Int{seed, plus(seed, 1), plus(seed, -1), times(seed, seed), plus(times(seed, n(6)), 2), times(times(seed, seed), n(6))} {
			s.check(t, logs{k, n(1)})
			s.check(t, logs{k, k}, logs{minus(k), n(1)})
			s.check(t, logs{k, k}, logs{minus(times(k, k)), n(1)})
			s.check(t, logs{n(3), k}, logs{minus(k), n(3)})
		}
	})
}

// orders are all orders of so many things.
func orders(many int) [][]int {
	if many == 0 {
		return [][]int{nil}
	}
	var l [][]int
	for _, o := range orders(many - 1) {
		for at := range many {
			l = append(l, append(append(append([]int{}, o[:at]...), many-1), o[at:]...))
		}
	}
	return l
}

// P9.2: the pairs' order does not count, but which points are paired does.
func TestOrder(t *testing.T) {
	each(t, func(t *testing.T, s side) {
		m := mixer(40 + s.curve)
		for _, sum := range []*big.Int{n(0), n(1)} {
			l := append(s.product(&m, 3, sum), logs{n(0), n(5)})
			a, b := s.points(t, l)
			for _, o := range orders(len(l)) {
				var c []api.P1
				var d []api.P2
				var crossed []logs
				for i, at := range o {
					c, d = append(c, a[at]), append(d, b[at])
					crossed = append(crossed, logs{l[at].k, l[i].m})
				}
				s.must(t, c, d, sum.Sign() == 0, "order", o)
				s.must(t, c, b, s.unity(crossed), "crosswise", o)
			}
		}
	})
}

// P9.2: a zero on either side, or on both, adds nothing, wherever its pair stands, and whatever coordinates it has.
func TestZeros(t *testing.T) {
	each(t, func(t *testing.T, s side) {
		for _, z := range odd1() {
			for _, w := range odd2() {
				s.must(t, []api.P1{z, s.g1, z}, []api.P2{s.g2, w, w}, true, "zeros alone")
				for _, k := range []int64{-1, 1} {
					p, q := s.first(t, n(k)), s.second(t, n(9))
					s.must(t, []api.P1{z, s.g1, p, p}, []api.P2{q, s.g2, s.g2, w}, k < 0, "zeros about two pairs of", k)
					s.must(t, []api.P1{s.g1, z, p, s.g1, p}, []api.P2{s.g2, w, w, w, s.g2}, k < 0, "zeros between two pairs of", k)
				}
			}
		}
	})
}

// P9.1: a pairing is bilinear, by the sums of points themselves.
func TestBilinear(t *testing.T) {
	each(t, func(t *testing.T, s side) {
		m := mixer(60 + s.curve)
		for range 6 {
			p, q := s.first(t, m.below(s.order)), s.first(t, m.below(s.order))
			r, w := s.second(t, m.below(s.order)), s.second(t, m.below(s.order))
			sum, _ := curve.Add1(s.curve, p, q)
			turned, _ := curve.Neg1(s.curve, sum)
			s.must(t, []api.P1{p, q, turned}, []api.P2{r, r, r}, true, "a sum in the first group")
			s.must(t, []api.P1{p, q, sum}, []api.P2{r, r, r}, false, "a sum in the first group")
			s.must(t, []api.P1{p, q, turned}, []api.P2{r, r, w}, false, "a sum in the first group")
			both, _ := curve.Add2(s.curve, r, w)
			back, _ := curve.Neg2(s.curve, both)
			s.must(t, []api.P1{p, p, p}, []api.P2{r, w, back}, true, "a sum in the second group")
			s.must(t, []api.P1{p, p, p}, []api.P2{r, w, both}, false, "a sum in the second group")
			s.must(t, []api.P1{p, q, p}, []api.P2{r, w, back}, false, "a sum in the second group")
			s.must(t, []api.P1{sum, turned}, []api.P2{both, both}, true, "opposites in the first group")
			s.must(t, []api.P1{sum, sum}, []api.P2{both, back}, true, "opposites in the second group")
			s.must(t, []api.P1{sum, turned}, []api.P2{both, back}, false, "opposites in both")
		}
	})
}

// P9.1: many pairs, and the same ones many times over.
func TestMany(t *testing.T) {
	each(t, func(t *testing.T, s side) {
		m := mixer(80 + s.curve)
		l := s.product(&m, 60, n(0))
		a, b := s.points(t, l)
		s.must(t, a, b, true, "60 pairs")
		s.must(t, append(a, a...), append(b, b...), true, "60 pairs, twice")
		a[30], a[31] = a[31], a[30]
		s.must(t, a, b, false, "60 pairs, two of them crosswise")
		p, q := s.first(t, n(7)), s.second(t, n(11))
		a, b = nil, nil
		for range 30 {
			a, b = append(a, p), append(b, q)
		}
		s.must(t, append(a, s.first(t, n(-30))), append(b, s.second(t, n(77))), true, "30 times the same")
		s.must(t, append(a, s.first(t, n(-29))), append(b, s.second(t, n(77))), false, "30 times the same")
	})
}
