package pre_test

import (
	"math/big"
	"testing"

	"quarry/api"
	"quarry/curve"
	"quarry/tower"
)

// dots are points of Bn, zero too.
func dots() []dot {
	g, l := bn(), []dot{{}, bnG()}
	for _, k := range []*big.Int{n(2), n(3), minus(g.order, n(1)), minus(g.order, n(2)), power2(200, 77), power2(253, 1)} {
		l = append(l, g.times(bnG(), k))
	}
	return l
}

// lost are 64 bytes that are no point: not on the curve, or with a part that is not below the prime.
func lost() [][]byte {
	p := bn().p
	var l [][]byte
	for _, x := range [][2]*big.Int{{n(1), n(3)}, {n(0), n(1)}, {n(1), n(0)}, {n(2), n(1)}, {minus(p, n(1)), n(2)}, {n(1), plus(p, n(2))}, {plus(p, n(1)), n(2)}, {p, n(0)}, {n(0), p}, {p, p}, {n(1), minus(plus(p, p), n(2))}, {power2(256, -1), power2(256, -1)}, {n(1), power2(255, 2)}} {
		l = append(l, join(wide(x[0]), wide(x[1])))
	}
	return l
}

// P16.2, 6: sums that others tell, of any two points, and of a point and itself.
func TestSums(t *testing.T) {
	t.Parallel()
	must(t, 6, unhex("18b18acfb4c2c30276db5411368e7185b311dd124691610c5d3b74034e093dc9063c909c4720840cb5134cb9f59fa749755796819658d32efc0d288198f3726607c2b7f58a84bd6145f00c9c2bc0bb1a187f20ff2c92963a88019e7c6a014eed06614e20c147e940f2d70da3f74c9a17df361706a4485c742bd6788478fa17d7"),
		unhex("2243525c5efd4b9c3d3c45ac0ca3fe4dd85e830a4ce6b65fa1eeaee202839703301d1d33be6da8e509df21cc35964723180eed7532537db9ae5e7d48f195c915"), "what others tell")
	for _, d := range dots() {
		for _, o := range dots() {
			must(t, 6, join(d.bytes(), o.bytes()), bn().sum(d, o).bytes())
		}
	}
}

// P16.2, 7: multiples that others tell, of any point and number.
func TestMultiples(t *testing.T) {
	t.Parallel()
	must(t, 7, unhex("2bd3e6d0f3b142924f5ca7b49ce5b9d54c4703d7ae5648e61d02268b1a0a9fb721611ce0a6af85915e2f1d70300909ce2e49dfad4a4619c8390cae66cefdb20400000000000000000000000000000000000000000000000011138ce750fa15c2"),
		unhex("070a8d6a982153cae4be29d434e8faef8a47b274a053f5a4ee2a6c9c13c31e5c031b8ce914eba3a9ffb989f9cdd5b0f01943074bf4f0f315690ec3cec6981afc"), "what others tell")
	order := bn().order
	for _, d := range dots() {
		for _, k := range []*big.Int{n(0), n(1), n(2), n(3), n(255), minus(order, n(1)), order, plus(order, n(1)), power2(128, 0), power2(255, 0), power2(256, -1)} {
			must(t, 7, join(d.bytes(), wide(k)), bn().times(d, k).bytes(), k)
		}
	}
}

// P16.2, 6 and 7: they fail of what is no point, in each place.
func TestPointsRefused(t *testing.T) {
	t.Parallel()
	for _, b := range lost() {
		for _, d := range dots()[:3] {
			must(t, 6, join(b, d.bytes()), fails)
			must(t, 6, join(d.bytes(), b), fails)
		}
		must(t, 6, join(b, b), fails)
		must(t, 6, b, fails)
		for _, k := range []*big.Int{n(0), n(1), n(7), power2(256, -1)} {
			must(t, 7, join(b, wide(k)), fails)
		}
		must(t, 7, b, fails)
	}
}

// P16.2, 6 and 7: shorter inputs have zeros behind them, longer ones are cut.
func TestPointsOfLengths(t *testing.T) {
	t.Parallel()
	var m mixer = 30
	for _, d := range dots() {
		all := join(d.bytes(), bnG().bytes())
		product := join(d.bytes(), m.bytes(32))
		for end := range 129 {
			must(t, 6, all[:end], sumOut(all[:end]), end)
		}
		for end := range 97 {
			must(t, 7, product[:end], multipleOut(product[:end]), end)
		}
		for _, more := range []int{1, 31, 32, 500} {
			must(t, 6, join(all, m.bytes(more)), sumOut(all), "more behind it")
			must(t, 7, join(product, m.bytes(more)), multipleOut(product), "more behind it")
		}
	}
}

// second is a multiple of the second group's generator, as 128 bytes.
func second(t *testing.T, k *big.Int) []byte {
	t.Helper()
	g, _ := curve.Gen2(api.Bn)
	p, e := curve.Mul2(api.Bn, g, mod(k, bn().order).Bytes())
	if e != api.OK {
		t.Fatal(e)
	}
	b, e := curve.WriteBn2(p)
	if e != api.OK {
		t.Fatal(e)
	}
	return b
}

// first is a multiple of the first group's generator, as 64 bytes.
func first(k *big.Int) []byte { return bn().times(bnG(), mod(k, bn().order)).bytes() }

// pairs is an input of the eighth: of each two numbers so many times the generators.
func pairs(t *testing.T, numbers ...*big.Int) []byte {
	t.Helper()
	var b []byte
	for i := 0; i < len(numbers); i += 2 {
		b = join(b, first(numbers[i]), second(t, numbers[i+1]))
	}
	return b
}

// truth is 1 or 0 as 32 bytes.
func truth(one bool) []byte {
	if one {
		return wide(n(1))
	}
	return wide(n(0))
}

// P16.2, 8: a product is 1, if the sum of the numbers' products is 0 modulo the order.
func TestProducts(t *testing.T) {
	t.Parallel()
	order := bn().order
	var m mixer = 31
	a, b, c := m.number(order), m.number(order), m.number(order)
	for _, l := range [][]*big.Int{
		{}, {n(1), n(1)}, {n(0), n(0)}, {n(0), n(1)}, {n(1), n(0)},
		{n(1), n(1), n(-1), n(1)}, {n(1), n(1), n(1), n(-1)}, {n(1), n(1), n(1), n(1)}, {n(2), n(3), n(-6), n(1)}, {n(2), n(3), n(-5), n(1)},
		{n(0), n(5), n(7), n(0)}, {n(1), n(1), n(0), n(1)}, {n(1), n(2), n(3), n(4), n(-7), n(2)}, {n(1), n(2), n(3), n(4), n(-7), n(1)},
		{a, b, times(a, b), n(-1)}, {a, b, times(a, b), n(1)}, {a, b, c, a, minus(n(0), a), plus(b, c)}, {a, b, c, a, minus(n(0), a), plus(c, c)},
		{n(1), n(1), n(1), n(1), n(1), n(1), n(1), n(1), n(-4), n(1)},
	} {
		sum := n(0)
		for i := 0; i < len(l); i += 2 {
			sum = plus(sum, times(l[i], l[i+1]))
		}
		must(t, 8, pairs(t, l...), truth(mod(sum, order).Sign() == 0), l)
	}
}

// P16.2, 8: a pair of points that others tell, whose product is 1.
func TestKnownProduct(t *testing.T) {
	t.Parallel()
	must(t, 8, unhex("1c76476f4def4bb94541d57ebba1193381ffa7aa76ada664dd31c16024c43f59"+
		"3034dd2920f673e204fee2811c678745fc819b55d3e9d294e45c9b03a76aef41"+
		"209dd15ebff5d46c4bd888e51a93cf99a7329636c63514396b4a452003a35bf7"+
		"04bf11ca01483bfa8b34b43561848d28905960114c8ac04049af4b6315a41678"+
		"2bb8324af6cfc93537a2ad1a445cfd0ca2a71acd7ac41fadbf933c2a51be344d"+
		"120a2a4cf30c1bf9845f20c6fe39e07ea2cce61f0c9bb048165fe5e4de877550"+
		"111e129f1cf1097710d41c4ac70fcdfa5ba2023c6ff1cbeac322de49d1b6df7c"+
		"2032c61a830e3c17286de9462bf242fca2883585b93870a73853face6a6bf411"+
		"198e9393920d483a7260bfb731fb5d25f1aa493335a9e71297e485b7aef312c2"+
		"1800deef121f1e76426a00665e5c4479674322d4f75edadd46debd5cd992f6ed"+
		"090689d0585ff075ec9e99ad690c3395bc4b313370b38ef355acdadcd122975b"+
		"12c85ea5db8c6deb4aab71808dcb408fe3d1e7690c43d37b4ce6cc0166fa7daa"), truth(true))
}

// P16.2, 8: it fails, unless all pairs are whole.
func TestProductsOfLengths(t *testing.T) {
	t.Parallel()
	whole := pairs(t, n(0), n(0), n(0), n(1), n(0), n(0))
	for size := range len(whole) + 1 {
		want := truth(true)
		if size%192 != 0 {
			want = fails
		}
		must(t, 8, whole[:size], want, size)
	}
}

// outside is a point of Bn's second curve that is not in the group, as 128 bytes.
func outside(t *testing.T) []byte {
	t.Helper()
	two, e := tower.New(api.Bn)
	if e != api.OK {
		t.Fatal(e)
	}
	g, _ := curve.Gen2(api.Bn)
	cube := func(x api.F2) api.F2 { return two.Mul2(two.Mul2(x, x), x) }
	b := two.Sub2(two.Mul2(g.Y, g.Y), cube(g.X))
	for k := uint64(1); ; k++ {
		x := api.F2{{k}, {1}}
		y, ok := two.Sqrt2(two.Add2(cube(x), b))
		if p := (api.P2{X: x, Y: y}); ok && !curve.In2(api.Bn, p) {
			l, e := curve.WriteBn2(p)
			if e != api.OK {
				t.Fatal(e)
			}
			return l
		}
	}
}

// lostSecond are 128 bytes that are no point of the second group.
func lostSecond(t *testing.T) [][]byte {
	t.Helper()
	g := second(t, n(1))
	l := [][]byte{outside(t), join(make([]byte, 127), []byte{1}), turned(g, 0), turned(g, 8*127), join(g[32:64], g[:32], g[64:]), join(g[:64], g[96:], g[64:96])}
	for i := range 4 { // each part, and the prime more
		l = append(l, join(g[:32*i], wide(plus(of(g[32*i:32*i+32]), bn().p)), g[32*i+32:]))
	}
	return append(l, join(wide(bn().p), make([]byte, 96)))
}

// P16.2, 8: it fails of what is no point, in each place, be the other one zero, and whatever the other pairs are.
func TestProductsRefused(t *testing.T) {
	t.Parallel()
	right := pairs(t, n(1), n(1))
	var bad [][]byte
	for _, b := range lost() {
		bad = append(bad, join(b, second(t, n(0))))
	}
	for _, b := range lostSecond(t) {
		bad = append(bad, join(first(n(0)), b))
	}
	bad = append(bad, join(lost()[0], second(t, n(1))), join(first(n(1)), outside(t)))
	for i, b := range bad {
		for _, input := range [][]byte{b, join(right, b), join(b, right)} {
			must(t, 8, input, fails, i)
		}
	}
}
