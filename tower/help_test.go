package tower_test

import (
	"math/big"
	"testing"

	"quarry/api"
	"quarry/tower"
)

// The calls have the signatures that the chapter lists.
var (
	_ func(curve int) (*tower.Tower, api.Errno)          = tower.New
	_ func(t *tower.Tower, a, b api.F2) api.F2           = (*tower.Tower).Add2
	_ func(t *tower.Tower, a, b api.F2) api.F2           = (*tower.Tower).Sub2
	_ func(t *tower.Tower, a, b api.F2) api.F2           = (*tower.Tower).Mul2
	_ func(t *tower.Tower, a api.F2) (api.F2, bool)      = (*tower.Tower).Inv2
	_ func(t *tower.Tower, a api.F2) api.F2              = (*tower.Tower).Conj2
	_ func(t *tower.Tower, a api.F2) (api.F2, bool)      = (*tower.Tower).Sqrt2
	_ func(t *tower.Tower, a, b api.F6) api.F6           = (*tower.Tower).Mul6
	_ func(t *tower.Tower, a api.F6) (api.F6, bool)      = (*tower.Tower).Inv6
	_ func(t *tower.Tower, a, b api.F12) api.F12         = (*tower.Tower).Mul12
	_ func(t *tower.Tower, a api.F12) (api.F12, bool)    = (*tower.Tower).Inv12
	_ func(t *tower.Tower, a api.F12) api.F12            = (*tower.Tower).Conj12
	_ func(t *tower.Tower, a api.F12, times int) api.F12 = (*tower.Tower).Frob12
	_ func(t *tower.Tower, a api.F12, e []byte) api.F12  = (*tower.Tower).Exp12
	_ func(t *tower.Tower) api.F12                       = (*tower.Tower).One12
)

// row is one of the two towers: its prime, and s of x = s + u.
type row struct {
	name  string
	curve int
	text  string
	s     int64
	p     *big.Int
}

// table is the two towers.
func table() []row {
	l := []row{
		{"Bn", api.Bn, "30644e72e131a029b85045b68181585d97816a916871ca8d3c208c16d87cfd47", 9, nil},
		{"Bls", api.Bls, "1a0111ea397fe69a4b1ba7b6434bacd764774b84f38512bf6730d2a0f6b0f6241eabfffeb153ffffb9feffffffffaaab", 1, nil},
	}
	for i := range l {
		l[i].p, _ = new(big.Int).SetString(l[i].text, 16)
	}
	return l
}

// each runs a test for each tower.
func each(t *testing.T, test func(t *testing.T, f *tower.Tower, r row)) {
	for _, r := range table() {
		t.Run(r.name, func(t *testing.T) {
			f, e := tower.New(r.curve)
			if e != api.OK || f == nil {
				t.Fatalf("New(%d): %v", r.curve, e)
			}
			test(t, f, r)
		})
	}
}

// value is the number that a is.
func value(a api.Num) *big.Int {
	n := new(big.Int)
	for i := 5; i >= 0; i-- {
		n.Lsh(n, 64)
		n.Or(n, new(big.Int).SetUint64(a[i]))
	}
	return n
}

// num is n modulo 2^384, as limbs.
func num(n *big.Int) api.Num {
	var a api.Num
	low := new(big.Int).SetUint64(1<<64 - 1)
	for i := range a {
		a[i] = new(big.Int).And(new(big.Int).Rsh(n, uint(64*i)), low).Uint64()
	}
	return a
}

// sum is n + more.
func sum(n *big.Int, more int64) *big.Int { return new(big.Int).Add(n, big.NewInt(more)) }

// less is p - n.
func (r row) less(n int64) api.Num { return num(sum(r.p, -n)) }

// mixer tells numbers without any order, the same ones in each run.
type mixer uint64

func (m *mixer) next() uint64 {
	*m += 0x9e3779b97f4a7c15
	z := uint64(*m)
	z = (z ^ z>>30) * 0xbf58476d1ce4e5b9
	z = (z ^ z>>27) * 0x94d049bb133111eb
	return z ^ z>>31
}

// num is a number of 384 bits.
func (m *mixer) num() api.Num {
	var a api.Num
	for i := range a {
		a[i] = m.next()
	}
	return a
}

// bytes is so many bytes.
func (m *mixer) bytes(n int) []byte {
	b := make([]byte, n)
	for i := range b {
		b[i] = byte(m.next())
	}
	return b
}

// pick is one of the numbers, or one without any order.
func (m *mixer) pick(l []api.Num) api.Num {
	if i := m.next() % uint64(2*len(l)); i < uint64(len(l)) {
		return l[i]
	}
	return m.num()
}

// edges are numbers about 0, about multiples of the prime, its half, and the ends of what limbs, elements and Nums hold.
func (r row) edges() []api.Num {
	end := new(big.Int).Lsh(big.NewInt(1), 384)
	most := new(big.Int).Mul(new(big.Int).Div(sum(end, -1), r.p), r.p) // the greatest multiple of p
	l := []api.Num{{}, {1}, {2}, {3}, {9}, num(sum(end, -1)), num(new(big.Int).Lsh(big.NewInt(1), 64)), num(new(big.Int).Lsh(big.NewInt(1), 256)), num(new(big.Int).Mul(r.p, big.NewInt(5)))}
	for _, n := range []*big.Int{r.p, new(big.Int).Rsh(r.p, 1), new(big.Int).Lsh(r.p, 1), most} {
		for more := range int64(3) {
			l = append(l, num(sum(n, more-1)))
		}
	}
	return l
}

// twos are elements of each two edges, and some without any order.
func (r row) twos() []api.F2 {
	var l []api.F2
	edges := r.edges()
	for _, a := range edges {
		for _, b := range edges {
			l = append(l, api.F2{a, b})
		}
	}
	m := mixer(r.curve)
	for range 40 {
		l = append(l, api.F2{m.num(), m.num()})
	}
	return l
}

// twelves are 0 and 1 in several writings, elements of one part that is not 0, elements without one of the parts, and elements of edges and of numbers without any order.
func (r row) twelves() []api.F12 {
	m := mixer(40 + r.curve)
	edges := r.edges()
	element := func(has func(i int) bool, part func() api.Num) (a api.F12) {
		for i := range 12 {
			if has(i) {
				*at(&a, i) = part()
			}
		}
		return a
	}
	all := func(int) bool { return true }
	mixed := func() api.Num { return m.pick(edges) }
	l := []api.F12{{}, {{{{1}}}}, element(all, func() api.Num { return num(r.p) }), {{{num(sum(r.p, 1))}}}}
	for _, n := range []api.Num{{1}, r.less(1), num(sum(r.p, 1)), edges[5]} {
		l = append(l, element(all, func() api.Num { return n }))
	}
	for i := range 12 {
		l = append(l, element(func(j int) bool { return j == i }, func() api.Num { return api.Num{1} }))
		l = append(l, element(func(j int) bool { return j == i }, mixed))
		l = append(l, element(func(j int) bool { return j != i }, mixed))
	}
	for i := range 6 {
		l = append(l, element(func(j int) bool { return j/2 == i }, mixed), element(func(j int) bool { return j/2 != i }, mixed))
	}
	for range 12 {
		l = append(l, element(all, mixed), element(all, m.num))
	}
	return l
}

// sixes are the halves of the twelves, without those that come twice.
func (r row) sixes() []api.F6 {
	var l []api.F6
	met := map[api.F6]int{}
	for _, a := range r.twelves() {
		for _, half := range a {
			if met[half]++; met[half] == 1 {
				l = append(l, half)
			}
		}
	}
	return l
}

// at is the number i of a, in the order in which they are written.
func at(a *api.F12, i int) *api.Num { return &a[i/6][i/2%3][i%2] }
