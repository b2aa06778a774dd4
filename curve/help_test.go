package curve_test

import (
	"math/big"
	"testing"

	"quarry/api"
	"quarry/curve"
)

// The calls have the signatures that the chapter lists.
var (
	_ func(curve int) (api.P1, api.Errno)                     = curve.Gen1
	_ func(curve int, p api.P1) bool                          = curve.On1
	_ func(curve int, p api.P1) bool                          = curve.In1
	_ func(curve int, p api.P1) (api.P1, api.Errno)           = curve.Neg1
	_ func(curve int, p, q api.P1) (api.P1, api.Errno)        = curve.Add1
	_ func(curve int, p api.P1, k []byte) (api.P1, api.Errno) = curve.Mul1
	_ func(curve int) (api.P2, api.Errno)                     = curve.Gen2
	_ func(curve int, p api.P2) bool                          = curve.On2
	_ func(curve int, p api.P2) bool                          = curve.In2
	_ func(curve int, p api.P2) (api.P2, api.Errno)           = curve.Neg2
	_ func(curve int, p, q api.P2) (api.P2, api.Errno)        = curve.Add2
	_ func(curve int, p api.P2, k []byte) (api.P2, api.Errno) = curve.Mul2
	_ func(b []byte) (api.P1, api.Errno)                      = curve.ReadBn1
	_ func(p api.P1) ([]byte, api.Errno)                      = curve.WriteBn1
	_ func(b []byte) (api.P2, api.Errno)                      = curve.ReadBn2
	_ func(p api.P2) ([]byte, api.Errno)                      = curve.WriteBn2
	_ func(b []byte) (api.P1, api.Errno)                      = curve.Unpack1
	_ func(p api.P1) ([]byte, api.Errno)                      = curve.Pack1
	_ func(b []byte) (api.P2, api.Errno)                      = curve.Unpack2
	_ func(p api.P2) ([]byte, api.Errno)                      = curve.Pack2
)

// big2 is a coordinate, a + b u; of a first curve b is 0.
type big2 [2]*big.Int

// dot is a point, over math/big.
type dot struct {
	x, y big2
	inf  bool
}

// side is one of the five curves: its prime, b, its group's order, how many times as many points it has, its generator; and the calls for it.
type side struct {
	name         string
	curve        int
	second       bool
	p, order     *big.Int
	times, whole *big.Int
	b            big2
	gen          dot
}

// hex is the number that a text of digits to the base 16 tells.
func hex(s string) *big.Int {
	n, ok := new(big.Int).SetString(s, 16)
	if !ok {
		panic(s)
	}
	return n
}

func n(x int64) *big.Int { return big.NewInt(x) }

const (
	secpP = "fffffffffffffffffffffffffffffffffffffffffffffffffffffffefffffc2f"
	secpN = "fffffffffffffffffffffffffffffffebaaedce6af48a03bbfd25e8cd0364141"
	bnP   = "30644e72e131a029b85045b68181585d97816a916871ca8d3c208c16d87cfd47"
	bnR   = "30644e72e131a029b85045b68181585d2833e84879b9709143e1f593f0000001"
	blsP  = "1a0111ea397fe69a4b1ba7b6434bacd764774b84f38512bf6730d2a0f6b0f6241eabfffeb153ffffb9feffffffffaaab"
	blsR  = "73eda753299d7d483339d80809a1d80553bda402fffe5bfeffffffff00000001"
)

// sides are the five. How many points the curves of Bls and the second one of Bn have follows from the parameters by which they were found; TestWhole holds it against points.
func sides() []side {
	bn, bls := hex(bnP), hex(blsP)
	ninth := new(big.Int).ModInverse(n(82), bn) // 3/(9 + u) is 3 (9 - u)/82
	b2 := big2{mod(new(big.Int).Mul(n(27), ninth), bn), mod(new(big.Int).Mul(n(-3), ninth), bn)}
	x := new(big.Int).Neg(hex("d201000000010000"))
	times1 := new(big.Int).Div(new(big.Int).Mul(plus(x, -1), plus(x, -1)), n(3))
	times2, power := n(0), n(1)
	for _, c := range []int64{13, -4, -4, 6, -4, 0, 5, -4, 1} {
		times2.Add(times2, new(big.Int).Mul(n(c), power))
		power.Mul(power, x)
	}
	times2.Div(times2, n(9))
	l := []side{
		{name: "Secp", curve: api.Secp, p: hex(secpP), order: hex(secpN), times: n(1), b: big2{n(7), n(0)},
			gen: dot{x: big2{hex("79be667ef9dcbbac55a06295ce870b07029bfcdb2dce28d959f2815b16f81798"), n(0)}, y: big2{hex("483ada7726a3c4655da4fbfc0e1108a8fd17b448a68554199c47d08ffb10d4b8"), n(0)}}},
		{name: "Bn", curve: api.Bn, p: bn, order: hex(bnR), times: n(1), b: big2{n(3), n(0)},
			gen: dot{x: big2{n(1), n(0)}, y: big2{n(2), n(0)}}},
		{name: "Bls", curve: api.Bls, p: bls, order: hex(blsR), times: times1, b: big2{n(4), n(0)},
			gen: dot{x: big2{hex("17f1d3a73197d7942695638c4fa9ac0fc3688c4f9774b905a14e3a3f171bac586c55e83ff97a1aeffb3af00adb22c6bb"), n(0)}, y: big2{hex("08b3f481e3aaa0f1a09e30ed741d8ae4fcf5e095d5d00af600db18cb2c04b3edd03cc744a2888ae40caa232946c5e7e1"), n(0)}}},
		{name: "Bn's second", curve: api.Bn, second: true, p: bn, order: hex(bnR), times: new(big.Int).Sub(new(big.Int).Lsh(bn, 1), hex(bnR)), b: b2,
			gen: dot{
				x: big2{hex("1800deef121f1e76426a00665e5c4479674322d4f75edadd46debd5cd992f6ed"), hex("198e9393920d483a7260bfb731fb5d25f1aa493335a9e71297e485b7aef312c2")},
				y: big2{hex("12c85ea5db8c6deb4aab71808dcb408fe3d1e7690c43d37b4ce6cc0166fa7daa"), hex("090689d0585ff075ec9e99ad690c3395bc4b313370b38ef355acdadcd122975b")}}},
		{name: "Bls' second", curve: api.Bls, second: true, p: bls, order: hex(blsR), times: times2, b: big2{n(4), n(4)},
			gen: dot{
				x: big2{hex("024aa2b2f08f0a91260805272dc51051c6e47ad4fa403b02b4510b647ae3d1770bac0326a805bbefd48056c8c121bdb8"), hex("13e02b6052719f607dacd3a088274f65596bd0d09920b61ab5da61bbdc7f5049334cf11213945d57e5ac7d055d042b7e")},
				y: big2{hex("0ce5d527727d6e118cc9cdc6da2e351aadfd9baa8cbdd3a76d429a695160d12c923ac9cc3baca289e193548608b82801"), hex("0606c4a02ea734cc32acd2b02bc28b99cb3e287e85a763af267492ab572e99ab3f370d275cec1da1aaa9075ff05f79be")}}},
	}
	for i := range l {
		l[i].whole = new(big.Int).Mul(l[i].order, l[i].times)
	}
	return l
}

// each runs a test for each curve.
func each(t *testing.T, test func(t *testing.T, s side)) {
	for _, s := range sides() {
		t.Run(s.name, func(t *testing.T) {
			t.Parallel()
			test(t, s)
		})
	}
}

// plus is a + more.
func plus(a *big.Int, more int64) *big.Int { return new(big.Int).Add(a, n(more)) }

// mod is a modulo p.
func mod(a, p *big.Int) *big.Int { return new(big.Int).Mod(a, p) }

// value is the number that a is.
func value(a api.Num) *big.Int {
	v := new(big.Int)
	for i := 5; i >= 0; i-- {
		v.Lsh(v, 64)
		v.Or(v, new(big.Int).SetUint64(a[i]))
	}
	return v
}

// num is v modulo 2^384, as limbs.
func num(v *big.Int) api.Num {
	var a api.Num
	low := new(big.Int).SetUint64(1<<64 - 1)
	for i := range a {
		a[i] = new(big.Int).And(new(big.Int).Rsh(v, uint(64*i)), low).Uint64()
	}
	return a
}

// p1 is the dot as a point of a first curve, p2 as one of a second.
func (d dot) p1() api.P1 {
	if d.inf {
		return api.P1{Inf: true}
	}
	return api.P1{X: num(d.x[0]), Y: num(d.y[0])}
}

func (d dot) p2() api.P2 {
	if d.inf {
		return api.P2{Inf: true}
	}
	return api.P2{X: api.F2{num(d.x[0]), num(d.x[1])}, Y: api.F2{num(d.y[0]), num(d.y[1])}}
}

// of1 is the point as a dot; of zero, if it is told so, X and Y must be 0.
func of1(p api.P1) dot { return dot{big2{value(p.X), n(0)}, big2{value(p.Y), n(0)}, p.Inf} }

func of2(p api.P2) dot {
	return dot{big2{value(p.X[0]), value(p.X[1])}, big2{value(p.Y[0]), value(p.Y[1])}, p.Inf}
}

// zero is the zero that is told.
func zero() dot { return dot{big2{n(0), n(0)}, big2{n(0), n(0)}, true} }

// none is what is told beside an error.
func none() dot { return dot{big2{n(0), n(0)}, big2{n(0), n(0)}, false} }

// same: are they the same, each part?
func (d dot) same(o dot) bool {
	return d.inf == o.inf && d.x[0].Cmp(o.x[0]) == 0 && d.x[1].Cmp(o.x[1]) == 0 && d.y[0].Cmp(o.y[0]) == 0 && d.y[1].Cmp(o.y[1]) == 0
}

// The calls, of whichever of the two kinds.

func (s side) Gen() (dot, api.Errno) {
	if s.second {
		p, e := curve.Gen2(s.curve)
		return of2(p), e
	}
	p, e := curve.Gen1(s.curve)
	return of1(p), e
}

func (s side) On(d dot) bool {
	if s.second {
		return curve.On2(s.curve, d.p2())
	}
	return curve.On1(s.curve, d.p1())
}

func (s side) In(d dot) bool {
	if s.second {
		return curve.In2(s.curve, d.p2())
	}
	return curve.In1(s.curve, d.p1())
}

func (s side) Neg(d dot) (dot, api.Errno) {
	if s.second {
		p, e := curve.Neg2(s.curve, d.p2())
		return of2(p), e
	}
	p, e := curve.Neg1(s.curve, d.p1())
	return of1(p), e
}

func (s side) Add(d, o dot) (dot, api.Errno) {
	if s.second {
		p, e := curve.Add2(s.curve, d.p2(), o.p2())
		return of2(p), e
	}
	p, e := curve.Add1(s.curve, d.p1(), o.p1())
	return of1(p), e
}

func (s side) Mul(d dot, k []byte) (dot, api.Errno) {
	if s.second {
		p, e := curve.Mul2(s.curve, d.p2(), k)
		return of2(p), e
	}
	p, e := curve.Mul1(s.curve, d.p1(), k)
	return of1(p), e
}

// mixer tells numbers without any order, the same ones in each run.
type mixer uint64

func (m *mixer) next() uint64 {
	*m += 0x9e3779b97f4a7c15
	z := uint64(*m)
	z = (z ^ z>>30) * 0xbf58476d1ce4e5b9
	z = (z ^ z>>27) * 0x94d049bb133111eb
	return z ^ z>>31
}

// bytes is so many bytes.
func (m *mixer) bytes(n int) []byte {
	b := make([]byte, n)
	for i := range b {
		b[i] = byte(m.next())
	}
	return b
}

// below is a number below p.
func (m *mixer) below(p *big.Int) *big.Int { return mod(new(big.Int).SetBytes(m.bytes(64)), p) }
