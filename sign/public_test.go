package sign_test

import (
	"math/big"
	"testing"

	"quarry/api"
	"quarry/curve"
	"quarry/hash"
	"quarry/sign"
)

// P11.1: of a key from 1 to n - 1, key times G.
func TestPublic(t *testing.T) {
	t.Parallel()
	keys := edges()
	var m mixer = 1
	for range 40 {
		keys = append(keys, m.scalar(), new(big.Int).Rsh(m.scalar(), uint(m.next()%250)))
	}
	for _, key := range keys {
		if key.Sign() == 0 {
			continue
		}
		if got, e := sign.Public(w(key)); got != many(gen(), key).point() || e != api.OK {
			t.Errorf("Public(%x): %v %v", key, got, e)
		}
	}
}

// P11.1: one key behind the other, each G further.
func TestPublicRow(t *testing.T) {
	t.Parallel()
	var up, down dot
	for key := int64(1); key <= 300; key++ {
		up, down = sum(up, gen()), sum(down, opposite(gen()))
		if got, e := sign.Public(w(n(key))); got != up.point() || e != api.OK {
			t.Errorf("Public(%d): %v %v", key, got, e)
		}
		if got, e := sign.Public(w(minus(order(), n(key)))); got != down.point() || e != api.OK {
			t.Errorf("Public(n - %d): %v %v", key, got, e)
		}
	}
}

// P11.1: ErrRange of all other numbers.
func TestPublicRange(t *testing.T) {
	t.Parallel()
	for _, key := range beyond() {
		if got, e := sign.Public(w(key)); got != (api.P1{}) || e != api.ErrRange {
			t.Errorf("Public(%x): %v %v", key, got, e)
		}
	}
}

// The addresses of some keys, as everybody knows them.
func TestAddressKnown(t *testing.T) {
	t.Parallel()
	for _, row := range []struct{ key, address string }{
		{"1", "7e5f4552091a69125d5dfcb7b8c2659029395bdf"},
		{"2", "2b5ad5c4795c026514f8317c7a215e218dccd6cf"},
		{"3", "6813eb9362372eef6200f3b1dbc3f819671cba69"},
		{"4646464646464646464646464646464646464646464646464646464646464646", "9d8a62f656a8d1615c1294fd71e9cfb3e4855a4f"},
		{"289c2857d4598e37fb9647507e47a309d6133539bf21a8b9cb6df88fd5232032", "970e8128ab834e8eac17ab8e3812f010678cf791"},
	} {
		p, e := sign.Public(w(unhex(row.key)))
		if e != api.OK {
			t.Fatal(row.key, e)
		}
		if got, e := sign.Address(p); got != address(t, row.address) || e != api.OK {
			t.Errorf("the address of %s: %x %v", row.key, got, e)
		}
	}
}

// P11.1: the last 20 bytes of Keccak of X and Y, 32 bytes each, be they with zeros ahead.
func TestAddress(t *testing.T) {
	t.Parallel()
	shortX, shortY := 0, 0
	var d dot
	for range 1000 {
		d = sum(d, gen())
		for _, d := range []dot{d, opposite(d)} {
			all := hash.Keccak(append(d.x.FillBytes(make([]byte, 32)), d.y.FillBytes(make([]byte, 32))...))
			if got, e := sign.Address(d.point()); got != api.Address(all[12:]) || e != api.OK {
				t.Errorf("Address(%v): %x %v", d.point(), got, e)
			}
			if d.x.BitLen() <= 248 {
				shortX++
			}
			if d.y.BitLen() <= 248 {
				shortY++
			}
		}
	}
	if shortX == 0 || shortY == 0 {
		t.Error("no number began with a zero:", shortX, shortY)
	}
}

// P11.1: zero has no address, whatever its coordinates are.
func TestAddressZero(t *testing.T) {
	t.Parallel()
	g := gen().point()
	for _, p := range []api.P1{{Inf: true}, {X: g.X, Y: g.Y, Inf: true}, {X: api.Num{1}, Y: api.Num{2}, Inf: true}} {
		mustLack(t, p)
	}
}

// mustLack looks whether a point has no address.
func mustLack(t *testing.T, p api.P1) {
	t.Helper()
	if got, e := sign.Address(p); got != (api.Address{}) || e != api.ErrCurve {
		t.Errorf("Address(%v): %x %v", p, got, e)
	}
}

// P11.1: nor has what is not on Secp: other coordinates, such that are the same modulo the prime, points of other curves.
func TestAddressOff(t *testing.T) {
	t.Parallel()
	bn, _ := curve.Gen1(api.Bn)
	bls, _ := curve.Gen1(api.Bls)
	for _, p := range []api.P1{{}, {X: api.Num{1}}, {Y: api.Num{1}}, bn, bls} {
		mustLack(t, p)
	}
	for _, k := range []int64{1, 2, 3, 77} {
		d := many(gen(), n(k))
		for bit := range 384 {
			p := d.point()
			p.X[bit/64] ^= 1 << (bit % 64)
			mustLack(t, p)
			p = d.point()
			p.Y[bit/64] ^= 1 << (bit % 64)
			mustLack(t, p)
		}
		for _, v := range []*big.Int{prime(), times(prime(), n(2)), times(prime(), power2(127))} {
			mustLack(t, dot{plus(d.x, v), d.y}.point())
			mustLack(t, dot{d.x, plus(d.y, v)}.point())
			mustLack(t, dot{plus(d.x, v), plus(d.y, v)}.point())
		}
		mustLack(t, dot{d.y, d.x}.point())
	}
}

// What is below the prime less 2^256 fits into 256 bits with the prime added: no address then, though all limbs above are 0.
func TestAddressAbovePrime(t *testing.T) {
	t.Parallel()
	room := minus(power2(256), prime())
	tried := 0
	for x := n(1); x.Cmp(n(60)) < 0; x = plus(x, n(1)) {
		d, ok := upon(x, true)
		if !ok {
			continue
		}
		tried++
		if d.x.Cmp(room) >= 0 {
			t.Fatal("no room")
		}
		if _, e := sign.Address(d.point()); e != api.OK {
			t.Errorf("Address(%v): %v", d.point(), e)
		}
		mustLack(t, dot{plus(d.x, prime()), d.y}.point())
	}
	if tried < 10 {
		t.Error("few points:", tried)
	}
}
