package kzg_test

import (
	"math/big"
	"testing"

	"quarry/api"
	"quarry/kzg"
)

// lines are such of edges, and some without any order.
func lines() []line {
	p := prime()
	l := []line{{n(0), n(0)}, {n(0), n(1)}, {n(1), n(0)}, {n(1), n(1)}, {n(0), n(-1)}, {n(-1), n(0)}, {n(-1), n(1)}, {n(2), n(-3)}, {plus(p, n(-2)), plus(p, n(-1))}}
	var m mixer = 3
	for range 5 {
		l = append(l, line{m.number(), m.number()}, line{n(0), m.number()}, line{m.number(), n(0)})
	}
	return l
}

// places are numbers below the prime.
func places(m *mixer) []*big.Int {
	half := new(big.Int).Rsh(prime(), 1)
	return []*big.Int{n(0), n(1), plus(prime(), n(-1)), half, m.number(), new(big.Int).Lsh(n(1), uint(m.next()%254))}
}

// P10.3: of a line, OK at each z with y = a z + b.
func TestLines(t *testing.T) {
	t.Parallel()
	for i, l := range lines() {
		m := mixer(100 + i)
		c, p := l.commitment(t), l.proof(t)
		for _, z := range places(&m) {
			must(t, c, wide(z), wide(l.at(z)), p, api.OK, l, z)
		}
	}
}

// P10.3: of a line, ErrProof with each other y.
func TestOtherValues(t *testing.T) {
	t.Parallel()
	for i, l := range lines() {
		m := mixer(200 + i)
		c, p := l.commitment(t), l.proof(t)
		z := places(&m)[m.next()%6]
		y := l.at(z)
		others := []*big.Int{wrap(plus(y, n(1))), wrap(plus(y, n(-1))), wrap(new(big.Int).Neg(y)), m.number(), n(0), z}
		for bit := uint(m.next() % 60); bit < 256; bit += 60 {
			others = append(others, new(big.Int).Xor(y, new(big.Int).Lsh(n(1), bit)))
		}
		for _, other := range others {
			if other.Cmp(y) != 0 && other.Cmp(prime()) < 0 {
				must(t, c, wide(z), wide(other), p, api.ErrProof, l, "another y")
			}
		}
	}
}

// P10.2: another z, commitment or proof, in the group too, is as wrong; but at each z, where the line is level.
func TestOtherParts(t *testing.T) {
	t.Parallel()
	p, g := bases(t)
	strange := []api.P1{p, g, times(t, p, n(-1)), times(t, g, n(-1)), times(t, g, n(2)), {Inf: true}}
	for i, l := range lines() {
		m := mixer(300 + i)
		c, proof := l.commitment(t), l.proof(t)
		z := m.number()
		y := l.at(z)
		level := wrap(l.a).Sign() == 0
		want := api.ErrProof
		if level {
			want = api.OK
		}
		must(t, c, wide(wrap(plus(z, n(1)))), wide(y), proof, want, l, "another z")
		must(t, c, wide(m.number()), wide(y), proof, want, l, "another z")
		for _, s := range strange {
			b := packed(t, s)
			if string(b) != string(c) {
				must(t, b, wide(z), wide(y), proof, api.ErrProof, l, "another commitment")
			}
			if string(b) != string(proof) {
				must(t, c, wide(z), wide(y), b, api.ErrProof, l, "another proof")
			}
		}
		if !level {
			must(t, c, wide(z), wide(y), turned(proof, 5), api.ErrProof, l, "the proof's opposite")
		}
	}
}

// P10.2: a commitment and a proof of other lines agree, if their parts do: c = p t + d, with a proof p G1 alone.
func TestMixedLines(t *testing.T) {
	t.Parallel()
	l := lines()[9:13]
	for i, one := range l {
		for j, other := range l {
			m := mixer(400 + 10*i + j)
			z := m.number()
			y := one.at(z)
			want := api.ErrProof
			if wrap(one.a).Cmp(wrap(other.a)) == 0 {
				want = api.OK
			}
			must(t, one.commitment(t), wide(z), wide(y), other.proof(t), want, one, other)
		}
	}
}

// P10.2: a polynomial of 4096 parts, with z, y, commitment and proof as those hand them round who test contracts of the machine's own.
func TestKnownProof(t *testing.T) {
	t.Parallel()
	hash := unhex(t, "01e798154708fe7789429634053cbf9f99b619f9f084048927333fce637f549b")
	z := unhex(t, "564c0a11a0f704f4fc3e8acfe0f8245f0ad1347b378fbf96e206da11a5d36306")
	y := unhex(t, "24d25032e67a7e6a4910df5834b8fe70e6bcfeeac0352434196bdf4b2485d5a1")
	c := unhex(t, "8f59a8d2a1a625a17f3fea0fe5eb8c896db3764f3185481bc22f91b4aaffcca25f26936857bc3a7c2539ea8ec3a952b7")
	p := unhex(t, "873033e038326e87ed3e1276fd140253fa08e9fc25fb2d9a98527fc22a2c9612fbeafdad446cbc7bcdbdcd780af2c16a")
	if h := kzg.Versioned(c); string(h[:]) != string(hash) {
		t.Errorf("its hash: %x", h)
	}
	must(t, c, z, y, p, api.OK, "the known proof")
	for bit := range 256 {
		if bit%37 == 3 && bit > 7 {
			must(t, c, turned(z, bit), y, p, api.ErrProof, "another z")
			must(t, c, z, turned(y, bit), p, api.ErrProof, "another y")
		}
	}
	must(t, c, y, z, p, api.ErrProof, "z and y crosswise")
	must(t, p, z, y, c, api.ErrProof, "commitment and proof crosswise")
	must(t, turned(c, 5), z, y, p, api.ErrProof, "the opposite of the commitment")
	must(t, c, z, y, turned(p, 5), api.ErrProof, "the opposite of the proof")
	must(t, zero(), z, y, p, api.ErrProof, "zero's commitment")
	must(t, c, z, y, zero(), api.ErrProof, "zero's proof")
}
