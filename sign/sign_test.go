package sign_test

import (
	"crypto/sha256"
	"math/big"
	"testing"

	"quarry/api"
	"quarry/sign"
)

// hashes are such of edges, of n and more too, and some without any order.
func hashes() []api.Hash {
	l := []api.Hash{}
	for _, v := range append(edges()[:3:3], beyond()...) {
		l = append(l, h(v))
	}
	l = append(l, h(half()), h(minus(order(), n(1))), h(power2(255)))
	var m mixer = 10
	for range 10 {
		l = append(l, m.hash())
	}
	return l
}

// P11.2: of each hash, with keys and nonces of edges.
func TestSign(t *testing.T) {
	t.Parallel()
	var m mixer = 11
	all := edges()
	pick := func() *big.Int {
		if m.next()%2 == 0 {
			return m.scalar()
		}
		return all[m.next()%uint64(len(all))]
	}
	turned, odd := 0, 0
	for _, hash := range hashes() {
		for range 12 {
			key, nonce := pick(), pick()
			got := mustSign(t, hash, key, nonce)
			if got.e == api.OK && got.s.Cmp(half()) > 0 {
				t.Errorf("an s that is not low: %x", got.s)
			}
			if p := many(gen(), nonce); got.odd != (p.y.Bit(0) == 1) {
				turned++
			}
			if got.odd {
				odd++
			}
		}
	}
	if turned < 50 || odd < 50 {
		t.Error("few are turned round, or odd:", turned, odd)
	}
}

// P11.2: each edge as key and as nonce.
func TestSignEdges(t *testing.T) {
	t.Parallel()
	var m mixer = 12
	for _, v := range edges() {
		mustSign(t, m.hash(), v, m.scalar())
		mustSign(t, m.hash(), m.scalar(), v)
		mustSign(t, m.hash(), v, v)
	}
}

// P11.2: about the middle an s of (n - 1)/2 stays, and one of (n + 1)/2 is turned round.
func TestSignMiddle(t *testing.T) {
	t.Parallel()
	var m mixer = 13
	for range 4 {
		key, nonce := m.scalar(), m.scalar()
		p := many(gen(), nonce)
		for _, want := range []*big.Int{n(1), n(2), minus(half(), n(1)), half(), plus(half(), n(1)), plus(half(), n(2)), minus(order(), n(1))} {
			hash := h(mod(minus(times(want, nonce), times(p.x, key)), order())) // s is want
			got := mustSign(t, hash, key, nonce)
			if high := want.Cmp(half()) > 0; high != (got.odd != (p.y.Bit(0) == 1)) {
				t.Errorf("an s of %x: turned round is %v", want, !high)
			}
			if got.s.Cmp(want) != 0 && plus(got.s, want).Cmp(order()) != 0 {
				t.Errorf("an s of %x, not %x", got.s, want)
			}
		}
	}
}

// P11.2: ErrRange, of key and nonce, whatever the others are.
func TestSignRange(t *testing.T) {
	t.Parallel()
	for _, hash := range hashes()[:4] {
		for _, v := range beyond() {
			for _, other := range append(beyond(), n(1), n(5), minus(order(), n(1))) {
				if got := mustSign(t, hash, v, other); got.e != api.ErrRange {
					t.Error("the key", v, got.e)
				}
				if got := mustSign(t, hash, other, v); got.e != api.ErrRange {
					t.Error("the nonce", v, got.e)
				}
			}
		}
	}
}

// P11.2: ErrArg, if s is 0, as of the hash that is -r key, and of that one with n added.
func TestSignNothing(t *testing.T) {
	t.Parallel()
	var m mixer = 14
	above := 0
	for range 10 {
		key, nonce := m.scalar(), m.scalar()
		p := many(gen(), nonce)
		v := mod(new(big.Int).Neg(times(p.x, key)), order())
		if got := mustSign(t, h(v), key, nonce); got.e != api.ErrArg {
			t.Errorf("key %x, nonce %x: %v", key, nonce, got.e)
		}
		if got := mustSign(t, h(plus(v, n(1))), key, nonce); got.e != api.OK {
			t.Errorf("key %x, nonce %x, the next hash: %v", key, nonce, got.e)
		}
	}
	for small := int64(0); small < 3; small++ { // -r key is small, so that it has room for n too
		nonce := m.scalar()
		p := many(gen(), nonce)
		key := mod(new(big.Int).Neg(over(n(small), p.x, order())), order())
		if !within(key) {
			continue
		}
		above++
		for _, v := range []*big.Int{n(small), plus(order(), n(small))} {
			if got := mustSign(t, h(v), key, nonce); got.e != api.ErrArg {
				t.Errorf("key %x, nonce %x, hash %x: %v", key, nonce, v, got.e)
			}
		}
	}
	if above != 2 {
		t.Error("hashes above n:", above)
	}
}

// P11.2: hashes that are the same modulo n are signed in the same way.
func TestSignModulo(t *testing.T) {
	t.Parallel()
	var m mixer = 15
	for _, v := range []*big.Int{n(0), n(1), n(77), power2(127)} {
		key, nonce := m.scalar(), m.scalar()
		odd, r, s, e := sign.Sign(h(v), w(key), w(nonce))
		odd2, r2, s2, e2 := sign.Sign(h(plus(v, order())), w(key), w(nonce))
		if odd != odd2 || r != r2 || s != s2 || e != api.OK || e2 != api.OK {
			t.Errorf("hash %x: %v %v", v, e, e2)
		}
	}
}

// Signatures that others made.
func TestSignKnown(t *testing.T) {
	t.Parallel()
	words := api.Hash(sha256.Sum256([]byte("Satoshi Nakamoto")))
	for _, row := range []struct {
		hash             api.Hash
		key, nonce, r, s string
	}{
		{words, "1", "8f8a276c19f4149656b280621e358cce24f5f52542772691ee69063b74f15d15", "934b1ea10a4b3c1757e2b0c017d0b6143ce3c9a7e6a4a49860d7a6ab210ee3d8", "2442ce9d2b916064108014783e923ec36b49743e2ffa1c4496f01a512aafd9e5"},
		{words, "fffffffffffffffffffffffffffffffebaaedce6af48a03bbfd25e8cd0364140", "33a19b60e25fb6f4435af53a3d42d493644827367e6453928554f43e49aa6f90", "fd567d121db66e382991534ada77a6bd3106f0a1098c231e47993447cd6af2d0", "6b39cd0eb1bc8603e159ef5c20a5c8ad685a45b06ce9bebed3f153d10d93bed5"},
	} {
		_, r, s, e := sign.Sign(row.hash, w(unhex(row.key)), w(unhex(row.nonce)))
		if r != w(unhex(row.r)) || s != w(unhex(row.s)) || e != api.OK {
			t.Errorf("key %s: %x %x %v", row.key, big1(r), big1(s), e)
		}
	}
}

// P11.4: Low, about the middle and at the ends of all words.
func TestLow(t *testing.T) {
	t.Parallel()
	all := append(edges(), beyond()...)
	for d := int64(-5); d <= 5; d++ {
		for _, bits := range []uint{1, 64, 128, 192} {
			all = append(all, plus(half(), n(d)), plus(half(), times(n(d), power2(bits))))
		}
	}
	var m mixer = 16
	for range 1000 {
		all = append(all, m.word(), plus(half(), new(big.Int).Rsh(m.word(), 64)), minus(half(), new(big.Int).Rsh(m.word(), 128)))
	}
	for _, v := range all {
		if got, want := sign.Low(w(v)), v.Cmp(half()) <= 0; got != want {
			t.Errorf("Low(%x): %v", v, got)
		}
	}
}
