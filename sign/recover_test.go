package sign_test

import (
	"math/big"
	"testing"

	"quarry/api"
	"quarry/sign"
)

// P11.5: Recover of what Sign tells is Public of the key, and s is Low.
func TestRound(t *testing.T) {
	t.Parallel()
	var m mixer = 20
	l := hashes()
	for range 100 {
		l = append(l, m.hash())
	}
	all := edges()
	for i, hash := range l {
		key, nonce := m.scalar(), m.scalar()
		if i%3 == 0 {
			key = all[m.next()%uint64(len(all))]
		}
		if i%3 == 1 {
			nonce = all[m.next()%uint64(len(all))]
		}
		odd, r, s, e := sign.Sign(hash, w(key), w(nonce))
		want, e2 := sign.Public(w(key))
		got, e3 := sign.Recover(hash, odd, r, s)
		if got != want || !sign.Low(s) || e != api.OK || e2 != api.OK || e3 != api.OK {
			t.Errorf("hash %x, key %x, nonce %x: %v, not %v; %v %v %v", hash, key, nonce, got, want, e, e2, e3)
		}
	}
}

// P11.3: of any r and s, as the chapter's words say, with an odd Y and with an even one.
func TestRecover(t *testing.T) {
	t.Parallel()
	var m mixer = 21
	ok, off := 0, 0
	for i, hash := range hashes() {
		all := edges()
		for j, r := range []*big.Int{m.scalar(), m.scalar(), all[i%len(all)], n(int64(i + 1))} {
			s := m.scalar()
			if j%2 == 1 {
				s = all[(i+j)%len(all)]
			}
			p, e := mustRecover(t, hash, true, r, s)
			q, e2 := mustRecover(t, hash, false, r, s)
			if e != e2 || e == api.OK && p == q {
				t.Errorf("r %x, s %x: %v %v, %v", r, s, e, e2, p)
			}
			if e == api.OK {
				ok++
			} else {
				off++
			}
		}
	}
	if ok < 20 || off < 20 {
		t.Error("few of a kind:", ok, off)
	}
}

// The chapter's first example: s need not be Low. Of -s and the other Y there is the same key.
func TestRecoverHigh(t *testing.T) {
	t.Parallel()
	var m mixer = 22
	for range 20 {
		hash, key, nonce := m.hash(), m.scalar(), m.scalar()
		odd, r, s, e := sign.Sign(hash, w(key), w(nonce))
		if e != api.OK {
			t.Fatal(e)
		}
		high := w(minus(order(), big1(s)))
		want, _ := sign.Public(w(key))
		if got, e := sign.Recover(hash, !odd, r, high); got != want || e != api.OK || sign.Low(high) {
			t.Errorf("%v, not %v, %v", got, want, e)
		}
		if got, e := sign.Recover(hash, odd, r, high); got == want || e != api.OK {
			t.Errorf("the other Y, %v, %v", got, e)
		}
	}
}

// P11.3: ErrRange, of r and s, ahead of all else.
func TestRecoverRange(t *testing.T) {
	t.Parallel()
	for _, v := range beyond() {
		for _, other := range append(beyond(), n(1), n(5), half(), minus(order(), n(1))) {
			for _, odd := range []bool{false, true} {
				if _, e := mustRecover(t, h(n(9)), odd, v, other); e != api.ErrRange {
					t.Error("r", v, e)
				}
				if _, e := mustRecover(t, h(n(9)), odd, other, v); e != api.ErrRange {
					t.Error("s", v, e)
				}
			}
		}
	}
}

// P11.3: ErrCurve, where no point has r as its X, though one has r + n.
func TestRecoverCurve(t *testing.T) {
	t.Parallel()
	var m mixer = 23
	tried, both := 0, 0
	for r := n(1); tried < 10 || both < 5; r = plus(r, n(1)) {
		_, here := upon(r, false)
		_, there := upon(plus(r, order()), false)
		hash, s := m.hash(), m.scalar()
		for _, odd := range []bool{false, true} {
			if !here && there {
				tried++
				if _, e := mustRecover(t, hash, odd, r, s); e != api.ErrCurve {
					t.Errorf("r %x: %v", r, e)
				}
			}
			if here && there { // the point with X = r counts
				both++
				if _, e := mustRecover(t, hash, odd, r, s); e != api.OK {
					t.Errorf("r %x: %v", r, e)
				}
			}
		}
	}
}

// P11.3: ErrGroup, if s R is hash G; with the other Y it is not.
func TestRecoverGroup(t *testing.T) {
	t.Parallel()
	var m mixer = 24
	for i := range 12 {
		nonce, s := m.scalar(), m.scalar()
		if i == 0 {
			nonce, s = n(1), n(1)
		}
		p := many(gen(), nonce)
		if !within(p.x) {
			t.Fatal(p.x)
		}
		odd := p.y.Bit(0) == 1
		v := mod(times(s, nonce), order())
		if _, e := mustRecover(t, h(v), odd, p.x, s); e != api.ErrGroup {
			t.Errorf("nonce %x, s %x: %v", nonce, s, e)
		}
		if _, e := mustRecover(t, h(v), !odd, p.x, s); e != api.OK {
			t.Errorf("nonce %x, s %x, the other Y: %v", nonce, s, e)
		}
	}
	g := gen() // of G and the hashes 1 and n + 1 with s 1
	for _, v := range []*big.Int{n(1), plus(order(), n(1))} {
		if _, e := mustRecover(t, h(v), g.y.Bit(0) == 1, g.x, n(1)); e != api.ErrGroup {
			t.Errorf("the hash %x: %v", v, e)
		}
	}
}

// P11.3: where s R and -hash G are one point, it is added to itself; of the hash 0 and of n there is no second part.
func TestRecoverSame(t *testing.T) {
	t.Parallel()
	var m mixer = 25
	for range 6 {
		nonce, s := m.scalar(), m.scalar()
		p := many(gen(), nonce)
		odd := p.y.Bit(0) == 1
		for _, v := range []*big.Int{mod(new(big.Int).Neg(times(s, nonce)), order()), n(0), order()} {
			if _, e := mustRecover(t, h(v), odd, p.x, s); e != api.OK {
				t.Errorf("the hash %x: %v", v, e)
			}
		}
	}
}

// Signatures that others made: a transaction's of EIP-155, and one of the machine's own contract.
func TestRecoverKnown(t *testing.T) {
	t.Parallel()
	for _, row := range []struct {
		hash    string
		odd     bool
		r, s    string
		address string
	}{
		{"daf5a779ae972f972197303d7b574746c7ef83eadac0f2791ad23db92e4c8e53", false, "28ef61340bd939bc2195fe537567866003e1a15d3c71ff63e1590620aa636276", "67cbe9d8997f761aecb703304b3800ccf555c9f3dc64214b297fb1966a3b6d83", "9d8a62f656a8d1615c1294fd71e9cfb3e4855a4f"},
		{"18c547e4f7b0f325ad1e56f57e26c745b09a3e503d86e00e5255ff7f715d3d1c", true, "73b1693892219d736caba55bdb67216e485557ea6b6af75f37096c9aa6a5a75f", "eeb940b1d03b21e36b0e47e79769f095fe2ab855bd91e3a38756b7d75a9c4549", "a94f5374fce5edbc8e2a8697c15331677e6ebf0b"},
	} {
		p, e := sign.Recover(h(unhex(row.hash)), row.odd, w(unhex(row.r)), w(unhex(row.s)))
		if e != api.OK {
			t.Errorf("%s: %v", row.hash, e)
			continue
		}
		if got, e := sign.Address(p); got != address(t, row.address) || e != api.OK {
			t.Errorf("%s: %x %v", row.hash, got, e)
		}
	}
}

// The chapter's second example: of two hashes signed with one nonce there is the key.
func TestOneNonce(t *testing.T) {
	t.Parallel()
	var m mixer = 26
	key, nonce := m.scalar(), m.scalar()
	a, b := m.hash(), m.hash()
	odd, r, s, e := sign.Sign(a, w(key), w(nonce))
	odd2, r2, s2, e2 := sign.Sign(b, w(key), w(nonce))
	if r != r2 || e != api.OK || e2 != api.OK {
		t.Fatal(r, r2, e, e2)
	}
	first, second := big1(s), big1(s2)
	if odd != odd2 { // one of them was turned round
		second = minus(order(), second)
	}
	k := over(minus(of(a), of(b)), minus(first, second), order())
	got := over(minus(times(first, k), of(a)), big1(r), order())
	if got.Cmp(key) != 0 {
		t.Errorf("%x, not %x", got, key)
	}
}

// R4: what was asked ahead does not count.
func TestAgain(t *testing.T) {
	t.Parallel()
	var m mixer = 27
	hash, key, nonce := m.hash(), m.scalar(), m.scalar()
	before := mustSign(t, hash, key, nonce)
	mustSign(t, m.hash(), n(0), nonce)
	mustRecover(t, hash, !before.odd, before.r, before.s)
	mustRecover(t, hash, before.odd, n(5), before.s)
	after := mustSign(t, hash, key, nonce)
	if before.odd != after.odd || before.r.Cmp(after.r) != 0 || before.s.Cmp(after.s) != 0 {
		t.Error("what was asked ahead counts")
	}
}
