package rlp_test

import (
	"bytes"
	"math/big"
	"testing"

	"quarry/api"
	"quarry/rlp"
)

// toWord is n as a word.
func toWord(n *big.Int) api.Word {
	var a api.Word
	limb := new(big.Int).Lsh(big.NewInt(1), 64)
	for i := range a {
		n, a[i] = new(big.Int).Rsh(n, 64), new(big.Int).Mod(n, limb).Uint64()
	}
	return a
}

// TestNumber: P5.5: byte strings of each length; a zero ahead is asked for ahead of the length.
func TestNumber(t *testing.T) {
	m := mixer(7)
	for n := range 70 {
		for first := range 256 {
			b := m.bytes(n)
			if n > 0 {
				b[0] = byte(first)
			}
			a, e := rlp.Number(b)
			var want api.Word
			wrong := api.OK
			switch {
			case n > 0 && first == 0:
				wrong = api.ErrForm
			case n > 32:
				wrong = api.ErrRange
			default:
				want = toWord(new(big.Int).SetBytes(b))
			}
			if a != want || e != wrong {
				t.Fatalf("Number(%x) is %x, %d, must be %x, %d", b, a, e, want, wrong)
			}
		}
	}
	if a, e := rlp.Number([]byte{}); a != (api.Word{}) || e != api.OK {
		t.Errorf("Number of no bytes is %x, %d", a, e)
	}
}

// TestOf: P5.5: numbers of each length in bits, and those beside them: bytes without zeros ahead, which are read as the same number.
func TestOf(t *testing.T) {
	check := func(n *big.Int) {
		t.Helper()
		if n.Sign() < 0 || n.BitLen() > 256 {
			return
		}
		a := toWord(n)
		x := rlp.Of(a)
		if !same(x, text(n.Bytes()...)) {
			t.Fatalf("Of(%x) is %v", n, x)
		}
		if b, e := rlp.Number(x.Bytes); b != a || e != api.OK {
			t.Fatalf("Number of Of(%x) is %x, %d", n, b, e)
		}
		checkForm(t, x)
	}
	m := mixer(8)
	for bits := range uint(257) {
		power := new(big.Int).Lsh(big.NewInt(1), bits)
		for more := int64(-2); more <= 2; more++ {
			check(new(big.Int).Add(power, big.NewInt(more)))
		}
		check(new(big.Int).Rsh(new(big.Int).SetBytes(m.bytes(32)), bits))
	}
	for n := range int64(1000) {
		check(big.NewInt(n))
	}
}

// TestEnvelope: P5.6: each first byte, with bodies of many kinds, which are not looked at.
func TestEnvelope(t *testing.T) {
	m := mixer(9)
	for first := range 256 {
		for _, behind := range [][]byte{nil, {0}, {0xc0}, {0x80}, {0xff, 0xff}, m.bytes(100), make([]byte, 5000)} {
			raw := append([]byte{byte(first)}, behind...)
			kind, body, e := rlp.Envelope(raw)
			switch {
			case first >= 192:
				if kind != 0 || !bytes.Equal(body, raw) || e != api.OK {
					t.Fatalf("Envelope(%.50x) is %d, %.50x, %d", raw, kind, body, e)
				}
			case first >= 128:
				if kind != 0 || len(body) != 0 || e != api.ErrForm {
					t.Fatalf("Envelope(%.50x) is %d, %.50x, %d", raw, kind, body, e)
				}
			default:
				if kind != first || !bytes.Equal(body, behind) || e != api.OK {
					t.Fatalf("Envelope(%.50x) is %d, %.50x, %d", raw, kind, body, e)
				}
			}
		}
	}
	if kind, body, e := rlp.Envelope([]byte{}); kind != 0 || len(body) != 0 || e != api.ErrForm {
		t.Errorf("Envelope of none is %d, %x, %d", kind, body, e)
	}
}
