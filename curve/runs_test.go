package curve_test

import (
	"bytes"
	"testing"

	"quarry/api"
	"quarry/curve"
)

// The chapter's table of runs, row by row.

func TestRunOfBn(t *testing.T) {
	s := pick(api.Bn, false)
	got, e := s.Add(s.gen, s.gen)
	told(t, "G + G", got, e, dot{x: big2{hex("030644e72e131a029b85045b68181585d97816a916871ca8d3c208c16d87cfd3"), n(0)}, y: big2{hex("15ed738c0e0a7c92e7845f96b2ae9c0a68a6a449e3538fc7ff3ebf7a5a18a2c4"), n(0)}})
}

func TestRunOfSecp(t *testing.T) {
	s := pick(api.Secp, false)
	got, e := s.Mul(s.gen, []byte{2})
	told(t, "2 G", got, e, dot{x: big2{hex("c6047f9441ed7d6d3045406e95c07cd85c778e4b8cef3ca7abac09b95c709ee5"), n(0)}, y: big2{hex("1ae168fea63dc339a3c58419466ceaeef7f632653266d0e1236431a950cfe52a"), n(0)}})
}

func TestRunsToZero(t *testing.T) {
	each(t, func(t *testing.T, s side) {
		g, _ := s.Gen()
		minus, _ := s.Neg(g)
		got, e := s.Add(g, minus)
		told(t, "G - G", got, e, zero())
		got, e = s.Mul(g, s.order.Bytes())
		told(t, "the order times G", got, e, zero())
		got, e = s.Mul(g, nil)
		told(t, "0 times G", got, e, zero())
	})
}

func TestRunsRefused(t *testing.T) {
	if p, e := curve.Add1(0, api.P1{}, api.P1{}); e != api.ErrArg || p != (api.P1{}) {
		t.Errorf("Add1(0, ..): %v, %v", p, e)
	}
	if p, e := curve.Add2(api.Secp, api.P2{}, api.P2{}); e != api.ErrArg || p != (api.P2{}) {
		t.Errorf("Add2(Secp, ..): %v, %v", p, e)
	}
	g, _ := curve.Gen1(api.Bn)
	if p, e := curve.Add1(api.Bn, api.P1{X: api.Num{1}, Y: api.Num{3}}, g); e != api.ErrCurve || p != (api.P1{}) {
		t.Errorf("Add1(Bn, (1, 3), G): %v, %v", p, e)
	}
}

func TestRunsOfReadBn1(t *testing.T) {
	g, _ := curve.Gen1(api.Bn)
	pair := func(x, y []byte) []byte {
		b := make([]byte, 64)
		copy(b[32-len(x):], x)
		copy(b[64-len(y):], y)
		return b
	}
	for _, c := range []struct {
		b []byte
		p api.P1
		e api.Errno
	}{
		{make([]byte, 64), api.P1{Inf: true}, api.OK},
		{pair([]byte{1}, []byte{2}), g, api.OK},
		{pair([]byte{1}, []byte{3}), api.P1{}, api.ErrCurve},
		{pair(hex(bnP).Bytes(), []byte{2}), api.P1{}, api.ErrRange},
		{make([]byte, 63), api.P1{}, api.ErrLength},
	} {
		if p, e := curve.ReadBn1(c.b); p != c.p || e != c.e {
			t.Errorf("ReadBn1(%x): %v, %v", c.b, p, e)
		}
	}
}

func TestRunsOfUnpack1(t *testing.T) {
	with := func(first, last byte) []byte {
		b := make([]byte, 48)
		b[0], b[47] = first, last
		return b
	}
	for _, c := range []struct {
		b []byte
		p api.P1
		e api.Errno
	}{
		{with(0xc0, 0), api.P1{Inf: true}, api.OK},
		{with(0x40, 0), api.P1{}, api.ErrForm},
		{with(0xc0, 1), api.P1{}, api.ErrForm},
		{with(0xe0, 0), api.P1{}, api.ErrForm},
		{with(0, 0), api.P1{}, api.ErrForm},
	} {
		if p, e := curve.Unpack1(c.b); p != c.p || e != c.e {
			t.Errorf("Unpack1(%x): %v, %v", c.b, p, e)
		}
	}
}

func TestRunOfPack1(t *testing.T) {
	g, _ := curve.Gen1(api.Bls)
	b, e := curve.Pack1(g)
	if e != api.OK || len(b) != 48 || b[0] != 0x97 {
		t.Fatalf("Pack1(G): %x, %v", b, e)
	}
	if p, e := curve.Unpack1(b); e != api.OK || p != g {
		t.Errorf("Unpack1 of it: %v, %v", p, e)
	}
	if !bytes.Equal(b[1:], hex("17f1d3a73197d7942695638c4fa9ac0fc3688c4f9774b905a14e3a3f171bac586c55e83ff97a1aeffb3af00adb22c6bb").Bytes()[1:]) {
		t.Errorf("%x", b)
	}
}

// The chapter's examples 1 and 2 (3 is TestModuloOrder).
func TestExamples(t *testing.T) {
	if !curve.On1(api.Bn, api.P1{Inf: true}) {
		t.Error("zero isn't on Bn")
	}
	for _, c := range []bool{false, true} {
		s := pick(api.Bn, c)
		m := mixer(60)
		outside := 0
		for _, d := range s.found(&m, 30) {
			if s.On(d) && !s.In(d) {
				outside++
			}
		}
		if (outside == 0) == s.second {
			t.Errorf("%s: %d of 30 points aren't in the group", s.name, outside)
		}
	}
}
