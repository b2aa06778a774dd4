package pair_test

import (
	"encoding/hex"
	"testing"

	"quarry/api"
	"quarry/curve"
	"quarry/pair"
)

// The chapter's table of runs, row by row.

func TestRunsOfFew(t *testing.T) {
	each(t, func(t *testing.T, s side) {
		s.must(t, nil, nil, true, "no pairs")
		s.must(t, []api.P1{s.g1}, []api.P2{s.g2}, false, "(G1, G2)")
		s.must(t, []api.P1{{Inf: true}}, []api.P2{s.g2}, true, "(zero, G2)")
		s.must(t, []api.P1{s.g1}, []api.P2{{Inf: true}}, true, "(G1, zero)")
	})
}

func TestRunsOfTwo(t *testing.T) {
	each(t, func(t *testing.T, s side) {
		s.must(t, []api.P1{s.g1, s.first(t, n(-1))}, []api.P2{s.g2, s.g2}, true, "(G1, G2), (-G1, G2)")
		two, three := s.first(t, n(2)), s.second(t, n(3))
		s.must(t, []api.P1{two, s.first(t, n(-6))}, []api.P2{three, s.g2}, true, "(2 G1, 3 G2), (-6 G1, G2)")
		s.must(t, []api.P1{two, s.first(t, n(-5))}, []api.P2{three, s.g2}, false, "(2 G1, 3 G2), (-5 G1, G2)")
	})
}

func TestRunsRefused(t *testing.T) {
	refused(t, api.Secp, nil, nil, api.ErrArg, "no pairs")
	g, e := curve.Gen1(api.Secp)
	if e != api.OK {
		t.Fatal(e)
	}
	refused(t, api.Secp, []api.P1{g}, []api.P2{{Inf: true}}, api.ErrArg, "(G, zero)")
	each(t, func(t *testing.T, s side) {
		one, other := []api.P1{s.g1}, []api.P2{s.g2}
		refused(t, s.curve, one, nil, api.ErrLength, "a of one point, b of none")
		p, q := s.g1, s.g2
		p.Y[0] ^= 1
		q.Y[0][0] ^= 1
		refused(t, s.curve, []api.P1{p}, other, api.ErrCurve, "a point that is not on the curve")
		refused(t, s.curve, one, []api.P2{q}, api.ErrCurve, "a point that is not on the second curve")
		for _, q := range s.stray2(t) {
			refused(t, s.curve, one, []api.P2{q}, api.ErrGroup, "a point that is not in the second group")
		}
	})
}

// The chapter's examples.
func TestExamples(t *testing.T) {
	each(t, func(t *testing.T, s side) {
		var a []api.P1
		var b []api.P2
		for k := range int64(20) {
			p, q := s.first(t, n(3*k+1)), s.second(t, n(5-7*k))
			s.must(t, []api.P1{p}, []api.P2{q}, false, "one pair", k)
			a, b = append(a, p, s.first(t, n(-3*k-1))), append(b, q, q)
			s.must(t, a, b, true, "so many pairs", len(a))
			s.must(t, a[1:], b[1:], false, "so many pairs", len(a)-1)
		}
	})
}

// unhex is what the digits say.
func unhex(t *testing.T, text string) []byte {
	t.Helper()
	b, e := hex.DecodeString(text)
	if e != nil {
		t.Fatal(e)
	}
	return b
}

// Points of which nobody knows which multiples they are: the two of the setup of chapter 10, which are the same ones.
func TestSetup(t *testing.T) {
	s := sides()[1]
	p, e := curve.Unpack1(unhex(t, "ad3eb50121139aa34db1d545093ac9374ab7bca2c0f3bf28e27c8dcd8fc7cb42d25926fc0c97b336e9f0fb35e5a04c81"))
	q, f := curve.Unpack2(unhex(t, "b5bfd7dd8cdeb128843bc287230af38926187075cbfbefa81009a2ce615ac53d2914e5870cb452d2afaaab24f3499f72185cbfee53492714734429b7b38608e23926c911cceceac9a36851477ba4c60b087041de621000edc98edada20c1def2"))
	if e != api.OK || f != api.OK {
		t.Fatal(e, f)
	}
	s.must(t, []api.P1{p, s.first(t, n(-1))}, []api.P2{s.g2, q}, true, "the setup's points")
	s.must(t, []api.P1{p, s.g1}, []api.P2{s.g2, q}, false, "the setup's points")
	s.must(t, []api.P1{p, s.first(t, n(-2))}, []api.P2{s.g2, q}, false, "the setup's points")
}

// A pair of pairs of Bn that those who test contracts of the machine's own hand round (its name there is jeff1).
func TestKnownPairs(t *testing.T) {
	b := unhex(t, "1c76476f4def4bb94541d57ebba1193381ffa7aa76ada664dd31c16024c43f593034dd2920f673e204fee2811c678745fc819b55d3e9d294e45c9b03a76aef41"+
		"209dd15ebff5d46c4bd888e51a93cf99a7329636c63514396b4a452003a35bf704bf11ca01483bfa8b34b43561848d28905960114c8ac04049af4b6315a416782bb8324af6cfc93537a2ad1a445cfd0ca2a71acd7ac41fadbf933c2a51be344d120a2a4cf30c1bf9845f20c6fe39e07ea2cce61f0c9bb048165fe5e4de877550"+
		"111e129f1cf1097710d41c4ac70fcdfa5ba2023c6ff1cbeac322de49d1b6df7c2032c61a830e3c17286de9462bf242fca2883585b93870a73853face6a6bf411"+
		"198e9393920d483a7260bfb731fb5d25f1aa493335a9e71297e485b7aef312c21800deef121f1e76426a00665e5c4479674322d4f75edadd46debd5cd992f6ed090689d0585ff075ec9e99ad690c3395bc4b313370b38ef355acdadcd122975b12c85ea5db8c6deb4aab71808dcb408fe3d1e7690c43d37b4ce6cc0166fa7daa")
	var points []api.P1
	var others []api.P2
	for ; len(b) > 0; b = b[192:] {
		p, e := curve.ReadBn1(b[:64])
		q, f := curve.ReadBn2(b[64:192])
		if e != api.OK || f != api.OK {
			t.Fatal(e, f)
		}
		points, others = append(points, p), append(others, q)
	}
	s := sides()[0]
	s.must(t, points, others, true, "the known pairs")
	s.must(t, points, []api.P2{others[1], others[0]}, false, "the known pairs, crosswise")
	points[0], _ = curve.Neg1(api.Bn, points[0])
	s.must(t, points, others, false, "the known pairs, of which one is turned")
	if got, e := pair.One(api.Bls, points, others); got || e != api.ErrCurve {
		t.Errorf("of Bls: %v, %v", got, e)
	}
}
