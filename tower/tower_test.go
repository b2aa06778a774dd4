package tower_test

import (
	"math"
	"math/big"
	"testing"

	"quarry/api"
	"quarry/tower"
)

// P7.1: the two, and no other.
func TestNew(t *testing.T) {
	for _, curve := range []int{math.MinInt, -1 << 32, 2 - 1<<32, -3, -2, -1, 0, 1, 4, 5, 6, 258, 259, 1<<32 + 2, 1<<32 + 3, math.MaxInt} {
		if f, e := tower.New(curve); f != nil || e != api.ErrArg {
			t.Errorf("New(%d): %v, %v", curve, f, e)
		}
	}
	for _, curve := range []int{api.Bn, api.Bls} {
		if f, e := tower.New(curve); f == nil || e != api.OK {
			t.Errorf("New(%d): %v, %v", curve, f, e)
		}
	}
}

// P7.2: 1, and what is told of it is not the tower's own.
func TestOne12(t *testing.T) {
	each(t, func(t *testing.T, f *tower.Tower, r row) {
		one := f.One12()
		same(t, one, api.F12{{{{1}}}}, "One12")
		one[0][0][0][0] = 7
		same(t, f.One12(), api.F12{{{{1}}}}, "One12 again")
		for _, a := range r.twelves() {
			same(t, f.Mul12(f.One12(), a), r.reduced(a), "Mul12 by One12", a)
			same(t, f.Mul12(a, f.One12()), r.reduced(a), "Mul12 by One12", a)
		}
	})
}

// R4: towers know nothing of each other, and calls nothing of those ahead of them.
func TestTowersApart(t *testing.T) {
	var towers []*tower.Tower
	for range 2 {
		for _, r := range table() {
			f, _ := tower.New(r.curve)
			towers = append(towers, f)
		}
	}
	for i, a := range table()[0].twelves() {
		for j, f := range towers {
			r := table()[j%2]
			b := r.twelves()[i]
			same(t, f.Mul12(a, b), r.product(a, b), "Mul12", a, b)
			same(t, f.Mul12(b, b), r.product(b, b), "Mul12", b, b)
			inverse, ok := f.Inv12(b)
			if ok {
				same(t, r.product(inverse, b), f.One12(), "Inv12", b)
			}
			f.Sqrt2(a[0][0])
			f.Exp12(a, []byte{9})
			same(t, f.Frob12(f.Frob12(b, 5), 7), r.reduced(b), "Frob12", b)
		}
	}
}

// R2: bytes that are handed in, their spare room and what stands about them are not changed; nil and empty lists are one.
func TestBytesStay(t *testing.T) {
	each(t, func(t *testing.T, f *tower.Tower, r row) {
		m := mixer(23)
		a := r.twelves()[60]
		for _, n := range []int{0, 1, 2, 31, 50, 700} {
			for _, ahead := range []int{0, 1, 20} {
				whole := m.bytes(n + ahead + 200)
				clear(whole[4 : 4+ahead])
				was := string(whole)
				got := f.Exp12(a, whole[4:4+ahead+n])
				if string(whole) != was {
					t.Fatalf("%x has changed: %x", was, whole)
				}
				same(t, f.Exp12(a, whole[4:4+ahead+n]), got, "Exp12 again")
			}
		}
		for _, e := range [][]byte{nil, {}, make([]byte, 0, 48)} {
			same(t, f.Exp12(a, e), f.One12(), "Exp12 to no bytes", a)
		}
	})
}

// Every number that is told is below p, whatever is handed in.
func TestAnswersAreBelow(t *testing.T) {
	each(t, func(t *testing.T, f *tower.Tower, r row) {
		below := func(call string, a api.F12) {
			t.Helper()
			for i := range 12 {
				if value(*at(&a, i)).Cmp(r.p) >= 0 {
					t.Fatalf("%s tells %x", call, a)
				}
			}
		}
		top := num(sum(new(big.Int).Lsh(big.NewInt(1), 384), -1))
		for _, n := range []api.Num{num(r.p), num(sum(r.p, 1)), top} {
			two := api.F2{n, n}
			six := api.F6{two, two, two}
			twelve := api.F12{six, six}
			below("Add2", of2(f.Add2(two, api.F2{})))
			below("Sub2", of2(f.Sub2(two, api.F2{})))
			below("Mul2", of2(f.Mul2(two, api.F2{{1}})))
			below("Conj2", of2(f.Conj2(two)))
			below("Mul6", of6(f.Mul6(six, api.F6{{{1}}})))
			below("Mul12", f.Mul12(twelve, f.One12()))
			below("Conj12", f.Conj12(twelve))
			below("Exp12", f.Exp12(twelve, []byte{1}))
			for times := range 12 {
				below("Frob12", f.Frob12(twelve, times))
			}
		}
	})
}
