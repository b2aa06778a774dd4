package gas_test

import (
	"bytes"
	"math"
	"math/big"
	"slices"
	"testing"

	"quarry/api"
	"quarry/gas"
)

// plainPart is Part by the chapter's words.
func plainPart(at int, left uint64, asked api.Word) (uint64, bool) {
	if at < api.Tangerine {
		if of(asked).Cmp(n(left)) > 0 {
			return 0, false
		}
		return of(asked).Uint64(), true
	}
	most := minus(n(left), over(n(left), 64))
	if of(asked).Cmp(most) < 0 {
		most = of(asked)
	}
	return most.Uint64(), true
}

// TestPart: P17.5: gas about the multiples of 64 and the ends, and asked for: all about it, its part, and each power of two.
func TestPart(t *testing.T) {
	t.Parallel()
	look := func(r api.Rules, left uint64, asked *big.Int) {
		if asked.Sign() < 0 || asked.BitLen() > 256 {
			return
		}
		want, ok := plainPart(r.Fork, left, word(asked))
		if got, gotOk := gas.Part(r, left, word(asked)); got != want || gotOk != ok {
			t.Errorf("Part(%d, %d, %d): %d %v, not %d %v", r.Fork, left, asked, got, gotOk, want, ok)
		}
	}
	var m mixer = 5
	for at := range forks {
		r := rules(t, at)
		for _, left := range []uint64{0, 1, 2, 62, 63, 64, 65, 127, 128, 129, 6400, 1<<32 - 1, 1 << 32, 1<<63 - 65, 1<<63 - 1} {
			for _, far := range []uint{0, 64, 128, 192, 255} {
				for more := int64(-2); more <= 2; more++ {
					high := minus(power2(far, more), n(1))
					look(r, left, high)
					look(r, left, plus(high, n(left)))
					look(r, left, plus(high, minus(n(left), over(n(left), 64))))
				}
			}
			for _, e := range edges() {
				look(r, left, of(e))
			}
		}
		for range 2000 {
			look(r, m.upTo(63).Uint64(), m.upTo(64))
		}
	}
}

// costs are the numbers of a fork that Intrinsic asks for.
type costs struct{ make, sender, account, key, word uint64 }

// costsOf are these by the table of chapter 13.
func costsOf(at int) costs {
	c := costs{make: 32000, sender: 68}
	if at == api.Frontier {
		c.make = 0
	}
	if at >= api.Istanbul {
		c.sender = 16
	}
	if at >= api.Berlin {
		c.account, c.key = 2400, 1900
	}
	if at >= api.Shanghai {
		c.word = 2
	}
	return c
}

// plainIntrinsic is Intrinsic by the chapter's words.
func plainIntrinsic(at int, x api.Tx) uint64 {
	by := costsOf(at)
	sum := uint64(21000)
	if x.Make {
		sum += by.make
	}
	for i, b := range x.Data {
		if b == 0 {
			sum += 4
		} else {
			sum += by.sender
		}
		if x.Make && i%32 == 0 {
			sum += by.word
		}
	}
	for _, a := range x.Access {
		sum += by.account
		for range a.Keys {
			sum += by.key
		}
	}
	return sum
}

// takesAtAll looks at a transaction at each fork.
func takesAtAll(t *testing.T, x api.Tx) {
	t.Helper()
	for at := range forks {
		want := plainIntrinsic(at, x)
		if got, ok := gas.Intrinsic(rules(t, at), x); got != want || !ok {
			t.Errorf("Intrinsic at %d of %d bytes, make %v: %d %v, not %d", at, len(x.Data), x.Make, got, ok, want)
		}
	}
}

// TestIntrinsicData: P17.6: data of each length about the ends of words, of each byte, with zeros in each place, for calls and for makings.
func TestIntrinsicData(t *testing.T) {
	t.Parallel()
	for _, is := range []bool{false, true} {
		for size := range 131 {
			takesAtAll(t, api.Tx{Make: is, Data: make([]byte, size)})
			takesAtAll(t, api.Tx{Make: is, Data: bytes.Repeat([]byte{7}, size)})
			for i := range size {
				data := bytes.Repeat([]byte{7}, size)
				data[i] = 0
				takesAtAll(t, api.Tx{Make: is, Data: data})
			}
		}
		for b := range 256 {
			takesAtAll(t, api.Tx{Make: is, Data: []byte{byte(b)}})
			takesAtAll(t, api.Tx{Make: is, Data: []byte{0, byte(b), 0}})
		}
		takesAtAll(t, api.Tx{Make: is, Data: make([]byte, 1<<20)})
		takesAtAll(t, api.Tx{Make: is, Data: bytes.Repeat([]byte{0xff}, 1<<20+1)})
	}
}

// TestIntrinsicAccess: P17.6: accounts and keys that a transaction names, also one twice, and without keys.
func TestIntrinsicAccess(t *testing.T) {
	t.Parallel()
	var m mixer = 6
	for range 500 {
		x := api.Tx{Make: m.below(2) == 0, Data: make([]byte, m.below(70))}
		for range m.below(6) {
			x.Access = append(x.Access, api.Access{Address: api.Address{byte(m.below(2))}, Keys: make([]api.Hash, m.below(5))})
		}
		takesAtAll(t, x)
	}
	takesAtAll(t, api.Tx{Access: make([]api.Access, 3000)})
	takesAtAll(t, api.Tx{Access: []api.Access{{Keys: make([]api.Hash, 5000)}}})
}

// TestIntrinsicOthers: P17.6: nothing hangs on the rest of a transaction.
func TestIntrinsicOthers(t *testing.T) {
	t.Parallel()
	for kind := -1; kind <= 4; kind++ {
		for _, big := range []uint64{0, 1, math.MaxUint64} {
			w := api.Word{big, big, big, big}
			for _, is := range []bool{false, true} {
				x := api.Tx{Kind: kind, ChainID: big, Nonce: big, Price: w, Tip: w, Gas: big, Make: is, To: api.Address{byte(big)}, Value: w, BlobFee: w, Blobs: make([]api.Hash, 3), Odd: big > 0, R: w, S: w}
				x.Data = []byte{0, 1}
				x.Access = []api.Access{{Keys: make([]api.Hash, 1)}}
				takesAtAll(t, x)
			}
		}
	}
}

// TestIntrinsicNeverPaid: P17.6: what is more than 2^63 - 1 in all is not ok, whichever part it comes by, also where the sum goes round 2^64. (No fork's numbers come so far.)
func TestIntrinsicNeverPaid(t *testing.T) {
	t.Parallel()
	x := api.Tx{Make: true, Data: []byte{0, 0, 1, 2, 3}, Access: []api.Access{{Keys: make([]api.Hash, 3)}, {Keys: make([]api.Hash, 4)}}}
	parts := []struct {
		count uint64
		set   func(r *api.Rules, each uint64)
	}{
		{1, func(r *api.Rules, each uint64) { r.TxGas = each }},
		{1, func(r *api.Rules, each uint64) { r.TxCreate = each }},
		{2, func(r *api.Rules, each uint64) { r.TxZero = each }},
		{3, func(r *api.Rules, each uint64) { r.TxByte = each }},
		{2, func(r *api.Rules, each uint64) { r.TxAddress = each }},
		{7, func(r *api.Rules, each uint64) { r.TxKey = each }},
		{1, func(r *api.Rules, each uint64) { r.InitWord = each }},
	}
	for i, p := range parts {
		for _, each := range []uint64{0, 1, math.MaxInt64 / p.count, math.MaxInt64/p.count + 1, math.MaxUint64 / p.count, math.MaxUint64/p.count + 1, math.MaxUint64} {
			for j, q := range parts {
				for _, more := range []uint64{0, 1, math.MaxUint64} {
					var r api.Rules
					q.set(&r, more)
					p.set(&r, each)
					sum := times(n(p.count), n(each))
					if i != j {
						sum = plus(sum, times(n(q.count), n(more)))
					}
					want, ok := paid(sum)
					if got, gotOk := gas.Intrinsic(r, x); got != want || gotOk != ok {
						t.Errorf("Intrinsic of %d times %d and %d times %d: %d %v, not %d %v", p.count, each, q.count, more, got, gotOk, want, ok)
					}
				}
			}
		}
	}
}

// TestBack: P17.6: the lesser of the refund and a part of what was used.
func TestBack(t *testing.T) {
	t.Parallel()
	var m mixer = 7
	for at := range forks {
		part := uint64(2)
		if at >= api.London {
			part = 5
		}
		r := rules(t, at)
		look := func(used, refund uint64) {
			want := over(n(used), part).Uint64()
			if refund < want {
				want = refund
			}
			if got := gas.Back(r, used, refund); got != want {
				t.Errorf("Back(%d, %d, %d): %d, not %d", at, used, refund, got, want)
			}
		}
		all := []uint64{0, 1, 2, 3, 4, 5, 6, 9, 10, 11, 100, 21000, 1 << 32, 1<<63 - 1, 1 << 63, math.MaxUint64 - 1, math.MaxUint64}
		for _, used := range all {
			for _, refund := range append(slices.Clone(all), used/part, used/part+1, used/part-1) {
				look(used, refund)
			}
		}
		for range 2000 {
			look(m.upTo(64).Uint64(), m.upTo(64).Uint64())
		}
	}
}
