package gas_test

import (
	"bytes"
	"math"
	"reflect"
	"testing"

	"quarry/api"
	"quarry/gas"
)

// noRules are numbers that no fork has, of forks that aren't there too.
func noRules() []api.Rules {
	full := api.Rules{Fork: math.MaxInt, TxGas: math.MaxUint64, TxCreate: math.MaxUint64, TxZero: math.MaxUint64, TxByte: math.MaxUint64,
		TxAddress: math.MaxUint64, TxKey: math.MaxUint64, InitWord: math.MaxUint64, Balance: math.MaxUint64, ExpByte: math.MaxUint64,
		ColdSlot: math.MaxUint64, StoreBack: math.MaxUint64, RefundPart: math.MaxUint64}
	return []api.Rules{{}, {Fork: -1}, {Fork: 16}, {Fork: 5}, {Fork: 15}, {Fork: math.MinInt}, {Fork: math.MaxInt}, full}
}

// TestEnds: R1: calls end, whatever they are given.
func TestEnds(t *testing.T) {
	t.Parallel()
	var m mixer = 8
	x := api.Tx{Make: true, Data: make([]byte, 100), Access: make([]api.Access, 3)}
	for _, r := range noRules() {
		for range 3000 {
			gas.Base(r, int(m.next()))
			gas.Exp(r, m.word())
			gas.Store(r, api.Store{Original: m.word(), Current: m.word(), Next: m.word(), Left: m.next()})
			gas.Part(r, m.next(), m.word())
			gas.Back(r, m.next(), m.next())
		}
		gas.Base(r, math.MinInt)
		gas.Back(r, 0, 0)
		gas.Intrinsic(r, x)
		gas.Intrinsic(r, api.Tx{})
	}
	for range 3000 {
		gas.Grow(m.next(), m.word(), m.word())
		gas.Grow(m.upTo(64).Uint64(), word(m.upTo(42)), word(m.upTo(42)))
		gas.Words(m.word(), m.next())
		gas.Log(int(m.next()), m.word())
	}
}

// TestRefusedIsZero: R3: beside false stands 0.
func TestRefusedIsZero(t *testing.T) {
	t.Parallel()
	var m mixer = 9
	for range 3000 {
		if cost, ok := gas.Log(int(m.next()), m.word()); !ok && cost != 0 {
			t.Fatalf("Log: %d, false", cost)
		}
		if cost, ok := gas.Words(m.word(), m.next()); !ok && cost != 0 {
			t.Fatalf("Words: %d, false", cost)
		}
	}
}

// TestTxStays: R2: a transaction stays as it is, the room behind its lists too; and nil and empty lists are one.
func TestTxStays(t *testing.T) {
	t.Parallel()
	for size := range 40 {
		make := func() api.Tx {
			data := bytes.Repeat([]byte{0, 1, 2, 3}, 12)
			keys := []api.Hash{{1}, {2}, {3}, {4}}
			access := []api.Access{{Keys: keys[:2]}, {Address: api.Address{1}, Keys: keys[:0]}, {Keys: keys}, {Address: api.Address{9}}}
			return api.Tx{Kind: 1, Make: size%2 == 0, Data: data, Access: access, Blobs: keys[1:]}
		}
		whole := make()
		x := whole
		x.Data, x.Access = x.Data[:size], x.Access[:size%4]
		for at := range forks {
			gas.Intrinsic(rules(t, at), x)
		}
		if !reflect.DeepEqual(whole, make()) {
			t.Errorf("a transaction with %d bytes was changed", size)
		}
	}
	empty := api.Tx{Data: []byte{}, Access: []api.Access{}, Blobs: []api.Hash{}}
	bare := api.Tx{Access: []api.Access{{}}}
	named := api.Tx{Access: []api.Access{{Keys: []api.Hash{}}}}
	for at := range forks {
		r := rules(t, at)
		if a, _ := gas.Intrinsic(r, api.Tx{}); a != 21000 {
			t.Errorf("Intrinsic at %d of nothing: %d", at, a)
		}
		if a, _ := gas.Intrinsic(r, empty); a != 21000 {
			t.Errorf("Intrinsic at %d of empty lists: %d", at, a)
		}
		a, _ := gas.Intrinsic(r, bare)
		b, _ := gas.Intrinsic(r, named)
		if a != b {
			t.Errorf("Intrinsic at %d of an account without keys: %d, %d", at, a, b)
		}
	}
}
