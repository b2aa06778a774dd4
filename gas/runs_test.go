package gas_test

import (
	"testing"

	"quarry/api"
	"quarry/gas"
)

// TestRunsBase: the chapter's runs of Base.
func TestRunsBase(t *testing.T) {
	t.Parallel()
	for _, x := range []struct {
		at, op int
		want   uint64
	}{
		{api.Frontier, 0x01, 3}, {api.Frontier, 0x54, 50}, {api.Frontier, 0xf4, 0}, {api.Frontier, 0x1b, 0}, {api.Frontier, 0x0c, 0},
		{api.Cancun, 0x54, 0}, {api.Cancun, 0x5c, 100}, {api.Cancun, 0x31, 0},
	} {
		if got := gas.Base(rules(t, x.at), x.op); got != x.want {
			t.Errorf("Base at %d of %#x: %d, not %d", x.at, x.op, got, x.want)
		}
	}
}

// TestRunsGrow: the chapter's runs of Grow.
func TestRunsGrow(t *testing.T) {
	t.Parallel()
	far := word(power2(200, 0))
	most := uint64(3<<35 + 1<<61)
	for _, x := range []struct {
		size     uint64
		at, n    api.Word
		to, cost uint64
		ok       bool
	}{
		{0, api.Word{}, api.Word{1}, 32, 3, true},
		{0, api.Word{31}, api.Word{2}, 64, 6, true},
		{64, api.Word{}, api.Word{64}, 64, 0, true},
		{64, far, api.Word{}, 64, 0, true},
		{0, far, api.Word{1}, 0, 0, false},
		{0, api.Word{}, api.Word{1 << 40}, 1 << 40, most, true},
		{0, api.Word{}, api.Word{1<<40 + 1}, 0, 0, false},
		{0, api.Word{}, api.Word{32 * 724}, 23168, 2172 + 1023, true},
	} {
		if to, cost, ok := gas.Grow(x.size, x.at, x.n); to != x.to || cost != x.cost || ok != x.ok {
			t.Errorf("Grow(%d, %v, %v): %d %d %v, not %d %d %v", x.size, x.at, x.n, to, cost, ok, x.to, x.cost, x.ok)
		}
	}
}

// TestRunsExp: the chapter's runs of Exp.
func TestRunsExp(t *testing.T) {
	t.Parallel()
	for _, x := range []struct {
		at       int
		exponent uint64
		want     uint64
	}{{api.Frontier, 0, 0}, {api.Frontier, 255, 10}, {api.Frontier, 256, 20}, {api.Spurious, 256, 100}} {
		if got := gas.Exp(rules(t, x.at), api.Word{x.exponent}); got != x.want {
			t.Errorf("Exp at %d of %d: %d, not %d", x.at, x.exponent, got, x.want)
		}
	}
}

// TestRunsStore: the chapter's runs of Store.
func TestRunsStore(t *testing.T) {
	t.Parallel()
	for _, x := range []struct {
		at                      int
		original, current, next uint64
		warm                    bool
		left                    uint64
		cost, add, sub          uint64
		ok                      bool
	}{
		{api.Istanbul, 0, 0, 1, false, enough, 20000, 0, 0, true},
		{api.Istanbul, 1, 1, 0, false, enough, 5000, 15000, 0, true},
		{api.Istanbul, 1, 0, 1, false, enough, 800, 4200, 15000, true},
		{api.Istanbul, 0, 1, 0, false, enough, 800, 19200, 0, true},
		{api.Istanbul, 0, 0, 1, false, 2300, 0, 0, 0, false},
		{api.London, 1, 1, 0, false, enough, 5000, 4800, 0, true},
		{api.Berlin, 1, 1, 2, true, enough, 2900, 0, 0, true},
	} {
		s := api.Store{Original: api.Word{x.original}, Current: api.Word{x.current}, Next: api.Word{x.next}, Warm: x.warm, Left: x.left}
		if cost, add, sub, ok := gas.Store(rules(t, x.at), s); cost != x.cost || add != x.add || sub != x.sub || ok != x.ok {
			t.Errorf("Store at %d of %v: %d %d %d %v", x.at, s, cost, add, sub, ok)
		}
	}
}

// TestRunsPart: the chapter's runs of Part.
func TestRunsPart(t *testing.T) {
	t.Parallel()
	for _, x := range []struct {
		at    int
		left  uint64
		asked api.Word
		want  uint64
		ok    bool
	}{
		{api.Frontier, 10, api.Word{11}, 0, false},
		{api.Frontier, 10, api.Word{10}, 10, true},
		{api.Tangerine, 6400, word(power2(200, 0)), 6300, true},
		{api.Tangerine, 6400, api.Word{5}, 5, true},
	} {
		if got, ok := gas.Part(rules(t, x.at), x.left, x.asked); got != x.want || ok != x.ok {
			t.Errorf("Part at %d of %d, %v: %d %v", x.at, x.left, x.asked, got, ok)
		}
	}
}

// TestRunsIntrinsic: the chapter's runs of Intrinsic and Back.
func TestRunsIntrinsic(t *testing.T) {
	t.Parallel()
	if got, ok := gas.Intrinsic(rules(t, api.Homestead), api.Tx{Make: true, Data: []byte{0, 1}}); got != 53072 || !ok {
		t.Errorf("Intrinsic of a making: %d %v", got, ok)
	}
	named := api.Tx{Access: []api.Access{{Keys: make([]api.Hash, 2)}}}
	if got, ok := gas.Intrinsic(rules(t, api.London), named); got != 27200 || !ok {
		t.Errorf("Intrinsic of an Access with two Keys: %d %v", got, ok)
	}
	if got := gas.Back(rules(t, api.Berlin), 100, 70); got != 50 {
		t.Errorf("Back at Berlin: %d", got)
	}
	if got := gas.Back(rules(t, api.London), 100, 70); got != 20 {
		t.Errorf("Back at London: %d", got)
	}
}

// TestFrontierMakes: example 2: at Frontier a contract is made for what a call takes.
func TestFrontierMakes(t *testing.T) {
	t.Parallel()
	for size := range 70 {
		x := api.Tx{Data: make([]byte, size)}
		call, _ := gas.Intrinsic(rules(t, api.Frontier), x)
		x.Make = true
		if made, ok := gas.Intrinsic(rules(t, api.Frontier), x); made != call || !ok {
			t.Errorf("Intrinsic at Frontier of %d bytes: a call %d, a making %d %v", size, call, made, ok)
		}
	}
}
