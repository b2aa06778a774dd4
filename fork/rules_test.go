package fork_test

import (
	"reflect"
	"testing"

	"quarry/api"
	"quarry/fork"
)

// row is a number of all sixteen forks.
type row [16]uint64

// all is the row of a number that no fork changes.
func all(n uint64) (r row) {
	for i := range r {
		r[i] = n
	}
	return r
}

// rows are the chapter's table, fork by fork, by the names of the fields.
func rows() map[string]row {
	return map[string]row{
		"Fork":        {0, 1, 2, 3, 4, 5, 6, 7, 8, 9, 10, 11, 12, 13, 14, 15},
		"TxGas":       all(21000),
		"TxCreate":    {0, 32000, 32000, 32000, 32000, 32000, 32000, 32000, 32000, 32000, 32000, 32000, 32000, 32000, 32000, 32000},
		"TxZero":      all(4),
		"TxByte":      {68, 68, 68, 68, 68, 68, 68, 16, 16, 16, 16, 16, 16, 16, 16, 16},
		"TxAddress":   {0, 0, 0, 0, 0, 0, 0, 0, 0, 2400, 2400, 2400, 2400, 2400, 2400, 2400},
		"TxKey":       {0, 0, 0, 0, 0, 0, 0, 0, 0, 1900, 1900, 1900, 1900, 1900, 1900, 1900},
		"InitWord":    {14: 2, 15: 2},
		"MaxInit":     {14: 49152, 15: 49152},
		"MaxCode":     {0, 0, 0, 24576, 24576, 24576, 24576, 24576, 24576, 24576, 24576, 24576, 24576, 24576, 24576, 24576},
		"Balance":     {20, 20, 400, 400, 400, 400, 400, 700, 700, 0, 0, 0, 0, 0, 0, 0},
		"ExtSize":     {20, 20, 700, 700, 700, 700, 700, 700, 700, 0, 0, 0, 0, 0, 0, 0},
		"ExtHash":     {0, 0, 0, 0, 0, 400, 400, 700, 700, 0, 0, 0, 0, 0, 0, 0},
		"Load":        {50, 50, 200, 200, 200, 200, 200, 800, 800, 0, 0, 0, 0, 0, 0, 0},
		"Call":        {40, 40, 700, 700, 700, 700, 700, 700, 700, 0, 0, 0, 0, 0, 0, 0},
		"Cold":        {0, 0, 0, 0, 0, 0, 0, 0, 0, 2600, 2600, 2600, 2600, 2600, 2600, 2600},
		"ColdSlot":    {0, 0, 0, 0, 0, 0, 0, 0, 0, 2100, 2100, 2100, 2100, 2100, 2100, 2100},
		"Warm":        {0, 0, 0, 0, 0, 0, 0, 0, 0, 100, 100, 100, 100, 100, 100, 100},
		"Destroy":     {0, 0, 5000, 5000, 5000, 5000, 5000, 5000, 5000, 5000, 5000, 5000, 5000, 5000, 5000, 5000},
		"DestroyNew":  {0, 0, 25000, 25000, 25000, 25000, 25000, 25000, 25000, 25000, 25000, 25000, 25000, 25000, 25000, 25000},
		"DestroyBack": {24000, 24000, 24000, 24000, 24000, 24000, 24000, 24000, 24000, 24000, 0, 0, 0, 0, 0, 0},
		"ExpByte":     {10, 10, 10, 50, 50, 50, 50, 50, 50, 50, 50, 50, 50, 50, 50, 50},
		"StoreBack":   {15000, 15000, 15000, 15000, 15000, 15000, 15000, 15000, 15000, 15000, 4800, 4800, 4800, 4800, 4800, 4800},
		"RefundPart":  {2, 2, 2, 2, 2, 2, 2, 2, 2, 2, 5, 5, 5, 5, 5, 5},
		"Reward": {5e18, 5e18, 5e18, 5e18, 3e18, 2e18, 2e18, 2e18, 2e18, 2e18, 2e18, 2e18, 2e18,
			0, 0, 0},
		"Bomb": {0, 0, 0, 0, 3000000, 5000000, 5000000, 5000000, 9000000, 9000000, 9700000, 10700000, 11400000, 0, 0, 0},
	}
}

// number is a field's number, whatever kind of integer it is.
func number(v reflect.Value) uint64 {
	if v.CanInt() {
		return uint64(v.Int())
	}
	return v.Uint()
}

// TestOf: P13.2: each field of each fork.
func TestOf(t *testing.T) {
	want := rows()
	fields := reflect.TypeFor[api.Rules]().NumField()
	if len(want) != fields {
		t.Fatalf("the rules have %d fields, the table %d", fields, len(want))
	}
	for f := range 16 {
		rules, e := fork.Of(f)
		if e != api.OK {
			t.Errorf("Of(%d): %d", f, e)
		}
		for name, r := range want {
			if got := number(reflect.ValueOf(rules).FieldByName(name)); got != r[f] {
				t.Errorf("%s of fork %d: %d; must be %d", name, f, got, r[f])
			}
		}
	}
}

// TestOfNone: P13.2, R3: numbers that no fork has.
func TestOfNone(t *testing.T) {
	for _, f := range noForks() {
		if rules, e := fork.Of(f); e != api.ErrArg || rules != (api.Rules{}) {
			t.Errorf("Of(%d): %v, %d; must be ErrArg", f, rules, e)
		}
	}
}

// TestOfBombAlone: the chapter's first example: Muir, Arrow and Gray change Bomb alone.
func TestOfBombAlone(t *testing.T) {
	for _, f := range []int{api.Muir, api.Arrow, api.Gray} {
		before, _ := fork.Of(f - 1)
		rules, _ := fork.Of(f)
		if rules.Bomb == before.Bomb {
			t.Errorf("fork %d leaves Bomb as it was", f)
		}
		rules.Bomb, rules.Fork = before.Bomb, before.Fork
		if rules != before {
			t.Errorf("fork %d has %v, the one ahead %v", f, rules, before)
		}
	}
}
