package gas_test

import (
	"strings"
	"testing"

	"quarry/api"
	"quarry/gas"
)

// enough is more gas than a write must leave.
const enough = 2301

// isNet: does a fork's write look at what stood there when the transaction began?
func isNet(at int) bool { return at == api.Constantinople || at >= api.Istanbul }

// letters are the chapter's A, B and C of a fork.
func letters(at int) (a, b, c int64) {
	switch {
	case at >= api.Berlin:
		return 100, 20000, 2900
	case at >= api.Istanbul:
		return 800, 20000, 5000
	}
	return 200, 20000, 5000
}

// storeBack is the chapter's StoreBack.
func storeBack(at int) int64 {
	if at >= api.London {
		return 4800
	}
	return 15000
}

// plainStore is Store by the chapter's words, sentence by sentence.
func plainStore(at int, s api.Store) (cost, add, sub int64, ok bool) {
	zero := api.Word{}
	back := storeBack(at)
	if !isNet(at) {
		cost = 5000
		if s.Current == zero && s.Next != zero {
			cost = 20000
		}
		if s.Current != zero && s.Next == zero {
			add = back
		}
		return cost, add, 0, true
	}
	if at >= api.Istanbul && s.Left <= 2300 {
		return 0, 0, 0, false
	}
	a, b, c := letters(at)
	if s.Current == s.Next {
		cost = a
	} else if s.Original == s.Current {
		if s.Original == zero {
			cost = b
		} else {
			cost = c
			if s.Next == zero {
				add = back
			}
		}
	} else {
		cost = a
		if s.Original != zero {
			if s.Current == zero {
				sub = back
			}
			if s.Current != zero && s.Next == zero {
				add = back
			}
		}
		if s.Original == s.Next {
			if s.Original == zero {
				add += b - a
			} else {
				add += c - a
			}
		}
	}
	if at >= api.Berlin && !s.Warm {
		cost += 2100
	}
	return cost, add, sub, true
}

// places are what may stand at a place: words that differ in one limb too, of which the lowest limb is 0 in some.
func places() []api.Word {
	return []api.Word{{}, {1}, {2}, {0, 1}, {0, 0, 1}, {0, 0, 0, 1}, {1, 0, 0, 1}, {1, 0, 1 << 63}, word(power2(256, -1)), word(power2(255, 0))}
}

// lefts is gas about what must be left.
var lefts = []uint64{0, 1, 2299, 2300, 2301, 5000, 20000, 1 << 32, 1<<32 + 1, 1<<63 - 1}

// TestStore: P17.4: each choice of what stood, stands and comes, warm and cold, with little gas left and with more, at each fork.
func TestStore(t *testing.T) {
	t.Parallel()
	for at := range forks {
		r := rules(t, at)
		for _, original := range places() {
			for _, current := range places() {
				for _, next := range places() {
					for i, left := range lefts {
						stores(t, r, api.Store{Original: original, Current: current, Next: next, Warm: i%2 == 0, Left: left})
						stores(t, r, api.Store{Original: original, Current: current, Next: next, Warm: i%2 == 1, Left: left})
					}
				}
			}
		}
	}
}

// stores looks at one write.
func stores(t *testing.T, r api.Rules, s api.Store) {
	t.Helper()
	cost, add, sub, ok := gas.Store(r, s)
	wantCost, wantAdd, wantSub, wantOk := plainStore(r.Fork, s)
	if int64(cost) != wantCost || int64(add) != wantAdd || int64(sub) != wantSub || ok != wantOk {
		t.Errorf("Store at %d of %v: %d %d %d %v, not %d %d %d %v", r.Fork, s, cost, add, sub, ok, wantCost, wantAdd, wantSub, wantOk)
	}
}

// TestStoreLeft: P17.4: too little gas is looked at from Istanbul on, also where nothing changes.
func TestStoreLeft(t *testing.T) {
	t.Parallel()
	for at := range forks {
		for _, left := range lefts {
			for next := range uint64(2) {
				s := api.Store{Original: api.Word{1}, Current: api.Word{1}, Next: api.Word{next}, Warm: true, Left: left}
				want := at < api.Istanbul || left > 2300
				if _, _, _, ok := gas.Store(rules(t, at), s); ok != want {
					t.Errorf("Store at %d with %d left: %v", at, left, ok)
				}
			}
		}
	}
}

// TestStorePetersburg: example 1: Petersburg has the rules of Byzantium.
func TestStorePetersburg(t *testing.T) {
	t.Parallel()
	for _, original := range places() {
		for _, current := range places() {
			for _, next := range places() {
				s := api.Store{Original: original, Current: current, Next: next}
				cost, add, sub, ok := gas.Store(rules(t, api.Petersburg), s)
				oldCost, oldAdd, oldSub, oldOk := gas.Store(rules(t, api.Byzantium), s)
				if cost != oldCost || add != oldAdd || sub != oldSub || ok != oldOk {
					t.Errorf("Store of %v: %d %d %d %v at Petersburg, %d %d %d %v at Byzantium", s, cost, add, sub, ok, oldCost, oldAdd, oldSub, oldOk)
				}
			}
		}
	}
}

// Rows are what EIP-1283 (Constantinople), EIP-2200 (Istanbul) and EIP-3529 (London) tell of writes to a warm place: what stood there and what is written, what the writes and two pushes of 3 gas for each take, and what is added to the refund.
const (
	constantinopleRows = `
000 412 0; 001 20212 0; 010 20212 19800; 012 20212 0; 011 20212 0; 100 5212 15000; 101 5212 4800; 102 5212 0; 120 5212 15000;
123 5212 0; 121 5212 4800; 122 5212 0; 110 5212 15000; 112 5212 0; 111 412 0; 0101 40218 19800; 1010 10218 19800`
	istanbulRows = `
000 1612 0; 001 20812 0; 010 20812 19200; 012 20812 0; 011 20812 0; 100 5812 15000; 101 5812 4200; 102 5812 0; 120 5812 15000;
123 5812 0; 121 5812 4200; 122 5812 0; 110 5812 15000; 112 5812 0; 111 1612 0; 0101 40818 19200; 1010 10818 19200`
	londonRows = `
000 212 0; 001 20112 0; 010 20112 19900; 012 20112 0; 011 20112 0; 100 3012 4800; 101 3012 2800; 102 3012 0; 120 3012 4800;
123 3012 0; 121 3012 2800; 122 3012 0; 110 3012 4800; 112 3012 0; 111 212 0; 0101 40118 19900; 1010 5918 7600`
)

// TestStoreRows: P17.4: rows of writes that others tell of.
func TestStoreRows(t *testing.T) {
	t.Parallel()
	for at, rows := range map[int]string{api.Constantinople: constantinopleRows, api.Istanbul: istanbulRows, api.Muir: istanbulRows, api.London: londonRows, api.Cancun: londonRows} {
		count := 0
		for row := range strings.SplitSeq(rows, ";") {
			pieces := strings.Fields(row)
			cost, add, sub := write(t, rules(t, at), pieces[0])
			writes := uint64(len(pieces[0]) - 1)
			if cost+6*writes != number(t, pieces[1], 10) || add-sub != number(t, pieces[2], 10) {
				t.Errorf("at %d, %s: %d %d %d", at, row, cost, add, sub)
			}
			count++
		}
		if count != 17 {
			t.Errorf("there are %d rows", count)
		}
	}
}

// write writes a row of digits, of which the first stood there, to a warm place, and looks whether more is ever taken from the refund than was added.
func write(t *testing.T, r api.Rules, row string) (cost, add, sub uint64) {
	t.Helper()
	s := api.Store{Original: digit(row[0]), Warm: true, Left: enough}
	s.Next = s.Original
	for i := range len(row) - 1 {
		s.Current, s.Next = s.Next, digit(row[i+1])
		c, a, d, ok := gas.Store(r, s)
		if !ok {
			t.Fatalf("at %d, %s: not ok", r.Fork, row)
		}
		cost, add, sub = cost+c, add+a, sub+d
		if sub > add {
			t.Errorf("at %d, %s: %d were added, %d taken", r.Fork, row, add, sub)
		}
	}
	return cost, add, sub
}

// digit is a word for a digit: such that no two differ in the lowest limb.
func digit(d byte) api.Word {
	if d == '0' {
		return api.Word{}
	}
	return api.Word{0, uint64(d), 5}
}

// TestStoreBack: P17.7: all rows of up to five writes to a warm place: those that end with what stood there cost A each, from Istanbul on.
func TestStoreBack(t *testing.T) {
	t.Parallel()
	rows := []string{"0", "1"} // which words these are doesn't matter: there are as many as writes
	for range 5 {
		var longer []string
		for _, row := range rows {
			for d := '0'; d <= '4'; d++ {
				longer = append(longer, row+string(d))
			}
		}
		rows = longer
		for at := api.Istanbul; at < forks; at++ {
			a, _, _ := letters(at)
			r := rules(t, at)
			for _, row := range rows {
				cost, add, sub := write(t, r, row)
				if row[0] == row[len(row)-1] && int64(cost-add+sub) != a*int64(len(row)-1) {
					t.Errorf("at %d, %s: %d %d %d", at, row, cost, add, sub)
				}
			}
		}
	}
}
