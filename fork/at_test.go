package fork_test

import (
	"slices"
	"testing"

	"quarry/api"
	"quarry/fork"
)

// steps is a plan whose forks come one by one: at blocks 0, 10, 20 and so on, and at times 1000 and 2000.
func steps() api.Config {
	c := api.Config{Times: [2]uint64{1000, 2000}, Dao: api.None}
	for i := range c.Blocks {
		c.Blocks[i] = uint64(10 * i)
	}
	return c
}

// wrong checks that c is refused by Check and At.
func wrong(t *testing.T, c api.Config) {
	t.Helper()
	if e := fork.Check(c); e != api.ErrConfig {
		t.Errorf("Check of %v: %d; must be ErrConfig", c, e)
	}
	for _, when := range []uint64{0, 5, 1 << 63, api.None} {
		if at, e := fork.At(c, when, when); at != 0 || e != api.ErrConfig {
			t.Errorf("At of %v: %d, %d; must be ErrConfig", c, at, e)
		}
	}
}

// right checks that c is a plan, of which At tells what the chapter's words tell, about each of its forks' firsts.
func right(t *testing.T, c api.Config) {
	t.Helper()
	if e := fork.Check(c); e != api.OK {
		t.Errorf("Check of %v: %d", c, e)
	}
	for _, number := range about(c.Blocks[:]) {
		for _, time := range about(c.Times[:]) {
			want := plainAt(c, number, time)
			if at, e := fork.At(c, number, time); at != want || e != api.OK {
				t.Errorf("At of %v, block %d, time %d: %d, %d; must be %d", c, number, time, at, e, want)
			}
		}
	}
}

// about are the numbers one below, at and one above each of these, round the end too.
func about(all []uint64) []uint64 {
	near := []uint64{0, api.None}
	for _, n := range all {
		near = append(near, n-1, n, n+1)
	}
	slices.Sort(near)
	return slices.Compact(near)
}

// TestCheckFalls: P13.1: blocks and times that fall at each place, by one and by much, and a first block that isn't 0.
func TestCheckFalls(t *testing.T) {
	right(t, steps())
	for i := range 14 {
		for _, by := range []uint64{1, 5, 9, 10} {
			c := steps()
			c.Blocks[i] += by
			if i == 0 {
				wrong(t, c)
			} else {
				right(t, c)
			}
		}
		c := steps()
		c.Blocks[i] += 11
		if i == 13 {
			right(t, c)
		} else {
			wrong(t, c)
		}
		c.Blocks[i] = api.None
		if i == 13 {
			right(t, c)
		} else {
			wrong(t, c)
		}
		if i > 0 {
			c = steps()
			c.Blocks[i] -= 11
			wrong(t, c)
			c.Blocks[i] = 0
			if i == 1 {
				right(t, c)
			} else {
				wrong(t, c)
			}
		}
	}
	for _, times := range [][2]uint64{{1, 0}, {2000, 1999}, {api.None, 0}, {api.None, api.None - 1}, {1 << 63, 1<<63 - 1}} {
		c := steps()
		c.Times = times
		wrong(t, c)
	}
}

// TestCheckLevel: P13.1: blocks and times that are one, or that never come, don't fall.
func TestCheckLevel(t *testing.T) {
	for _, times := range [][2]uint64{{0, 0}, {1, 1}, {0, api.None}, {api.None, api.None}, {api.None - 1, api.None}, {1<<63 - 1, 1 << 63}} {
		for level := range 14 {
			c := steps()
			c.Times = times
			for i := level; i < 14 && level > 0; i++ {
				c.Blocks[i] = c.Blocks[level]
			}
			right(t, c)
			for i := level; i < 14 && level > 0; i++ {
				c.Blocks[i] = api.None
			}
			right(t, c)
		}
	}
	right(t, api.Config{})
}

// TestCheckFrom: P13.1: an address twice, at each two places, and addresses that are one but for a bit; no address and To may stand anywhere.
func TestCheckFrom(t *testing.T) {
	c := steps()
	for i := range 160 {
		var a api.Address
		a[i/8] = 1 << (i % 8)
		c.From = append(c.From, a)
	}
	c.From = append(c.From, api.Address{})
	right(t, c)
	c.To = c.From[7]
	right(t, c)
	for i := range c.From {
		for _, j := range []int{0, 1, 80, 159, 160} {
			if i != j {
				was := c.From[j]
				c.From[j] = c.From[i]
				if e := fork.Check(c); e != api.ErrConfig {
					t.Errorf("Check of an address at %d and %d: %d", i, j, e)
				}
				c.From[j] = was
			}
		}
	}
	c.From = []api.Address{{}, {}}
	wrong(t, c)
	c.From = []api.Address{{}}
	right(t, c)
	c.From = []api.Address{}
	right(t, c)
}

// TestCheckOthers: P13.1: the number of the chain, and the irregular change's block and heir, may be whatever they are.
func TestCheckOthers(t *testing.T) {
	for _, n := range []uint64{0, 1, 5, 1 << 63, api.None} {
		c := steps()
		c.ChainID, c.Dao, c.To = n, n, api.Address{byte(n)}
		right(t, c)
	}
}

// TestAtWild: P13.1: plans without any order, and some that are none.
func TestAtWild(t *testing.T) {
	var m mixer = 1
	taken, refused := 0, 0
	for range 5000 {
		c := m.plan()
		if plainCheck(c) {
			taken++
			right(t, c)
		} else {
			refused++
			wrong(t, c)
		}
	}
	if taken < 1000 || refused < 500 {
		t.Errorf("only %d plans were taken, %d refused", taken, refused)
	}
}

// TestAtEachFork: P13.1: each fork has its blocks, Shanghai and Cancun their times, from Paris on alone.
func TestAtEachFork(t *testing.T) {
	c := steps()
	for f := range 14 {
		for _, number := range []uint64{0, 1, 9} {
			for _, time := range []uint64{0, 999, 1000, 1999, 2000, api.None} {
				want := f
				if f == api.Paris && time >= 2000 {
					want = api.Cancun
				} else if f == api.Paris && time >= 1000 {
					want = api.Shanghai
				}
				if at, e := fork.At(c, uint64(10*f)+number, time); at != want || e != api.OK {
					t.Errorf("At(%d, %d): %d, %d; must be %d", uint64(10*f)+number, time, at, e, want)
				}
			}
		}
	}
}

// TestAtNone: P13.1: what never comes has not come at the last number and time there are.
func TestAtNone(t *testing.T) {
	for f := range 14 {
		c := steps()
		for i := f + 1; i < 14; i++ {
			c.Blocks[i] = api.None
		}
		c.Times = [2]uint64{api.None, api.None}
		if at, e := fork.At(c, api.None, api.None); at != f || e != api.OK {
			t.Errorf("At the last number: %d, %d; must be %d", at, e, f)
		}
	}
	c := steps()
	c.Times[1] = api.None
	if at, e := fork.At(c, api.None, api.None); at != api.Shanghai || e != api.OK {
		t.Errorf("At the last time: %d, %d; must be Shanghai", at, e)
	}
}

// TestAtNeverFalls: P13.6: numbers and times that rise, one of them or both.
func TestAtNeverFalls(t *testing.T) {
	var m mixer = 2
	for range 20000 {
		c := m.plan()
		number, time := m.when(), m.when()
		first, e := fork.At(c, number, time)
		later, f := fork.At(c, max(number, m.when()), max(time, m.when()))
		if later < first || e != f {
			t.Errorf("At of %v fell from %d, %d to %d, %d behind block %d, time %d", c, first, e, later, f, number, time)
		}
	}
}

// TestFromStays: R2: the addresses stay as they are, those in the room behind them too.
func TestFromStays(t *testing.T) {
	for n := range 5 {
		c := steps()
		room := []api.Address{{3}, {1}, {2}, {1}, {9}}
		want := slices.Clone(room)
		c.From = room[:n]
		fork.Check(c)
		fork.At(c, 1, 1)
		if !slices.Equal(room, want) {
			t.Errorf("the addresses %v are %v", want, room)
		}
	}
}
