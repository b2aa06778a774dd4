package fork_test

import (
	"testing"

	"quarry/api"
	"quarry/fork"
)

// The chapter's table of runs, row by row, and its examples.

func TestRunsOfAt(t *testing.T) {
	c := api.Config{Dao: api.None, Times: [2]uint64{api.None, api.None}}
	for i := range c.Blocks {
		c.Blocks[i] = api.None
	}
	c.Blocks[0], c.Blocks[1], c.Blocks[2], c.Blocks[3] = 0, 10, 10, 20
	for _, run := range []struct {
		number uint64
		want   int
	}{{9, api.Frontier}, {10, api.Tangerine}, {20, api.Spurious}} {
		for _, time := range []uint64{0, 1, api.None} {
			if at, e := fork.At(c, run.number, time); at != run.want || e != api.OK {
				t.Errorf("At(%d, %d): %d, %d", run.number, time, at, e)
			}
		}
	}
	c = api.Config{Times: [2]uint64{100, 200}}
	for _, run := range []struct {
		time uint64
		want int
	}{{99, api.Paris}, {100, api.Shanghai}, {200, api.Cancun}} {
		if at, e := fork.At(c, 0, run.time); at != run.want || e != api.OK {
			t.Errorf("At(0, %d): %d, %d", run.time, at, e)
		}
	}
}

func TestRunsOfCheck(t *testing.T) {
	wrong(t, api.Config{Blocks: [14]uint64{0, 2, 1, 3, 3, 3, 3, 3, 3, 3, 3, 3, 3, 3}})
	wrong(t, api.Config{Blocks: [14]uint64{1, 1, 1, 1, 1, 1, 1, 1, 1, 1, 1, 1, 1, 1}})
	wrong(t, api.Config{Times: [2]uint64{200, 100}})
	wrong(t, api.Config{From: []api.Address{{1}, {2}, {1}}})
}

func TestRunsOfOf(t *testing.T) {
	for _, f := range []int{16, -1} {
		if _, e := fork.Of(f); e != api.ErrArg {
			t.Errorf("Of(%d): %d", f, e)
		}
	}
	if r, e := fork.Of(api.Berlin); r.TxByte != 16 || r.Load != 0 || r.ColdSlot != 2100 || r.DestroyBack != 24000 || e != api.OK {
		t.Errorf("Of(Berlin): %v, %d", r, e)
	}
}

func TestRunsOfOp(t *testing.T) {
	for _, run := range []struct {
		fork, op int
		want     bool
	}{{api.Frontier, 0xf4, false}, {api.Homestead, 0xf4, true}, {api.Cancun, 0x5c, true}, {api.Cancun, 0x0c, false}, {16, 0, false}} {
		if got := fork.Op(run.fork, run.op); got != run.want {
			t.Errorf("Op(%d, %#x): %v", run.fork, run.op, got)
		}
	}
}

func TestRunsOfNative(t *testing.T) {
	for _, run := range []struct {
		fork, n, want int
	}{{api.Frontier, 5, 0}, {api.Byzantium, 5, 5}, {api.Cancun, 10, 10}, {api.Cancun, 11, 0}} {
		if got := fork.Native(run.fork, api.Address{19: byte(run.n)}); got != run.want {
			t.Errorf("Native(%d, %d): %d", run.fork, run.n, got)
		}
	}
}

func TestRunsOfName(t *testing.T) {
	if got := fork.Name(5); got != "Constantinople" {
		t.Errorf("Name(5): %q", got)
	}
	named(t, "CANCUN", 15)
	unnamed(t, "dao")
	unnamed(t, "")
}

// TestExampleTimes: the chapter's second example: before Paris Times are not looked at but by Check.
func TestExampleTimes(t *testing.T) {
	c := steps()
	for _, times := range [][2]uint64{{0, 0}, {5, 6}, {api.None, api.None}} {
		c.Times = times
		if at, e := fork.At(c, 129, api.None); at != api.Gray || e != api.OK {
			t.Errorf("At(129) with the times %v: %d, %d", times, at, e)
		}
	}
	c.Times = [2]uint64{1, 0}
	if at, e := fork.At(c, 129, 0); at != 0 || e != api.ErrConfig {
		t.Errorf("At(129) with times that fall: %d, %d", at, e)
	}
}
