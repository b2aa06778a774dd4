package fork_test

import (
	"slices"

	"quarry/api"
	"quarry/fork"
)

// The calls have the signatures that the chapter lists.
var (
	_ func(c api.Config) api.Errno                             = fork.Check
	_ func(c api.Config, number, time uint64) (int, api.Errno) = fork.At
	_ func(fork int) (api.Rules, api.Errno)                    = fork.Of
	_ func(fork, op int) bool                                  = fork.Op
	_ func(fork int, a api.Address) int                        = fork.Native
	_ func(fork int) string                                    = fork.Name
	_ func(name string) (int, bool)                            = fork.Named
)

const (
	minInt = -maxInt - 1
	maxInt = 1<<63 - 1
)

// noForks are numbers that no fork has.
func noForks() []int {
	return []int{-1, -2, 16, 17, 256, 1 << 32, 1<<32 + 5, -1 << 32, minInt, minInt + 5, maxInt}
}

// mixer tells numbers without any order, the same ones in each run.
type mixer uint64

func (m *mixer) next() uint64 {
	*m += 0x9e3779b97f4a7c15
	z := uint64(*m)
	z = (z ^ z>>30) * 0xbf58476d1ce4e5b9
	z = (z ^ z>>27) * 0x94d049bb133111eb
	return z ^ z>>31
}

// below is a number below n.
func (m *mixer) below(n int) int { return int(m.next() % uint64(n)) }

// when is a block or a time: few kinds, so that many fall together, among them those next to None and to the middle.
func (m *mixer) when() uint64 {
	all := []uint64{0, 0, 1, 2, 3, 10, 1<<63 - 1, 1 << 63, api.None - 1, api.None, api.None}
	return all[m.below(len(all))]
}

// plan is a chain's plan, or at times something that is none.
func (m *mixer) plan() api.Config {
	c := api.Config{ChainID: m.next(), Dao: m.when(), To: m.address()}
	for i := range c.Blocks {
		c.Blocks[i] = m.when()
	}
	slices.Sort(c.Blocks[:])
	c.Blocks[0] = 0
	for i := range c.Times {
		c.Times[i] = m.when()
	}
	slices.Sort(c.Times[:])
	for range m.below(4) {
		c.From = append(c.From, m.address())
	}
	switch m.below(12) {
	case 0:
		c.Blocks[m.below(14)] = m.when()
	case 1:
		c.Times[m.below(2)] = m.when()
	case 2:
		c.From = append(c.From, m.address(), m.address())
	}
	return c
}

// address is one of few addresses.
func (m *mixer) address() (a api.Address) {
	a[m.below(20)] = byte(m.below(3))
	return a
}

// plainCheck says by the chapter's words whether c is a plan.
func plainCheck(c api.Config) bool {
	if c.Blocks[0] != 0 {
		return false
	}
	for i := 1; i < 14; i++ {
		if c.Blocks[i-1] > c.Blocks[i] {
			return false
		}
	}
	for i, a := range c.From {
		if slices.Contains(c.From[i+1:], a) {
			return false
		}
	}
	return c.Times[0] <= c.Times[1]
}

// plainAt is the fork by the chapter's words, of a c that is a plan.
func plainAt(c api.Config, number, time uint64) int {
	last := 0
	for f := 13; f > 0; f-- {
		if first := c.Blocks[f]; first != api.None && number >= first {
			last = f
			break
		}
	}
	switch {
	case last == 13 && c.Times[1] != api.None && time >= c.Times[1]:
		return 15
	case last == 13 && c.Times[0] != api.None && time >= c.Times[0]:
		return 14
	}
	return last
}
