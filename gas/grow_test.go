package gas_test

import (
	"math"
	"math/big"
	"testing"

	"quarry/api"
	"quarry/gas"
)

// held is what memory of so many words takes by the chapter's words.
func held(words *big.Int) *big.Int {
	return plus(times(n(3), words), over(times(words, words), 512))
}

// plainGrow is Grow by the chapter's words.
func plainGrow(size uint64, at, more api.Word) (to, cost uint64, ok bool) {
	if more == (api.Word{}) {
		return size, 0, true
	}
	words := over(plus(plus(of(at), of(more)), n(31)), 32)
	if words.Cmp(power2(35, 0)) > 0 {
		return 0, 0, false
	}
	end := times(words, n(32))
	if end.Cmp(n(size)) < 0 {
		end = n(size)
	}
	return end.Uint64(), minus(held(over(end, 32)), held(n(size/32))).Uint64(), true
}

// grows looks at one growth.
func grows(t *testing.T, size uint64, at, more api.Word) {
	t.Helper()
	to, cost, ok := gas.Grow(size, at, more)
	wantTo, wantCost, wantOk := plainGrow(size, at, more)
	if to != wantTo || cost != wantCost || ok != wantOk {
		t.Errorf("Grow(%d, %d, %d): %d %d %v, not %d %d %v", size, of(at), of(more), to, cost, ok, wantTo, wantCost, wantOk)
	}
}

// sizes are sizes of memory, the chapter's greatest too.
var sizes = []uint64{0, 32, 64, 96, 1024, 32 * 511, 32 * 512, 32 * 724, 1 << 20, 1<<32 - 32, 1 << 32, 1<<40 - 32, 1 << 40}

// TestGrowEdges: P17.2: from each size, to ends about each power of two, from the memory's beginning, its end, and with all or nothing of it being new.
func TestGrowEdges(t *testing.T) {
	t.Parallel()
	one := word(n(1))
	for _, size := range sizes {
		for _, e := range edges() {
			grows(t, size, api.Word{}, e)
			grows(t, size, e, api.Word{})
			grows(t, size, e, one)
			grows(t, size, one, e)
			grows(t, size, e, e)
			grows(t, size, word(n(size)), e)
			grows(t, size, e, word(n(size)))
		}
	}
}

// TestGrowSmall: P17.2: all small growths.
func TestGrowSmall(t *testing.T) {
	t.Parallel()
	for size := uint64(0); size <= 192; size += 32 {
		for at := range uint64(140) {
			for more := range uint64(140) {
				grows(t, size, word(n(at)), word(n(more)))
			}
		}
	}
}

// TestGrowTooFar: P17.2: the last end that memory may have, however it is come by, and those behind it; sums that pass 2^256 too.
func TestGrowTooFar(t *testing.T) {
	t.Parallel()
	end := power2(40, 0)
	for _, size := range sizes {
		for _, at := range []*big.Int{n(0), n(1), n(31), n(32), n(1 << 20), power2(39, 0), power2(40, -33), power2(40, -32), power2(40, -1)} {
			grown := minus(end, at)
			if to, cost, ok := gas.Grow(size, word(at), word(grown)); to != 1<<40 || !ok || cost != minus(held(power2(35, 0)), held(n(size/32))).Uint64() {
				t.Errorf("Grow(%d, %d, %d): %d %d %v", size, at, grown, to, cost, ok)
			}
			for _, beyond := range []*big.Int{plus(grown, n(1)), plus(grown, n(32)), plus(grown, end), plus(grown, power2(64, 0)), plus(grown, power2(128, 0)), plus(grown, power2(192, 0)), plus(minus(power2(256, 0), end), grown)} {
				if beyond.BitLen() > 256 {
					continue
				}
				if to, cost, ok := gas.Grow(size, word(at), word(beyond)); to != 0 || cost != 0 || ok {
					t.Errorf("Grow(%d, %d, %d): %d %d %v", size, at, beyond, to, cost, ok)
				}
			}
		}
		for _, at := range []*big.Int{end, plus(end, n(1)), power2(41, 0), power2(42, 0), power2(63, 0), power2(64, -1), power2(64, 0), power2(128, 1), power2(256, -1)} {
			for _, more := range []*big.Int{n(1), n(2), n(32), minus(power2(256, 0), at), minus(power2(256, 1), at), minus(power2(256, 32), at), power2(64, -1), power2(256, -1)} {
				if more.BitLen() > 256 {
					continue
				}
				if to, cost, ok := gas.Grow(size, word(at), word(more)); to != 0 || cost != 0 || ok {
					t.Errorf("Grow(%d, %d, %d): %d %d %v", size, at, more, to, cost, ok)
				}
			}
		}
	}
}

// TestGrowWild: P17.2: growths without any order.
func TestGrowWild(t *testing.T) {
	t.Parallel()
	var m mixer = 1
	for range 20000 {
		size := m.upTo(40).Uint64() / 32 * 32
		grows(t, size, word(m.upTo(42)), word(m.upTo(42)))
		grows(t, size, word(m.upTo(20)), word(m.upTo(20)))
		grows(t, size, m.word(), m.word())
	}
}

// TestGrowTwice: P17.7: growing in two steps costs what growing at once costs.
func TestGrowTwice(t *testing.T) {
	t.Parallel()
	var m mixer = 2
	for range 50000 {
		bits := 1 + m.below(41)
		size := m.upTo(bits).Uint64() / 32 * 32
		middle := min(m.upTo(bits).Uint64(), 1<<40)
		end := min(m.upTo(bits).Uint64(), 1<<40)
		end = max(end, middle)
		between, first, ok := gas.Grow(size, api.Word{}, word(n(middle)))
		to, second, okToo := gas.Grow(between, api.Word{}, word(n(end)))
		at, once, okOnce := gas.Grow(size, api.Word{}, word(n(end)))
		if !ok || !okToo || !okOnce || to != at || first+second != once {
			t.Fatalf("from %d over %d to %d: %d + %d, at once %d", size, middle, end, first, second, once)
		}
	}
}

// TestWords: P17.3: each begun word, up to 2^41 bytes, and no more.
func TestWords(t *testing.T) {
	t.Parallel()
	look := func(bytes api.Word, each uint64) {
		var want uint64
		ok := of(bytes).Cmp(power2(41, 0)) <= 0
		if ok {
			want = times(over(plus(of(bytes), n(31)), 32), n(each)).Uint64()
		}
		if got, gotOk := gas.Words(bytes, each); got != want || gotOk != ok {
			t.Errorf("Words(%d, %d): %d %v, not %d %v", of(bytes), each, got, gotOk, want, ok)
		}
	}
	var m mixer = 3
	for each := range uint64(7) {
		for _, e := range edges() {
			look(e, each)
		}
		for bytes := range uint64(300) {
			look(word(n(bytes)), each)
		}
		for more := int64(-70); more <= 70; more++ {
			look(word(power2(41, more)), each)
		}
		for range 1000 {
			look(word(m.upTo(43)), each)
		}
	}
}

// TestWordsNeverPaid: a cost of more than 2^63 - 1 is told as not ok.
func TestWordsNeverPaid(t *testing.T) {
	t.Parallel()
	most := word(power2(41, 0)) // 2^36 words
	for _, x := range []struct {
		each uint64
		ok   bool
	}{{1<<27 - 1, true}, {1 << 27, false}, {1 << 28, false}, {1<<28 + 1, false}, {1 << 40, false}, {math.MaxUint64, false}} {
		want := x.each << 36
		if !x.ok {
			want = 0
		}
		if got, ok := gas.Words(most, x.each); got != want || ok != x.ok {
			t.Errorf("Words(2^41, %d): %d %v", x.each, got, ok)
		}
	}
}

// TestExp: P17.3: so much for each byte that the exponent has without the zeros ahead.
func TestExp(t *testing.T) {
	t.Parallel()
	for at := range forks {
		each := uint64(10)
		if at >= api.Spurious {
			each = 50
		}
		r := rules(t, at)
		for _, e := range edges() {
			want := each * uint64(len(of(e).Bytes()))
			if got := gas.Exp(r, e); got != want {
				t.Errorf("Exp at %d of %d: %d, not %d", at, of(e), got, want)
			}
		}
	}
}

// TestLog: P17.3: each number of topics, up to 2^41 bytes, and no more.
func TestLog(t *testing.T) {
	t.Parallel()
	look := func(topics int, bytes api.Word) {
		var want uint64
		ok := of(bytes).Cmp(power2(41, 0)) <= 0
		if ok {
			want = plus(n(uint64(375*topics)), times(n(8), of(bytes))).Uint64()
		}
		if got, gotOk := gas.Log(topics, bytes); got != want || gotOk != ok {
			t.Errorf("Log(%d, %d): %d %v, not %d %v", topics, of(bytes), got, gotOk, want, ok)
		}
	}
	var m mixer = 4
	for topics := range 5 {
		for _, e := range edges() {
			look(topics, e)
		}
		for more := int64(-70); more <= 70; more++ {
			look(topics, word(power2(41, more)))
		}
		for range 1000 {
			look(topics, word(m.upTo(43)))
		}
	}
}
