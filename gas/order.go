package gas

import (
	"bytes"

	"quarry/api"
	"quarry/word"
)

// Part is how much of what is left a call is given that asks for so much; not ok, if it must have more than that.
func Part(r api.Rules, left uint64, asked api.Word) (uint64, bool) {
	want, small := word.Small(asked)
	if r.Fork < api.Tangerine {
		if !small || want > left {
			return 0, false
		}
		return want, true
	}
	given := left - left/64
	if !small {
		return given, true
	}
	return min(want, given), true
}

// Intrinsic is what a transaction takes before anything runs; not ok, if that is never paid.
func Intrinsic(r api.Rules, t api.Tx) (uint64, bool) {
	size := uint64(len(t.Data))
	zeros := uint64(bytes.Count(t.Data, []byte{0}))
	var made, words uint64
	if t.Make {
		made, words = 1, wordsOf(size)
	}
	return total(
		part{1, r.TxGas},
		part{made, r.TxCreate},
		part{zeros, r.TxZero},
		part{size - zeros, r.TxByte},
		part{uint64(len(t.Access)), r.TxAddress},
		part{keys(t.Access), r.TxKey},
		part{words, r.InitWord},
	)
}

// keys is how many places the accounts name in all.
func keys(all []api.Access) uint64 {
	n := 0
	for _, a := range all {
		n += len(a.Keys)
	}
	return uint64(n)
}

// Back is how much of the refund a transaction gets that used so much.
func Back(r api.Rules, used, refund uint64) uint64 {
	if r.RefundPart == 0 { // so of no fork's rules
		return 0
	}
	return min(refund, used/r.RefundPart)
}
