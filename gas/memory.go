package gas

import (
	"math/bits"

	"quarry/api"
	"quarry/word"
)

const (
	wordSize  = 32
	mostBytes = 1 << 41 // more than this is never reached, copied or logged
	mostWords = 1 << 35 // nor does memory ever have more than this
)

// few is a number of bytes, if there are not too many of them.
func few(n api.Word) (uint64, bool) {
	size, ok := word.Small(n)
	if !ok || size > mostBytes {
		return 0, false
	}
	return size, true
}

// wordsOf is how many words so many bytes begin.
func wordsOf(size uint64) uint64 { return (size + wordSize - 1) / wordSize }

// Grow is how many bytes memory has that reaches n bytes from at on, and what it takes to get there.
func Grow(size uint64, at, n api.Word) (to, cost uint64, ok bool) {
	if n == (api.Word{}) {
		return size, 0, true
	}
	first, near := few(at)
	more, short := few(n)
	if !near || !short {
		return 0, 0, false
	}
	words := wordsOf(first + more)
	if words > mostWords {
		return 0, 0, false
	}
	to = max(size, words*wordSize)
	return to, held(to/wordSize) - held(size/wordSize), true
}

// held is what memory of so many words takes in all.
func held(words uint64) uint64 {
	high, low := bits.Mul64(words, words)
	return 3*words + (high<<55 | low>>9) // the square, which may be wider than 64 bits, by 512
}

// Words is what so many bytes take, word by word.
func Words(n api.Word, each uint64) (uint64, bool) {
	size, ok := few(n)
	if !ok {
		return 0, false
	}
	return total(part{wordsOf(size), each})
}

// Exp is what a power takes beside its base.
func Exp(r api.Rules, exponent api.Word) uint64 {
	return r.ExpByte * uint64((word.Bits(exponent)+7)/8)
}

// Log is what a log takes beside its base.
func Log(topics int, n api.Word) (uint64, bool) {
	size, ok := few(n)
	if !ok {
		return 0, false
	}
	return total(part{uint64(topics), 375}, part{size, 8})
}
