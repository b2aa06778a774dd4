package code_test

import (
	"bytes"
	"slices"
	"strings"
	"testing"

	"quarry/api"
	"quarry/code"
)

// roomy is a code with spare room behind it, all of it of bytes that matter.
func roomy() (c, whole []byte) {
	whole = bytes.Repeat([]byte{0x5b, 0x62, 0x5b, 0x0c, 0x60}, 20)
	return whole[:43], whole
}

// TestMemoryCode: R2: a code that is handed in stays as it is, its spare room too, and what is told does not follow what becomes of it.
func TestMemoryCode(t *testing.T) {
	t.Parallel()
	c, whole := roomy()
	was := bytes.Clone(whole)
	lines, jumps := code.List(api.Cancun, c), code.Jumps(c)
	wantLines, wantJumps := slices.Clone(lines), slices.Clone(jumps)
	for i := range wantLines {
		wantLines[i] = strings.Clone(wantLines[i])
	}
	for at := range c {
		code.Jump(c, api.Word{uint64(at)})
	}
	if !bytes.Equal(whole, was) {
		t.Errorf("the code has become %x", whole)
	}
	clear(whole)
	if !slices.Equal(lines, wantLines) || !slices.Equal(jumps, wantJumps) {
		t.Errorf("what was told has become %q, %v", lines, jumps)
	}
}

// TestMemoryAnswers: R2: no two answers share memory, their spare room neither.
func TestMemoryAnswers(t *testing.T) {
	t.Parallel()
	c, _ := roomy()
	text := strings.Join(code.List(api.Cancun, c), "\n")
	lines, jumps := code.List(api.Cancun, c), code.Jumps(c)
	read, _ := code.Read(api.Cancun, text)
	moreLines, moreJumps := code.List(api.Cancun, c), code.Jumps(c)
	moreRead, _ := code.Read(api.Cancun, text)
	spoil(lines, "spoilt")
	spoil(jumps, -1)
	spoil(read, 0xee)
	if strings.Join(moreLines, "\n") != text || !slices.Equal(moreJumps, code.Jumps(c)) || !bytes.Equal(moreRead, c) {
		t.Errorf("two answers share memory: %q, %v, %x", moreLines, moreJumps, moreRead)
	}
	if again, _ := code.Read(api.Cancun, text); !bytes.Equal(again, c) || !slices.Equal(code.List(api.Cancun, c), moreLines) {
		t.Error("what was told is kept")
	}
}

// spoil writes over all of a list and its spare room.
func spoil[T any](list []T, with T) {
	all := list[:cap(list)]
	for i := range all {
		all[i] = with
	}
}
