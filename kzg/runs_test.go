package kzg_test

import (
	"bytes"
	"testing"

	"quarry/api"
	"quarry/kzg"
)

// The chapter's table of runs, row by row.

func TestRunsOfNothing(t *testing.T) {
	t.Parallel()
	for _, z := range [][]byte{wide(n(0)), wide(n(1)), wide(n(5)), wide(plus(prime(), n(-1)))} {
		must(t, zero(), z, wide(n(0)), zero(), api.OK, "the polynomial 0")
		must(t, zero(), z, wide(n(1)), zero(), api.ErrProof, "the polynomial 0, of y 1")
	}
}

func TestRunsOfLine(t *testing.T) {
	t.Parallel()
	_, g := bases(t)
	must(t, unhex(t, firstText), wide(n(5)), wide(n(5)), packed(t, g), api.OK, "x at 5")
	must(t, unhex(t, firstText), wide(n(6)), wide(n(5)), packed(t, g), api.ErrProof, "x at 6")
}

func TestRunsRefused(t *testing.T) {
	t.Parallel()
	five := wide(n(5))
	must(t, zero()[:47], five, wide(n(0)), zero(), api.ErrLength, "47 bytes")
	must(t, zero(), five, wide(n(0)), zero()[:47], api.ErrLength, "a proof of 47 bytes")
	must(t, zero(), wide(prime()), wide(n(0)), zero(), api.ErrRange, "z is the prime")
	must(t, make([]byte, 48), five, wide(n(0)), zero(), api.ErrForm, "a commitment of 48 zeros")
	must(t, zero(), five, wide(n(0)), bytes.Repeat([]byte{0xff}, 48), api.ErrForm, "a proof of ff ..")
}

func TestRunsOfHash(t *testing.T) {
	t.Parallel()
	if h := kzg.Versioned(zero()); h[0] != 1 {
		t.Errorf("the first byte: %d", h[0])
	}
}

// The chapter's first example: zero opens to 0 everywhere.
func TestExample(t *testing.T) {
	t.Parallel()
	var m mixer = 1
	for range 6 {
		z := m.number()
		must(t, zero(), wide(z), wide(n(0)), zero(), api.OK, "zero")
		must(t, zero(), wide(z), wide(m.number()), zero(), api.ErrProof, "zero, of another y")
	}
}
