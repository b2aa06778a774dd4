package kzg_test

import (
	"bytes"
	"crypto/sha256"
	"testing"

	"quarry/api"
	"quarry/curve"
	"quarry/kzg"
	"quarry/pair"
)

// P10.1: Setup is the point that the chapter writes packed, and its t is that of t G1.
func TestSetup(t *testing.T) {
	t.Parallel()
	want, e := curve.Unpack2(unhex(t, setupText))
	if e != api.OK || kzg.Setup() != want {
		t.Fatalf("%v, not %v, %v", kzg.Setup(), want, e)
	}
	if b, e := curve.Pack2(kzg.Setup()); e != api.OK || !bytes.Equal(b, unhex(t, setupText)) {
		t.Errorf("packed: %x, %v", b, e)
	}
	p, g := bases(t)
	minus, _ := curve.Neg1(api.Bls, p)
	second, _ := curve.Gen2(api.Bls)
	if one, e := pair.One(api.Bls, []api.P1{g, minus}, []api.P2{kzg.Setup(), second}); !one || e != api.OK {
		t.Errorf("against t G1: %v, %v", one, e)
	}
}

// R2: whoever changes what Setup told changes nothing.
func TestSetupAgain(t *testing.T) {
	t.Parallel()
	before := kzg.Setup()
	p := kzg.Setup()
	p.X[0][0], p.Y[1][5], p.Inf = 1, 2, true
	if kzg.Setup() != before || before.Inf {
		t.Error("the setup was changed")
	}
}

// P10.1: a hash is the byte 1 and the rest of the sum, of bytes of any length.
func TestVersioned(t *testing.T) {
	t.Parallel()
	var m mixer = 2
	lengths := []int{1000, 4096, 70001}
	for i := range 200 {
		lengths = append(lengths, i)
	}
	first := 0
	for _, length := range lengths {
		b := m.bytes(length)
		want := sha256.Sum256(b)
		if want[0] == 1 {
			first++
		}
		want[0] = 1
		if got := kzg.Versioned(b); got != api.Hash(want) {
			t.Errorf("%x: %x, not %x", b, got, want)
		}
	}
	if first == len(lengths) {
		t.Error("each sum begins with 1")
	}
	if kzg.Versioned(nil) != kzg.Versioned([]byte{}) {
		t.Error("nil and empty ones differ")
	}
}

// P10.1: the hash of the polynomial 0's commitment, as clients of chains know it.
func TestVersionedZero(t *testing.T) {
	t.Parallel()
	if h := kzg.Versioned(zero()); !bytes.Equal(h[:], unhex(t, "010657f37554c781402a22917dee2f75def7ab966d7b770905398eba3c444014")) {
		t.Errorf("%x", h)
	}
}

// R2, R4: what is handed in stands as it stood, spare room too; what was asked ahead does not count.
func TestMemory(t *testing.T) {
	t.Parallel()
	l := line{n(3), n(4)}
	row := [4][]byte{l.commitment(t), wide(n(5)), wide(n(19)), l.proof(t)}
	var whole, before [4][]byte
	for i, b := range row {
		whole[i] = append(append([]byte{9, 8}, b...), 7, 6, 5)
		before[i] = bytes.Clone(whole[i])
		row[i] = whole[i][2 : len(b)+2]
	}
	same := func(what string) {
		t.Helper()
		for i := range whole {
			if !bytes.Equal(whole[i], before[i]) {
				t.Errorf("%s: argument %d was changed", what, i)
			}
		}
	}
	for range 2 {
		must(t, row[0], row[1], row[2], row[3], api.OK, "a line")
		same("a line")
		must(t, row[0], row[2], row[1], row[3], api.ErrProof, "z and y crosswise")
		same("z and y crosswise")
		must(t, row[3], row[1], row[2], row[0], api.ErrProof, "commitment and proof crosswise")
		same("commitment and proof crosswise")
		must(t, row[0][:48:48], row[1], row[2], row[3][:47], api.ErrLength, "a short proof")
		same("a short proof")
		kzg.Versioned(row[0])
		same("a hash")
	}
	h := kzg.Versioned(row[0])
	row[0][47] ^= 1
	if kzg.Versioned(row[0]) == h {
		t.Error("what was asked ahead counts")
	}
}

// P10.2: four parts may be one memory.
func TestOneMemory(t *testing.T) {
	t.Parallel()
	b := append(zero(), zero()...)
	must(t, b[:48], b[10:42], b[1:33], b[48:], api.OK, "zero within itself")
	must(t, b[:48], b[10:42], b[1:33], b[:48], api.OK, "zero as its own proof")
}
