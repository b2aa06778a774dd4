package hash_test

import (
	"bytes"
	"encoding/binary"
	"testing"

	"quarry/hash"
)

// TestRuns: the chapter's table of runs.
func TestRuns(t *testing.T) {
	keccak := func(text string) []byte { b := hash.Keccak([]byte(text)); return b[:] }
	sha := func(text string) []byte { b := hash.Sha([]byte(text)); return b[:] }
	ripemd := func(text string) []byte { b := hash.Ripemd([]byte(text)); return b[:] }
	for _, c := range []struct {
		run  string
		got  []byte
		want string
	}{
		{"Keccak of none", keccak(""), "c5d2460186f7233c927e7db2dcc703c0e500b653ca82273b7bfad8045d85a470"},
		{"Keccak abc", keccak("abc"), "4e03657aea45a94fc7d47ba826c8d667c0d1e6e33a64a036ec44f58fa12d6c45"},
		{"Sha of none", sha(""), "e3b0c44298fc1c149afbf4c8996fb92427ae41e4649b934ca495991b7852b855"},
		{"Sha abc", sha("abc"), "ba7816bf8f01cfea414140de5dae2223b00361a396177a9cb410ff61f20015ad"},
		{"Ripemd of none", ripemd(""), "9c1185a5c5e9fc54612808977ee8f548b2258d31"},
		{"Ripemd abc", ripemd("abc"), "8eb208f7e05d987a9b044a8e98c6b087f15a0bfc"},
	} {
		if !bytes.Equal(c.got, unhex(t, c.want)) {
			t.Errorf("%s is %x, must be %s", c.run, c.got, c.want)
		}
	}
}

// TestRunsBlake: the table's runs of Blake.
func TestRunsBlake(t *testing.T) {
	h := [8]uint64{
		0x6a09e667f2bdc948, 0xbb67ae8584caa73b, 0x3c6ef372fe94f82b, 0xa54ff53a5f1d36f1,
		0x510e527fade682d1, 0x9b05688c2b3e6c1f, 0x1f83d9abfb41bd6b, 0x5be0cd19137e2179,
	}
	want := unhex(t, "0d4d1c983fa580bae9f6129fb697276ab7c45a68142f214cd1a2ffdb6fbb124b2d79ab2a39c5877d95cc3345ded552c25a92f1dba88ad318239900d4ed8623b9")
	for i, v := range hash.Blake(12, h, [16]uint64{0x636261}, [2]uint64{3, 0}, true) {
		if must := binary.BigEndian.Uint64(want[8*i:]); v != must {
			t.Errorf("h[%d] of RFC 7693's abc is %x, must be %x", i, v, must)
		}
	}
	if got := hash.Blake(0, [8]uint64{}, [16]uint64{}, [2]uint64{}, false); got != blakeIV {
		t.Errorf("Blake of 0 rounds, all zeros, not final, is %x, must be IV", got)
	}
}

// TestExamples: the chapter's examples.
func TestExamples(t *testing.T) {
	s := hash.New()
	if s.Sum() != hash.Keccak(nil) {
		t.Error("the Sum of New() is not Keccak of none")
	}
	s.Write([]byte("a"))
	if s.Sum() != hash.Keccak([]byte("a")) {
		t.Error("the first Sum is not of what was fed")
	}
	s.Write([]byte("bc"))
	if s.Sum() != hash.Keccak([]byte("abc")) {
		t.Error("the second Sum is not of all bytes")
	}
}
