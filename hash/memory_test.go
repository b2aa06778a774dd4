package hash_test

import (
	"bytes"
	"testing"

	"quarry/hash"
)

// inRoom is b with bytes ahead of it and spare room behind it, and the whole of that.
func inRoom(b []byte) (piece, whole []byte) {
	whole = append([]byte{0xa1, 0xa2, 0xa3, 0xa4}, b...)
	whole = append(whole, bytes.Repeat([]byte{0xb7}, 200)...)
	return whole[4 : 4+len(b)], whole
}

// TestHandedIn: R2: what is handed in is not changed, nor what stands ahead of it or behind; nil and no bytes are one.
func TestHandedIn(t *testing.T) {
	calls := map[string]func([]byte) []byte{
		"Keccak": func(b []byte) []byte { s := hash.Keccak(b); return s[:] },
		"Sha":    func(b []byte) []byte { s := hash.Sha(b); return s[:] },
		"Ripemd": func(b []byte) []byte { s := hash.Ripemd(b); return s[:] },
		"Write":  func(b []byte) []byte { s := hash.New(); s.Write(b); sum := s.Sum(); return sum[:] },
	}
	m := mixer(11)
	for name, call := range calls {
		for _, n := range []int{0, 1, 55, 56, 63, 64, 119, 120, 128, 135, 136, 137, 271, 272, 500} {
			text := m.bytes(n)
			piece, whole := inRoom(text)
			was := bytes.Clone(whole)
			if !bytes.Equal(call(piece), call(bytes.Clone(text))) {
				t.Errorf("%s hangs on what stands about its %d bytes", name, n)
			}
			if !bytes.Equal(whole, was) {
				t.Errorf("%s changes its %d bytes, or what stands about them", name, n)
			}
		}
		if !bytes.Equal(call(nil), call([]byte{})) {
			t.Errorf("%s holds nil and no bytes apart", name)
		}
	}
}

// TestNotKept: R2: a sponge doesn't keep what it is fed: it may be written over.
func TestNotKept(t *testing.T) {
	m := mixer(12)
	for _, n := range []int{1, 7, 135, 136, 137, 300} {
		room := make([]byte, n)
		s := hash.New()
		var all []byte
		for range 5 {
			copy(room, m.bytes(n))
			s.Write(room)
			all = append(all, room...)
			clear(room)
		}
		if s.Sum() != hash.Keccak(all) {
			t.Errorf("pieces of %d bytes are kept", n)
		}
	}
}

// TestAgain: R4: what is answered hangs on the arguments alone.
func TestAgain(t *testing.T) {
	m := mixer(13)
	a, b := m.bytes(200), m.bytes(77)
	keccak, sha, ripemd := hash.Keccak(a), hash.Sha(a), hash.Ripemd(a)
	blake := hash.Blake(3, blakeIV, [16]uint64{4}, [2]uint64{5}, true)
	hash.Keccak(b)
	hash.Sha(b)
	hash.Ripemd(b)
	hash.Blake(4, [8]uint64{1}, [16]uint64{6}, [2]uint64{7}, false)
	if hash.Keccak(a) != keccak || hash.Sha(a) != sha || hash.Ripemd(a) != ripemd {
		t.Error("the same bytes have another hash behind other ones")
	}
	if hash.Blake(3, blakeIV, [16]uint64{4}, [2]uint64{5}, true) != blake {
		t.Error("Blake answers the same arguments otherwise")
	}
}
