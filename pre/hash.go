package pre

import (
	"bytes"

	"quarry/api"
	"quarry/hash"
	"quarry/sign"
	"quarry/word"
)

// What V is, by whether Y is odd.
const (
	evenV = 27
	oddV  = 28
)

// signer is the address of who signed a hash; no bytes, if nobody did.
func signer(input []byte) ([]byte, bool) {
	b := sized(input, 4*wordSize)
	v, r, s := number(b[32:64]), number(b[64:96]), number(b[96:])
	odd := v == word.Of(oddV)
	if !odd && v != word.Of(evenV) {
		return nil, true
	}
	key, e := sign.Recover(api.Hash(b[:32]), odd, r, s)
	if e != api.OK {
		return nil, true
	}
	a, _ := sign.Address(key) // a key that is told has one
	return wide(a[:]), true
}

func sha(input []byte) ([]byte, bool) {
	h := hash.Sha(input)
	return h[:], true
}

func ripemd(input []byte) ([]byte, bool) {
	h := hash.Ripemd(input)
	return wide(h[:]), true
}

func same(input []byte) ([]byte, bool) { return bytes.Clone(input), true }

// mixSize is how many bytes F's arguments have.
const mixSize = 4 + 8*(8+16+2) + 1

// rounds is how many of them F's arguments ask for.
func rounds(input []byte) uint32 {
	n, _ := word.Small(number(input[:4]))
	return uint32(n)
}

// mixed is what F makes of its arguments; it fails, if they are not as many as they must be, or the last is neither 0 nor 1.
func mixed(input []byte) ([]byte, bool) {
	if len(input) != mixSize || input[mixSize-1] > 1 {
		return nil, false
	}
	var h [8]uint64
	var m [16]uint64
	var t [2]uint64
	lanes := input[4:]
	for _, part := range [...][]uint64{h[:], m[:], t[:]} {
		for i := range part {
			part[i] = lane(lanes[:8])
			lanes = lanes[8:]
		}
	}
	var out []byte
	for _, v := range hash.Blake(rounds(input), h, m, t, lanes[0] == 1) {
		for i := range 8 {
			out = append(out, byte(v>>(8*i)))
		}
	}
	return out, true
}

// lane is a number by its bytes, the lowest first.
func lane(b []byte) uint64 {
	var n uint64
	for i, v := range b {
		n |= uint64(v) << (8 * i)
	}
	return n
}
