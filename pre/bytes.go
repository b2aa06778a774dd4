package pre

import (
	"quarry/api"
	"quarry/nat"
	"quarry/word"
)

// wordSize is how many bytes a word has.
const wordSize = 32

// sized is input cut to so many bytes, or with zeros behind it up to as many.
func sized(input []byte, size int) []byte {
	b := make([]byte, size)
	copy(b, input)
	return b
}

// wide is a number of no more than 32 bytes with zeros ahead of it up to as many.
func wide(b []byte) []byte {
	w, _ := nat.Fill(b, wordSize)
	return w
}

// number is what up to 32 bytes are.
func number(b []byte) api.Word {
	w, _ := word.From(b)
	return w
}
