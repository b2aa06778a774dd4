package rlp

import (
	"math/bits"

	"quarry/api"
)

// Encode is the form of x: ErrDepth, if more than MaxNest lists are in one another there.
func Encode(x api.Item) ([]byte, api.Errno) {
	var p plan
	size, ok := p.measure(x, api.MaxNest)
	if !ok {
		return nil, api.ErrDepth
	}
	return p.write(make([]byte, 0, size), x), api.OK
}

// A plan is how long the payloads of an item's lists are, in the order in which their heads are written. Each is reckoned once: to ask again at each list how long those in it are would take time by the square of the depth.
type plan struct {
	sizes []int
	next  int
}

// measure is how long the form of x is; not ok, if more than nest lists are in one another there.
func (p *plan) measure(x api.Item, nest int) (size int, ok bool) {
	inside := contents(x)
	if t, ok := inside.(text); ok {
		return textSize(t), true
	}
	if nest == 0 {
		return 0, false
	}
	place, sum := len(p.sizes), 0
	p.sizes = append(p.sizes, 0)
	for _, y := range inside.(items) {
		size, ok := p.measure(y, nest-1)
		if !ok {
			return 0, false
		}
		sum += size
	}
	p.sizes[place] = sum
	return headSize(sum) + sum, true
}

// write appends the form of x, which has been measured, to b.
func (p *plan) write(b []byte, x api.Item) []byte {
	inside := contents(x)
	if t, ok := inside.(text); ok {
		return writeText(b, t)
	}
	b = writeHead(b, listBase, p.sizes[p.next])
	p.next++
	for _, y := range inside.(items) {
		b = p.write(b, y)
	}
	return b
}

// contents is what is in x, without what is not looked at.
func contents(x api.Item) any {
	if x.List {
		return items(x.Items)
	}
	return text(x.Bytes)
}

// bare says whether t is its own form.
func bare(t text) bool { return len(t) == 1 && t[0] < textBase }

// textSize is how long the form of t is.
func textSize(t text) int {
	if bare(t) {
		return 1
	}
	return headSize(len(t)) + len(t)
}

// headSize is how long the head of a payload of n bytes is.
func headSize(n int) int {
	if n <= maxShort {
		return 1
	}
	return 1 + lengthSize(n)
}

// lengthSize is how many bytes n has, without zeros ahead.
func lengthSize(n int) int { return (bits.Len64(uint64(n)) + 7) / 8 }

// writeText appends the form of t to b.
func writeText(b []byte, t text) []byte {
	if !bare(t) {
		b = writeHead(b, textBase, len(t))
	}
	return append(b, t...)
}

// writeHead appends the head of a payload of n bytes to b.
func writeHead(b []byte, base byte, n int) []byte {
	if n <= maxShort {
		return append(b, base+byte(n))
	}
	k := lengthSize(n)
	b = append(b, base+maxShort+byte(k))
	for place := k - 1; place >= 0; place-- {
		b = append(b, byte(n>>(8*place)))
	}
	return b
}
