package nat_test

import (
	"bytes"
	"testing"

	"quarry/nat"
)

// lists is each call that tells lists, of three numbers: what it tells, refusals too.
func lists() map[string]func(a, b, c []byte) [][]byte {
	return map[string]func(a, b, c []byte) [][]byte{
		"Trim": func(a, b, c []byte) [][]byte { return [][]byte{nat.Trim(a), nat.Trim(b)} },
		"Add":  func(a, b, c []byte) [][]byte { return [][]byte{nat.Add(a, b), nat.Add(a, c)} },
		"Sub": func(a, b, c []byte) [][]byte {
			d, _ := nat.Sub(a, b)
			e, _ := nat.Sub(b, a)
			return [][]byte{d, e}
		},
		"Mul": func(a, b, c []byte) [][]byte { return [][]byte{nat.Mul(a, b), nat.Mul(b, c)} },
		"DivMod": func(a, b, c []byte) [][]byte {
			q, r, _ := nat.DivMod(a, b)
			q2, r2, _ := nat.DivMod(b, c)
			return [][]byte{q, r, q2, r2}
		},
		"ModExp": func(a, b, c []byte) [][]byte { return [][]byte{nat.ModExp(a, b, c), nat.ModExp(c, b, a)} },
		"Fill": func(a, b, c []byte) [][]byte {
			d, _ := nat.Fill(a, 60)
			e, _ := nat.Fill(b, len(b))
			f, _ := nat.Fill(c, 1)
			return [][]byte{d, e, f}
		},
	}
}

// inRoom is a with bytes ahead of it and spare room behind it, and the whole of that.
func inRoom(a []byte) (piece, whole []byte) {
	whole = append([]byte{0xa1, 0xa2, 0xa3, 0xa4}, a...)
	whole = append(whole, bytes.Repeat([]byte{0xb7}, 200)...)
	return whole[4 : 4+len(a)], whole
}

// spoil writes over all of l, its spare room too.
func spoil(l []byte) {
	l = l[:cap(l)]
	for i := range l {
		l[i] ^= 0x5a
	}
}

// clones is new memory with what is in l.
func clones(l [][]byte) [][]byte {
	m := make([][]byte, len(l))
	for i, b := range l {
		m[i] = bytes.Clone(b)
	}
	return m
}

// numbers are those that R2 is asked of: equal ones, those with zeros ahead, and those of one byte, too.
func numbers() [][]byte {
	return [][]byte{nil, {0, 0}, {1}, {0, 0, 1}, {7}, {1, 0}, power(64, 0), mixed(8), mixed(24), padded(mixed(31), 9)}
}

// R2: what is handed in, its spare room and what stands about it are not changed, and no answer shares memory with it or with another one.
func TestMemory(t *testing.T) {
	for name, call := range lists() {
		for _, a := range numbers() {
			for _, b := range numbers() {
				for _, c := range numbers() {
					checkMemory(t, name, call, a, b, c)
				}
			}
		}
	}
}

func checkMemory(t *testing.T, name string, call func(a, b, c []byte) [][]byte, a, b, c []byte) {
	t.Helper()
	var rooms, pieces [][]byte
	for _, n := range [][]byte{a, b, c} {
		piece, whole := inRoom(n)
		rooms, pieces = append(rooms, whole), append(pieces, piece)
	}
	was := clones(rooms)
	told := call(pieces[0], pieces[1], pieces[2])
	first := clones(told)
	again := call(pieces[0], pieces[1], pieces[2])
	for i, l := range told {
		spoil(l)
		for k, other := range told[i+1:] {
			if !bytes.Equal(other, first[i+1+k]) {
				t.Fatalf("%s of %x, %x, %x: two lists of its answers share memory", name, a, b, c)
			}
		}
	}
	for i := range rooms {
		if !bytes.Equal(rooms[i], was[i]) {
			t.Fatalf("%s of %x, %x, %x: number %d has changed, or is shared", name, a, b, c, i)
		}
		spoil(rooms[i])
	}
	for i, l := range again {
		if !bytes.Equal(l, first[i]) {
			t.Fatalf("%s of %x, %x, %x: a later answer is %x, must be %x", name, a, b, c, l, first[i])
		}
	}
}

// R2: one list for several arguments, and calls that tell no lists.
func TestMemoryOfOne(t *testing.T) {
	for _, n := range numbers() {
		a, whole := inRoom(n)
		was := bytes.Clone(whole)
		for _, call := range lists() {
			for _, l := range call(a, a, a) {
				spoil(l)
			}
		}
		nat.Cmp(a, a)
		nat.Bits(a)
		nat.Bit(a, 3)
		if !bytes.Equal(whole, was) {
			t.Fatalf("%x has changed: %x", was, whole)
		}
	}
}

// R2: nil and empty lists are one.
func TestNilAndEmpty(t *testing.T) {
	for name, call := range lists() {
		for _, b := range numbers() {
			for _, c := range [][3][]byte{{nil, b, b}, {b, nil, b}, {b, b, nil}, {nil, nil, nil}} {
				d := c
				for i := range d {
					if d[i] == nil {
						d[i] = []byte{}
					}
				}
				x, y := call(c[0], c[1], c[2]), call(d[0], d[1], d[2])
				for i := range x {
					if !bytes.Equal(x[i], y[i]) {
						t.Errorf("%s tells nil from none: %x, %x", name, x[i], y[i])
					}
				}
			}
		}
	}
}
