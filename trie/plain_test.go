package trie_test

import (
	"encoding/hex"
	"math/big"
	"slices"
	"strings"
	"testing"

	"quarry/api"
	"quarry/hash"
	"quarry/rlp"
)

// The chapter's promises, as its words say them: a row is a text of hex digits, one a nibble; a set of pairs is a map from rows to values; a node is made anew for each set, and is its form at once.

// rowOf is a key's row.
func rowOf(key string) string { return hex.EncodeToString([]byte(key)) }

// rowsOf is the set of pairs of a map.
func rowsOf(m map[string]string) map[string]string {
	rows := map[string]string{}
	for key, value := range m {
		rows[rowOf(key)] = value
	}
	return rows
}

// digit is the digit of a nibble.
func digit(n int) string { return string("0123456789abcdef"[n]) }

// plainCompact is Compact of a row: P12.1.
func plainCompact(row string, leaf bool) []byte {
	f := 0
	if leaf {
		f = 2
	}
	if len(row)%2 == 1 {
		return unhex(digit(f+1) + row)
	}
	return unhex(digit(f) + "0" + row)
}

// text is the form of a byte string, list the one of a list of items that have these forms.
func text(b []byte) []byte { return formOf(api.Item{Bytes: b}) }

func list(forms ...[]byte) []byte {
	all := slices.Concat(forms...)
	if len(all) <= 55 {
		return append([]byte{byte(192 + len(all))}, all...)
	}
	n := big.NewInt(int64(len(all))).Bytes()
	return slices.Concat([]byte{byte(247 + len(n))}, n, all)
}

// formOf is an item's form.
func formOf(x api.Item) []byte {
	raw, e := rlp.Encode(x)
	if e != api.OK {
		panic(e)
	}
	return raw
}

// keccak is Keccak as it stands in links.
func keccak(b []byte) []byte {
	h := hash.Keccak(b)
	return h[:]
}

// rootOf is the root that a form has.
func rootOf(form []byte) api.Hash { return api.Hash(hash.Keccak(form)) }

// behind is the set of those pairs whose rows begin so, without that.
func behind(rows map[string]string, p string) map[string]string {
	rest := map[string]string{}
	for row, value := range rows {
		if strings.HasPrefix(row, p) {
			rest[row[len(p):]] = value
		}
	}
	return rest
}

// common is the longest beginning that all rows have.
func common(rows map[string]string) string {
	var p string
	for row := range rows {
		p = row
	}
	for len(behind(rows, p)) < len(rows) {
		p = p[:len(p)-1]
	}
	return p
}

// plainNode is the form of the node of a set: P12.3.
func plainNode(rows map[string]string) []byte {
	if len(rows) == 0 {
		return text(nil)
	}
	p := common(rows)
	if len(rows) == 1 {
		return list(text(plainCompact(p, true)), text([]byte(rows[p])))
	}
	if p != "" {
		return list(text(plainCompact(p, false)), plainLink(behind(rows, p)))
	}
	var parts [][]byte
	for n := range 16 {
		parts = append(parts, plainLink(behind(rows, digit(n))))
	}
	return list(append(parts, text([]byte(rows[""])))...)
}

// plainLink is the form of the link to the node of a set.
func plainLink(rows map[string]string) []byte {
	form := plainNode(rows)
	if len(form) < 32 {
		return form
	}
	return text(keccak(form))
}

// plainProve is Prove of a row: P12.4.
func plainProve(rows map[string]string, row string) [][]byte {
	proof := [][]byte{plainNode(rows)}
	for len(rows) > 1 {
		p := common(rows)
		if p == "" {
			if row == "" {
				break
			}
			p = row[:1]
		} else if !strings.HasPrefix(row, p) {
			break
		}
		rows, row = behind(rows, p), row[len(p):]
		if form := plainNode(rows); len(form) >= 32 {
			proof = append(proof, form)
		}
	}
	return proof
}

// plainCheck is Check: P12.5. It goes by the forms one behind the other, and by the nodes that stand in one of them.
func plainCheck(root api.Hash, row string, proof [][]byte) (value string, e api.Errno) {
	link := root[:]
	for i, form := range proof {
		x, e := rlp.Decode(form)
		if e != api.OK || string(link) != string(keccak(form)) {
			return "", api.ErrProof
		}
		if i == 0 && string(form) == "\x80" {
			link = nil
		} else if value, row, link, e = plainWay(x, row); e != api.OK {
			return "", e
		}
		if last := i == len(proof)-1; last != (len(link) == 0) {
			return "", api.ErrProof
		}
	}
	if len(proof) == 0 {
		return "", api.ErrProof
	}
	return value, api.OK
}

// plainWay goes from a node on as far as there is no link by hash: it tells that link and the rest of the row, or, where the way ends, the value.
func plainWay(x api.Item, row string) (value, rest string, link []byte, e api.Errno) {
	if !plainSuch(x) {
		return "", "", nil, api.ErrProof
	}
	var next api.Item
	if len(x.Items) == 17 {
		if row == "" {
			return string(x.Items[16].Bytes), "", nil, api.OK
		}
		next = x.Items[strings.Index("0123456789abcdef", row[:1])]
		row = row[1:]
	} else {
		p, leaf := plainExpand(x.Items[0].Bytes)
		if leaf && p == row {
			return string(x.Items[1].Bytes), "", nil, api.OK
		}
		if leaf || !strings.HasPrefix(row, p) {
			return "", "", nil, api.OK
		}
		next, row = x.Items[1], row[len(p):]
	}
	if next.List {
		return plainWay(next, row)
	}
	return "", row, next.Bytes, api.OK
}

// plainSuch says whether x is such a node as P12.5 asks for.
func plainSuch(x api.Item) bool {
	var links []api.Item
	switch {
	case !x.List:
		return false
	case len(x.Items) == 17:
		if x.Items[16].List {
			return false
		}
		links = x.Items[:16]
	case len(x.Items) == 2:
		raw := x.Items[0].Bytes
		if x.Items[0].List || len(raw) == 0 || !slices.Contains([]byte{0x00, 0x20}, raw[0]) && raw[0]>>4 != 1 && raw[0]>>4 != 3 {
			return false
		}
		if _, leaf := plainExpand(raw); leaf {
			return !x.Items[1].List && len(x.Items[1].Bytes) >= 1
		}
		links = x.Items[1:]
	default:
		return false
	}
	for _, l := range links {
		if !l.List && len(l.Bytes) != 0 && len(l.Bytes) != 32 {
			return false
		}
	}
	return true
}

// plainExpand is the row that Compact so writes.
func plainExpand(raw []byte) (row string, leaf bool) {
	digits := hex.EncodeToString(raw)
	if digits[0] == '0' || digits[0] == '2' {
		return digits[2:], digits[0] == '2'
	}
	return digits[1:], digits[0] == '3'
}

// TestPlain: the plain writer of lists writes as rlp does.
func TestPlain(t *testing.T) {
	m := mixer(1)
	for _, n := range []int{0, 1, 5, 54, 55, 56, 57, 255, 256, 257, 70000} {
		b := m.bytes(n)
		x := api.Item{List: true, Items: []api.Item{{Bytes: b}, {List: true}}}
		if got := list(text(b), list()); string(got) != string(formOf(x)) {
			t.Errorf("list of %d bytes: %.20x", n, got)
		}
	}
}
