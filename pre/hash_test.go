package pre_test

import (
	"bytes"
	"crypto/sha256"
	"encoding/binary"
	"math/big"
	"testing"

	"quarry/api"
	"quarry/hash"
	"quarry/sign"
	"quarry/word"
)

// P16.2, 2, 3 and 4: of inputs of each length.
func TestHashes(t *testing.T) {
	t.Parallel()
	var m mixer = 20
	for size := range 300 {
		input := m.bytes(size)
		h := sha256.Sum256(input)
		must(t, 2, input, h[:])
		r := hash.Ripemd(input)
		must(t, 3, input, join(make([]byte, 12), r[:]))
		must(t, 4, input, join(none, input))
	}
	must(t, 2, []byte("abc"), unhex("ba7816bf8f01cfea414140de5dae2223b00361a396177a9cb410ff61f20015ad"))
	must(t, 3, []byte("abc"), unhex("0000000000000000000000008eb208f7e05d987a9b044a8e98c6b087f15a0bfc"))
	must(t, 3, nil, unhex("0000000000000000000000009c1185a5c5e9fc54612808977ee8f548b2258d31"))
}

// signed is an input of the first: a hash that was signed with a key.
func signed(t *testing.T, h [32]byte, key, nonce uint64) []byte {
	t.Helper()
	odd, r, s, e := sign.Sign(api.Hash(h), word.Of(key), word.Of(nonce))
	if e != api.OK {
		t.Fatal(e)
	}
	v := int64(27)
	if odd {
		v = 28
	}
	rs, ss := word.Bytes(r), word.Bytes(s)
	return join(h[:], wide(n(v)), rs[:], ss[:])
}

// P16.2, 1: who signed, of keys that are known.
func TestSigner(t *testing.T) {
	t.Parallel()
	must(t, 1, unhex("18c547e4f7b0f325ad1e56f57e26c745b09a3e503d86e00e5255ff7f715d3d1c000000000000000000000000000000000000000000000000000000000000001c73b1693892219d736caba55bdb67216e485557ea6b6af75f37096c9aa6a5a75feeb940b1d03b21e36b0e47e79769f095fe2ab855bd91e3a38756b7d75a9c4549"),
		unhex("000000000000000000000000a94f5374fce5edbc8e2a8697c15331677e6ebf0b"), "what others tell")
	odds := map[byte]struct{}{}
	for i := range uint64(12) {
		h := hash.Keccak([]byte{byte(i)})
		input := signed(t, h, 1, 1000+i)
		odds[input[63]] = struct{}{}
		must(t, 1, input, unhex("0000000000000000000000007e5f4552091a69125d5dfcb7b8c2659029395bdf"), "the key 1")
		must(t, 1, input, signerOut(input), "by the plain way")
	}
	if len(odds) != 2 {
		t.Error("all points have odd Y, or all even")
	}
}

// P16.2, 1: hashes, V, R and S of all kinds, beside right ones.
func TestSignerOfOdd(t *testing.T) {
	t.Parallel()
	g := secp()
	right := signed(t, hash.Keccak(nil), 77, 99)
	r, s := of(right[64:96]), of(right[96:])
	edges := []*big.Int{n(0), n(1), n(2), n(5), minus(g.order, n(1)), g.order, plus(g.order, n(1)), minus(g.p, n(1)), g.p, power2(256, -1), minus(g.order, s)}
	for _, v := range []*big.Int{n(0), n(1), n(26), n(27), n(28), n(29), n(255), n(256 + 27), n(256 + 28), plus(power2(64, 0), n(27)), plus(power2(255, 0), n(28)), new(big.Int).Lsh(n(27), 248), power2(256, -1)} {
		input := join(right[:32], wide(v), right[64:])
		must(t, 1, input, signerOut(input), "V", v)
	}
	for _, v := range []int64{27, 28} {
		for _, x := range edges {
			for _, input := range [][]byte{
				join(right[:32], wide(n(v)), wide(x), wide(s)),
				join(right[:32], wide(n(v)), wide(r), wide(x)),
				join(right[:32], wide(n(v)), wide(x), wide(x)),
				join(wide(x), wide(n(v)), wide(r), wide(s)),
			} {
				must(t, 1, input, signerOut(input), "V", v, "and", x)
			}
		}
	}
}

// P16.2, 1: the key zero is nobody's: R is G, and S the hash.
func TestSignerOfZero(t *testing.T) {
	t.Parallel()
	v := n(27 + int64(secpG().y.Bit(0)))
	must(t, 1, join(wide(n(77)), wide(v), wide(secpG().x), wide(n(77))), none)
	other := join(wide(n(78)), wide(v), wide(secpG().x), wide(n(77)))
	must(t, 1, other, signerOut(other))
	if len(signerOut(other)) != 32 {
		t.Error("nobody has signed the other hash")
	}
}

// P16.2, 1: shorter inputs have zeros behind them, longer ones are cut.
func TestSignerOfLengths(t *testing.T) {
	t.Parallel()
	whole := signed(t, hash.Keccak(nil), 5, 6)
	for end := range len(whole) {
		must(t, 1, whole[:end], signerOut(whole[:end]), end)
	}
	for _, more := range [][]byte{{0}, {1}, whole, bytes.Repeat([]byte{255}, 1000)} {
		must(t, 1, join(whole, more), signerOut(whole), "more behind it")
	}
}

// abc is EIP-152's input of rounds for "abc".
func abc(rounds uint32, final byte) []byte {
	return join(binary.BigEndian.AppendUint32(nil, rounds),
		unhex("48c9bdf267e6096a3ba7ca8485ae67bb2bf894fe72f36e3cf1361d5f3af54fa5d182e6ad7f520e511f6c3e2b8c68059b6bbd41fbabd9831f79217e1319cde05b"),
		[]byte("abc"), make([]byte, 125), []byte{3}, make([]byte, 15), []byte{final})
}

// P16.2, 9: EIP-152's examples.
func TestKnownRounds(t *testing.T) {
	t.Parallel()
	for _, x := range []struct {
		input []byte
		want  string
	}{
		{abc(0, 1), "08c9bcf367e6096a3ba7ca8485ae67bb2bf894fe72f36e3cf1361d5f3af54fa5d282e6ad7f520e511f6c3e2b8c68059b9442be0454267ce079217e1319cde05b"},
		{abc(12, 1), "ba80a53f981c4d0d6a2797b69f12f6e94c212f14685ac4b74b12bb6fdbffa2d17d87c5392aab792dc252d5de4533cc9518d38aa8dbf1925ab92386edd4009923"},
		{abc(12, 0), "75ab69d3190a562c51aef8d88f1c2775876944407270c42c9844252c26d2875298743e7f6d5ea2f2d3e8d226039cd31b4e426ac4f2d3d666a610c2116fde4735"},
		{abc(1, 1), "b63a380cb2897d521994a85234ee2c181b5f844d2c624c002677e9703449d2fba551b3a8333bcdf5f2f7e08993d53923de3d64fcc68c034e717b9293fed7a421"},
	} {
		must(t, 9, x.input, unhex(x.want))
	}
}

// P16.2, 9: each of F's arguments in its place, the lowest byte first.
func TestRounds(t *testing.T) {
	t.Parallel()
	var m mixer = 21
	for i := range 300 {
		input := m.bytes(213)
		copy(input, []byte{0, 0, byte(i % 3), input[3]})
		input[212] = byte(i % 2)
		var x struct {
			Rounds uint32
			H      [8]uint64
			M      [16]uint64
			T      [2]uint64
		}
		x.Rounds = binary.BigEndian.Uint32(input)
		for k := range x.H {
			x.H[k] = binary.LittleEndian.Uint64(input[4+8*k:])
		}
		for k := range x.M {
			x.M[k] = binary.LittleEndian.Uint64(input[68+8*k:])
		}
		for k := range x.T {
			x.T[k] = binary.LittleEndian.Uint64(input[196+8*k:])
		}
		var want []byte
		for _, v := range hash.Blake(x.Rounds, x.H, x.M, x.T, i%2 == 1) {
			want = binary.LittleEndian.AppendUint64(want, v)
		}
		must(t, 9, input, want, i)
	}
}

// P16.2, 9: it fails of other lengths, and of a last byte that is neither 0 nor 1.
func TestRoundsRefused(t *testing.T) {
	t.Parallel()
	long := join(abc(2, 1), abc(2, 1))
	for size := range len(long) + 1 {
		if size != 213 {
			must(t, 9, long[:size], fails, size)
			must(t, 9, make([]byte, size), fails, size)
		}
	}
	for last := 2; last < 256; last++ {
		must(t, 9, abc(2, byte(last)), fails, "the last byte is", last)
	}
}
