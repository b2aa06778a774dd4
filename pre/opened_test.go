package pre_test

import (
	"math/big"
	"testing"

	"quarry/api"
	"quarry/curve"
	"quarry/kzg"
)

// shown is what the tenth tells: 4096, and BlsR's prime.
func shown() []byte {
	return unhex("000000000000000000000000000000000000000000000000000000000000100073eda753299d7d483339d80809a1d80553bda402fffe5bfeffffffff00000001")
}

// claim is an input of the tenth: that the line a x + b is y at z.
func claim(t *testing.T, a, b, z, y *big.Int) []byte {
	t.Helper()
	tau, e := curve.Unpack1(unhex("ad3eb50121139aa34db1d545093ac9374ab7bca2c0f3bf28e27c8dcd8fc7cb42d25926fc0c97b336e9f0fb35e5a04c81"))
	if e != api.OK {
		t.Fatal(e)
	}
	g, _ := curve.Gen1(api.Bls)
	multiple := func(p api.P1, k *big.Int) api.P1 {
		q, e := curve.Mul1(api.Bls, p, k.Bytes())
		if e != api.OK {
			t.Fatal(e)
		}
		return q
	}
	sum, e := curve.Add1(api.Bls, multiple(tau, a), multiple(g, b))
	if e != api.OK {
		t.Fatal(e)
	}
	commitment, _ := curve.Pack1(sum)
	proof, _ := curve.Pack1(multiple(g, a))
	return hashed(join(make([]byte, 32), wide(z), wide(y), commitment, proof))
}

// hashed is the input with the hash that its commitment has.
func hashed(input []byte) []byte {
	h := kzg.Versioned(input[96:144])
	return join(h[:], input[32:])
}

// P16.2, 10: what others tell, and lines.
func TestOpened(t *testing.T) {
	t.Parallel()
	must(t, 10, unhex("01e798154708fe7789429634053cbf9f99b619f9f084048927333fce637f549b"+
		"564c0a11a0f704f4fc3e8acfe0f8245f0ad1347b378fbf96e206da11a5d36306"+
		"24d25032e67a7e6a4910df5834b8fe70e6bcfeeac0352434196bdf4b2485d5a1"+
		"8f59a8d2a1a625a17f3fea0fe5eb8c896db3764f3185481bc22f91b4aaffcca25f26936857bc3a7c2539ea8ec3a952b7"+
		"873033e038326e87ed3e1276fd140253fa08e9fc25fb2d9a98527fc22a2c9612fbeafdad446cbc7bcdbdcd780af2c16a"), shown(), "what others tell")
	for _, x := range [][3]int64{{0, 0, 9}, {0, 7, 3}, {1, 0, 0}, {1, 0, 5}, {3, 4, 11}} {
		y := x[0]*x[2] + x[1]
		must(t, 10, claim(t, n(x[0]), n(x[1]), n(x[2]), n(y)), shown(), x)
		must(t, 10, claim(t, n(x[0]), n(x[1]), n(x[2]), n(y+1)), fails, x)
	}
}

// P16.2, 10: it fails of other lengths, whatever stands ahead or behind.
func TestOpenedOfLengths(t *testing.T) {
	t.Parallel()
	whole := claim(t, n(3), n(4), n(5), n(19))
	long := join(whole, whole)
	for size := range len(long) + 1 {
		if size != 192 {
			must(t, 10, long[:size], fails, size)
			must(t, 10, long[len(long)-size:], fails, size)
			must(t, 10, make([]byte, size), fails, size)
		}
	}
}

// P16.2, 10: it fails of a hash that is not the commitment's, of each bit, and without its first byte too.
func TestOpenedOfOtherHashes(t *testing.T) {
	t.Parallel()
	whole := claim(t, n(3), n(4), n(5), n(19))
	for bit := range 256 {
		must(t, 10, turned(whole, bit), fails, "bit", bit)
	}
	for bit := 8 * 96; bit < 8*144; bit += 5 {
		must(t, 10, turned(whole, bit), fails, "bit", bit)
	}
	must(t, 10, make([]byte, 192), fails, "zeros")
}

// P16.2, 10: it fails of each other part that is not what was proved, and of what is no number or point.
func TestOpenedRefused(t *testing.T) {
	t.Parallel()
	whole := claim(t, n(3), n(4), n(5), n(19))
	must(t, 10, whole, shown())
	for bit := 8 * 32; bit < 8*192; bit += 61 {
		must(t, 10, hashed(turned(whole, bit)), fails, "bit", bit)
	}
	prime := of(shown()[32:])
	must(t, 10, join(whole[:32], wide(plus(prime, n(5))), whole[64:]), fails, "z and the prime")
	must(t, 10, join(whole[:64], wide(plus(prime, n(19))), whole[96:]), fails, "y and the prime")
	must(t, 10, join(whole[:32], whole[64:96], whole[32:64], whole[96:]), fails, "z and y crosswise")
	must(t, 10, hashed(join(whole[:96], whole[144:], whole[96:144])), fails, "the points crosswise")
	must(t, 10, hashed(join(whole[:96], make([]byte, 48), whole[144:])), fails, "no commitment")
	must(t, 10, join(whole[:144], make([]byte, 48)), fails, "no proof")
}
