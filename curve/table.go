package curve

import (
	"quarry/api"
	"quarry/field"
	"quarry/tower"
)

// row is what makes a curve: the kind of its prime field, b of y^2 = x^3 + b, how many points its group has, as bytes, how many times as many the curve has, and the group's generator.
type row[E any] struct {
	kind  int
	b     E
	order string
	times string
	start spot[E]
}

// The orders of the groups.
const (
	orderSecp = "\xff\xff\xff\xff\xff\xff\xff\xff\xff\xff\xff\xff\xff\xff\xff\xfe\xba\xae\xdc\xe6\xaf\x48\xa0\x3b\xbf\xd2\x5e\x8c\xd0\x36\x41\x41"
	orderBn   = "\x30\x64\x4e\x72\xe1\x31\xa0\x29\xb8\x50\x45\xb6\x81\x81\x58\x5d\x28\x33\xe8\x48\x79\xb9\x70\x91\x43\xe1\xf5\x93\xf0\x00\x00\x01"
	orderBls  = "\x73\xed\xa7\x53\x29\x9d\x7d\x48\x33\x39\xd8\x08\x09\xa1\xd8\x05\x53\xbd\xa4\x02\xff\xfe\x5b\xfe\xff\xff\xff\xff\x00\x00\x00\x01"
)

// once is where all points of a curve are in its group.
const once = "\x01"

// firsts are the curves Secp, Bn and Bls.
var firsts = [...]row[api.Num]{
	{api.SecpP, api.Num{7}, orderSecp, once, spot[api.Num]{
		X: api.Num{0x59f2815b16f81798, 0x029bfcdb2dce28d9, 0x55a06295ce870b07, 0x79be667ef9dcbbac},
		Y: api.Num{0x9c47d08ffb10d4b8, 0xfd17b448a6855419, 0x5da4fbfc0e1108a8, 0x483ada7726a3c465},
	}},
	{api.BnP, api.Num{3}, orderBn, once, spot[api.Num]{X: api.Num{1}, Y: api.Num{2}}},
	{api.BlsP, api.Num{4}, orderBls, "\x39\x6c\x8c\x00\x55\x55\xe1\x56\x8c\x00\xaa\xab\x00\x00\xaa\xab", spot[api.Num]{
		X: api.Num{0xfb3af00adb22c6bb, 0x6c55e83ff97a1aef, 0xa14e3a3f171bac58, 0xc3688c4f9774b905, 0x2695638c4fa9ac0f, 0x17f1d3a73197d794},
		Y: api.Num{0x0caa232946c5e7e1, 0xd03cc744a2888ae4, 0x00db18cb2c04b3ed, 0xfcf5e095d5d00af6, 0xa09e30ed741d8ae4, 0x08b3f481e3aaa0f1},
	}},
}

// seconds are the second curves of Bn and Bls.
var seconds = [...]row[api.F2]{
	{
		api.BnP,
		api.F2{
			{0x3267e6dc24a138e5, 0xb5b4c5e559dbefa3, 0x81be18991be06ac3, 0x2b149d40ceb8aaae},
			{0xe4a2bd0685c315d2, 0xa74fa084e52d1852, 0xcd2cafadeed8fdf4, 0x009713b03af0fed4},
		},
		orderBn,
		"\x30\x64\x4e\x72\xe1\x31\xa0\x29\xb8\x50\x45\xb6\x81\x81\x58\x5e\x06\xce\xec\xda\x57\x2a\x24\x89\x34\x5f\x22\x99\xc0\xf9\xfa\x8d",
		spot[api.F2]{
			X: api.F2{
				{0x46debd5cd992f6ed, 0x674322d4f75edadd, 0x426a00665e5c4479, 0x1800deef121f1e76},
				{0x97e485b7aef312c2, 0xf1aa493335a9e712, 0x7260bfb731fb5d25, 0x198e9393920d483a},
			},
			Y: api.F2{
				{0x4ce6cc0166fa7daa, 0xe3d1e7690c43d37b, 0x4aab71808dcb408f, 0x12c85ea5db8c6deb},
				{0x55acdadcd122975b, 0xbc4b313370b38ef3, 0xec9e99ad690c3395, 0x090689d0585ff075},
			},
		},
	},
	{
		api.BlsP,
		api.F2{{4}, {4}},
		orderBls,
		"\x05\xd5\x43\xa9\x54\x14\xe7\xf1\x09\x1d\x50\x79\x28\x76\xa2\x02\xcd\x91\xde\x45\x47\x08\x5a\xba\xa6\x8a\x20\x5b\x2e\x5a\x7d\xdf\xa6\x28\xf1\xcb\x4d\x9e\x82\xef\x21\x53\x7e\x29\x3a\x66\x91\xae\x16\x16\xec\x6e\x78\x6f\x0c\x70\xcf\x1c\x38\xe3\x1c\x72\x38\xe5",
		spot[api.F2]{
			X: api.F2{
				{0xd48056c8c121bdb8, 0x0bac0326a805bbef, 0xb4510b647ae3d177, 0xc6e47ad4fa403b02, 0x260805272dc51051, 0x024aa2b2f08f0a91},
				{0xe5ac7d055d042b7e, 0x334cf11213945d57, 0xb5da61bbdc7f5049, 0x596bd0d09920b61a, 0x7dacd3a088274f65, 0x13e02b6052719f60},
			},
			Y: api.F2{
				{0xe193548608b82801, 0x923ac9cc3baca289, 0x6d429a695160d12c, 0xadfd9baa8cbdd3a7, 0x8cc9cdc6da2e351a, 0x0ce5d527727d6e11},
				{0xaaa9075ff05f79be, 0x3f370d275cec1da1, 0x267492ab572e99ab, 0xcb3e287e85a763af, 0x32acd2b02bc28b99, 0x0606c4a02ea734cc},
			},
		},
	},
}

// first is a curve's law; nil, if there is no such curve.
func first(curve int) *law[api.Num] {
	if curve < api.Secp || curve > api.Bls {
		return nil
	}
	r := firsts[curve-api.Secp]
	f, e := field.New(r.kind)
	if e != api.OK {
		return nil
	}
	return &law[api.Num]{row: r, f: single{f}, one: api.Num{1}, size: f.Size()}
}

// second is the law of a curve's second one; nil, if there is none.
func second(curve int) *law[api.F2] {
	t, e := tower.New(curve)
	if e != api.OK {
		return nil
	}
	r := seconds[curve-api.Bn]
	f, e := field.New(r.kind)
	if e != api.OK {
		return nil
	}
	return &law[api.F2]{row: r, f: double{t, f}, one: api.F2{{1}}, size: 2 * f.Size()}
}
