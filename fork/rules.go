package fork

import "quarry/api"

// A since is a number that holds from a fork on.
type since struct {
	fork int
	n    uint64
}

// told is a fork's number: the first, or the last of the later ones that has come; these stand in the order of their forks.
func told(fork int, first uint64, later ...since) uint64 {
	n := first
	for _, s := range later {
		if fork >= s.fork {
			n = s.n
		}
	}
	return n
}

// Of are a fork's numbers; ErrArg, if there is no such fork.
func Of(fork int) (api.Rules, api.Errno) {
	if !isFork(fork) {
		return api.Rules{}, api.ErrArg
	}
	return api.Rules{
		Fork:        fork,
		TxGas:       21000,
		TxCreate:    told(fork, 0, since{api.Homestead, 32000}),
		TxZero:      4,
		TxByte:      told(fork, 68, since{api.Istanbul, 16}),
		TxAddress:   told(fork, 0, since{api.Berlin, 2400}),
		TxKey:       told(fork, 0, since{api.Berlin, 1900}),
		InitWord:    told(fork, 0, since{api.Shanghai, 2}),
		MaxInit:     int(told(fork, 0, since{api.Shanghai, 49152})),
		MaxCode:     int(told(fork, 0, since{api.Spurious, 24576})),
		Balance:     told(fork, 20, since{api.Tangerine, 400}, since{api.Istanbul, 700}, since{api.Berlin, 0}),
		ExtSize:     told(fork, 20, since{api.Tangerine, 700}, since{api.Berlin, 0}),
		ExtHash:     told(fork, 0, since{api.Constantinople, 400}, since{api.Istanbul, 700}, since{api.Berlin, 0}),
		Load:        told(fork, 50, since{api.Tangerine, 200}, since{api.Istanbul, 800}, since{api.Berlin, 0}),
		Call:        told(fork, 40, since{api.Tangerine, 700}, since{api.Berlin, 0}),
		Cold:        told(fork, 0, since{api.Berlin, 2600}),
		ColdSlot:    told(fork, 0, since{api.Berlin, 2100}),
		Warm:        told(fork, 0, since{api.Berlin, 100}),
		Destroy:     told(fork, 0, since{api.Tangerine, 5000}),
		DestroyNew:  told(fork, 0, since{api.Tangerine, 25000}),
		DestroyBack: told(fork, 24000, since{api.London, 0}),
		ExpByte:     told(fork, 10, since{api.Spurious, 50}),
		StoreBack:   told(fork, 15000, since{api.London, 4800}),
		RefundPart:  told(fork, 2, since{api.London, 5}),
		Reward:      reward(fork),
		Bomb:        bomb(fork),
	}, api.OK
}

// reward is what a block gives to who found it.
func reward(fork int) uint64 {
	return told(fork, 5_000_000_000_000_000_000, since{api.Byzantium, 3_000_000_000_000_000_000},
		since{api.Constantinople, 2_000_000_000_000_000_000}, since{api.Paris, 0})
}

// bomb is by how many blocks the growth of the difficulty is put off.
func bomb(fork int) uint64 {
	return told(fork, 0, since{api.Byzantium, 3000000}, since{api.Constantinople, 5000000}, since{api.Muir, 9000000},
		since{api.London, 9700000}, since{api.Arrow, 10700000}, since{api.Gray, 11400000}, since{api.Paris, 0})
}
