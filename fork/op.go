package fork

import "quarry/api"

// Op: has the machine this operation at that fork?
func Op(fork, op int) bool { return isFork(fork) && firstWith(op) <= fork }

// firstWith is the first fork that has the operation: one behind the last, if none has it.
func firstWith(op int) int {
	switch {
	case between(op, 0x00, 0x0b), between(op, 0x10, 0x1a), op == 0x20, between(op, 0x30, 0x3c), between(op, 0x40, 0x45),
		between(op, 0x50, 0x5b), between(op, 0x60, 0xa4), between(op, 0xf0, 0xf3), op == 0xff:
		return api.Frontier
	case op == 0xf4:
		return api.Homestead
	case op == 0x3d, op == 0x3e, op == 0xfa, op == 0xfd:
		return api.Byzantium
	case between(op, 0x1b, 0x1d), op == 0x3f, op == 0xf5:
		return api.Constantinople
	case op == 0x46, op == 0x47:
		return api.Istanbul
	case op == 0x48:
		return api.London
	case op == 0x5f:
		return api.Shanghai
	case op == 0x49, op == 0x4a, between(op, 0x5c, 0x5e):
		return api.Cancun
	}
	return forks
}

// between: is n from least to most?
func between(n, least, most int) bool { return least <= n && n <= most }

// Native is the number of the contract of the machine's own at this address, 0 if there is none.
func Native(fork int, a api.Address) int {
	n := a[len(a)-1]
	if !isFork(fork) || a != (api.Address{len(a) - 1: n}) || uint64(n) > natives(fork) {
		return 0
	}
	return int(n)
}

// natives is how many contracts of the machine's own there are.
func natives(fork int) uint64 {
	return told(fork, 4, since{api.Byzantium, 8}, since{api.Istanbul, 9}, since{api.Cancun, 10})
}
