package pre

import "quarry/api"

// never is a price that no gas pays.
const never = 1<<64 - 1

// flat is the same of each input.
func flat(gas uint64) price {
	return func(int, []byte) uint64 { return gas }
}

// byWord grows with each word that is begun.
func byWord(base, each uint64) price {
	return func(_ int, input []byte) uint64 { return base + each*((uint64(len(input))+wordSize-1)/wordSize) }
}

// byPair grows with each pair of points that is whole.
func byPair(base, each uint64) price {
	return func(_ int, input []byte) uint64 { return base + each*(uint64(len(input))/pairSize) }
}

// byRound is how many rounds are asked for.
func byRound(_ int, input []byte) uint64 {
	if len(input) != mixSize {
		return 0
	}
	return uint64(rounds(input))
}

// falling is the second price from Istanbul on, the first one ahead of it.
func falling(first, second price) price {
	return func(at int, input []byte) uint64 {
		if at < api.Istanbul {
			return first(at, input)
		}
		return second(at, input)
	}
}
