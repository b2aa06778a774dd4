package code

// ops is how many operations bytes can tell apart.
const ops = 0x100

// The operations that more is to be known of than what the table says, and the first ones of those with numbers.
const (
	difficulty = 0x44
	jumpdest   = 0x5b
	push0      = 0x5f
	dup1       = 0x80
	swap1      = 0x90
	log0       = 0xa0
	create     = 0xf0
)

// form is an operation's name, without the number at its end, and how many words it takes from the stack and lays there.
type form struct {
	name        string
	takes, lays int
}

// lone stands for the number at the end of a name that has none.
const lone = -1

// look is what the chapter's table says of an operation that is there at some fork, and the number at the end of its name.
func look(op int) (f form, number int) {
	switch {
	case op < 0x30:
		return reckoning(op), lone
	case op < 0x50:
		return telling(op), lone
	case op < push0:
		return keeping(op), lone
	case op < dup1:
		return form{"PUSH", 0, 1}, op - push0
	case op < swap1:
		number = op - dup1 + 1
		return form{"DUP", number, number + 1}, number
	case op < log0:
		number = op - swap1 + 1
		return form{"SWAP", number + 1, number + 1}, number
	case op < create:
		number = op - log0
		return form{"LOG", number + 2, 0}, number
	}
	return sending(op), lone
}

// reckoning is the form of an operation from 0x00 to 0x20.
func reckoning(op int) form {
	return [...]form{
		0x00: {"STOP", 0, 0},
		0x01: {"ADD", 2, 1},
		0x02: {"MUL", 2, 1},
		0x03: {"SUB", 2, 1},
		0x04: {"DIV", 2, 1},
		0x05: {"SDIV", 2, 1},
		0x06: {"MOD", 2, 1},
		0x07: {"SMOD", 2, 1},
		0x08: {"ADDMOD", 3, 1},
		0x09: {"MULMOD", 3, 1},
		0x0a: {"EXP", 2, 1},
		0x0b: {"SIGNEXTEND", 2, 1},
		0x10: {"LT", 2, 1},
		0x11: {"GT", 2, 1},
		0x12: {"SLT", 2, 1},
		0x13: {"SGT", 2, 1},
		0x14: {"EQ", 2, 1},
		0x15: {"ISZERO", 1, 1},
		0x16: {"AND", 2, 1},
		0x17: {"OR", 2, 1},
		0x18: {"XOR", 2, 1},
		0x19: {"NOT", 1, 1},
		0x1a: {"BYTE", 2, 1},
		0x1b: {"SHL", 2, 1},
		0x1c: {"SHR", 2, 1},
		0x1d: {"SAR", 2, 1},
		0x20: {"KECCAK256", 2, 1},
	}[op]
}

// telling is the form of an operation from 0x30 to 0x4a.
func telling(op int) form {
	return [...]form{
		0x00: {"ADDRESS", 0, 1},
		0x01: {"BALANCE", 1, 1},
		0x02: {"ORIGIN", 0, 1},
		0x03: {"CALLER", 0, 1},
		0x04: {"CALLVALUE", 0, 1},
		0x05: {"CALLDATALOAD", 1, 1},
		0x06: {"CALLDATASIZE", 0, 1},
		0x07: {"CALLDATACOPY", 3, 0},
		0x08: {"CODESIZE", 0, 1},
		0x09: {"CODECOPY", 3, 0},
		0x0a: {"GASPRICE", 0, 1},
		0x0b: {"EXTCODESIZE", 1, 1},
		0x0c: {"EXTCODECOPY", 4, 0},
		0x0d: {"RETURNDATASIZE", 0, 1},
		0x0e: {"RETURNDATACOPY", 3, 0},
		0x0f: {"EXTCODEHASH", 1, 1},
		0x10: {"BLOCKHASH", 1, 1},
		0x11: {"COINBASE", 0, 1},
		0x12: {"TIMESTAMP", 0, 1},
		0x13: {"NUMBER", 0, 1},
		0x14: {"DIFFICULTY", 0, 1},
		0x15: {"GASLIMIT", 0, 1},
		0x16: {"CHAINID", 0, 1},
		0x17: {"SELFBALANCE", 0, 1},
		0x18: {"BASEFEE", 0, 1},
		0x19: {"BLOBHASH", 1, 1},
		0x1a: {"BLOBBASEFEE", 0, 1},
	}[op-0x30]
}

// keeping is the form of an operation from 0x50 to 0x5e.
func keeping(op int) form {
	return [...]form{
		0x0: {"POP", 1, 0},
		0x1: {"MLOAD", 1, 1},
		0x2: {"MSTORE", 2, 0},
		0x3: {"MSTORE8", 2, 0},
		0x4: {"SLOAD", 1, 1},
		0x5: {"SSTORE", 2, 0},
		0x6: {"JUMP", 1, 0},
		0x7: {"JUMPI", 2, 0},
		0x8: {"PC", 0, 1},
		0x9: {"MSIZE", 0, 1},
		0xa: {"GAS", 0, 1},
		0xb: {"JUMPDEST", 0, 0},
		0xc: {"TLOAD", 1, 1},
		0xd: {"TSTORE", 2, 0},
		0xe: {"MCOPY", 3, 0},
	}[op-0x50]
}

// sending is the form of an operation from 0xf0 to 0xff.
func sending(op int) form {
	return [...]form{
		0x0: {"CREATE", 3, 1},
		0x1: {"CALL", 7, 1},
		0x2: {"CALLCODE", 7, 1},
		0x3: {"RETURN", 2, 0},
		0x4: {"DELEGATECALL", 6, 1},
		0x5: {"CREATE2", 4, 1},
		0xa: {"STATICCALL", 6, 1},
		0xd: {"REVERT", 2, 0},
		0xf: {"SELFDESTRUCT", 1, 0},
	}[op-create]
}
