package code_test

import (
	"math"
	"strconv"
	"strings"
	"testing"

	"quarry/api"
	"quarry/code"
	"quarry/fork"
)

// The calls have the signatures that the chapter lists.
var (
	_ func(fork, op int) string                       = code.Name
	_ func(fork int, name string) (int, bool)         = code.Named
	_ func(fork, op int) (pops, pushes int, ok bool)  = code.Pops
	_ func(code []byte) []int                         = code.Jumps
	_ func(code []byte, at api.Word) bool             = code.Jump
	_ func(fork int, code []byte) []string            = code.List
	_ func(fork int, text string) ([]byte, api.Fault) = code.Read
)

// forks is how many there are.
const forks = 16

// noForks are numbers that no fork has.
func noForks() []int {
	return []int{-1, 16, 17, 256, 1 << 32, 1<<32 + 5, -1 << 32, math.MinInt, math.MinInt + 5, math.MaxInt}
}

// noOps are numbers that no operation has at any fork, some with the lowest byte of one that is there.
func noOps() []int {
	return []int{-1, -256, -255, 256, 257, 256 + 0x60, 1 << 32, 1<<32 + 1, -1 << 32, math.MinInt, math.MinInt + 1, math.MaxInt}
}

// row is a line of the chapter's table.
type row struct {
	name        string
	takes, lays int
}

// lines is the chapter's table, but for what stands there as one line for many.
const lines = `
00 STOP 0 0 | 01 ADD 2 1 | 02 MUL 2 1 | 03 SUB 2 1 | 04 DIV 2 1 | 05 SDIV 2 1 | 06 MOD 2 1 | 07 SMOD 2 1
08 ADDMOD 3 1 | 09 MULMOD 3 1 | 0a EXP 2 1 | 0b SIGNEXTEND 2 1
10 LT 2 1 | 11 GT 2 1 | 12 SLT 2 1 | 13 SGT 2 1 | 14 EQ 2 1 | 15 ISZERO 1 1 | 16 AND 2 1 | 17 OR 2 1
18 XOR 2 1 | 19 NOT 1 1 | 1a BYTE 2 1 | 1b SHL 2 1 | 1c SHR 2 1 | 1d SAR 2 1
20 KECCAK256 2 1
30 ADDRESS 0 1 | 31 BALANCE 1 1 | 32 ORIGIN 0 1 | 33 CALLER 0 1 | 34 CALLVALUE 0 1 | 35 CALLDATALOAD 1 1
36 CALLDATASIZE 0 1 | 37 CALLDATACOPY 3 0 | 38 CODESIZE 0 1 | 39 CODECOPY 3 0 | 3a GASPRICE 0 1
3b EXTCODESIZE 1 1 | 3c EXTCODECOPY 4 0 | 3d RETURNDATASIZE 0 1 | 3e RETURNDATACOPY 3 0 | 3f EXTCODEHASH 1 1
40 BLOCKHASH 1 1 | 41 COINBASE 0 1 | 42 TIMESTAMP 0 1 | 43 NUMBER 0 1 | 44 DIFFICULTY 0 1 | 45 GASLIMIT 0 1
46 CHAINID 0 1 | 47 SELFBALANCE 0 1 | 48 BASEFEE 0 1 | 49 BLOBHASH 1 1 | 4a BLOBBASEFEE 0 1
50 POP 1 0 | 51 MLOAD 1 1 | 52 MSTORE 2 0 | 53 MSTORE8 2 0 | 54 SLOAD 1 1 | 55 SSTORE 2 0 | 56 JUMP 1 0
57 JUMPI 2 0 | 58 PC 0 1 | 59 MSIZE 0 1 | 5a GAS 0 1 | 5b JUMPDEST 0 0 | 5c TLOAD 1 1 | 5d TSTORE 2 0
5e MCOPY 3 0 | 5f PUSH0 0 1
f0 CREATE 3 1 | f1 CALL 7 1 | f2 CALLCODE 7 1 | f3 RETURN 2 0 | f4 DELEGATECALL 6 1 | f5 CREATE2 4 1
fa STATICCALL 6 1 | fd REVERT 2 0 | ff SELFDESTRUCT 1 0
`

// table is the chapter's table at a fork.
func table(t *testing.T, at int) map[int]row {
	t.Helper()
	all := map[int]row{}
	for _, line := range strings.FieldsFunc(lines, func(r rune) bool { return r == '|' || r == '\n' }) {
		p := strings.Fields(line)
		op, err := strconv.ParseInt(p[0], 16, 64)
		if err != nil || len(p) != 4 {
			t.Fatalf("the table's line %q", line)
		}
		all[int(op)] = row{p[1], int(p[2][0] - '0'), int(p[3][0] - '0')}
	}
	for n := 1; n <= 32; n++ {
		all[0x5f+n] = row{"PUSH" + strconv.Itoa(n), 0, 1}
	}
	for n := 1; n <= 16; n++ {
		all[0x7f+n] = row{"DUP" + strconv.Itoa(n), n, n + 1}
		all[0x8f+n] = row{"SWAP" + strconv.Itoa(n), n + 1, n + 1}
	}
	for n := range 5 {
		all[0xa0+n] = row{"LOG" + strconv.Itoa(n), n + 2, 0}
	}
	if at >= api.Paris {
		all[0x44] = row{"PREVRANDAO", 0, 1}
	}
	for op := range all {
		if !fork.Op(at, op) {
			delete(all, op)
		}
	}
	return all
}

// mixer tells numbers without any order, the same ones in each run.
type mixer uint64

func (m *mixer) next() uint64 {
	*m += 0x9e3779b97f4a7c15
	z := uint64(*m)
	z = (z ^ z>>30) * 0xbf58476d1ce4e5b9
	z = (z ^ z>>27) * 0x94d049bb133111eb
	return z ^ z>>31
}

// below is a number below n.
func (m *mixer) below(n int) int { return int(m.next() % uint64(n)) }

// code is one of up to so many bytes: now of any bytes, now of such as jumps are told by.
func (m *mixer) code(most int) []byte {
	few := []byte{0x5b, 0x5b, 0x5b, 0x60, 0x61, 0x62, 0x63, 0x68, 0x7f, 0x5f, 0x80, 0x00, 0x0c}
	odd := m.below(3)
	c := make([]byte, m.below(most+1))
	for i := range c {
		if m.below(2) < odd {
			c[i] = few[m.below(len(few))]
		} else {
			c[i] = byte(m.next())
		}
	}
	return c
}

// short are all codes of up to four bytes of those that tell operations apart: jumps, PUSHes, one that is there from Shanghai on, and one that never is.
func short() [][]byte {
	all := [][]byte{nil}
	for from := 0; len(all[from]) < 4; from++ {
		for _, op := range []byte{0x5b, 0x60, 0x61, 0x62, 0x7f, 0x5f, 0x80, 0x0c} {
			all = append(all, append(append([]byte{}, all[from]...), op))
		}
	}
	return all
}
