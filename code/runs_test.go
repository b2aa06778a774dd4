package code_test

import (
	"bytes"
	"slices"
	"testing"

	"quarry/api"
	"quarry/code"
)

// TestRunsName: the chapter's runs of Name and Named.
func TestRunsName(t *testing.T) {
	t.Parallel()
	for _, x := range []struct {
		at, op int
		want   string
	}{{0, 0xf4, ""}, {1, 0xf4, "DELEGATECALL"}, {13, 0x44, "PREVRANDAO"}, {12, 0x44, "DIFFICULTY"}, {15, 0x8f, "DUP16"}} {
		if got := code.Name(x.at, x.op); got != x.want {
			t.Errorf("Name(%d, %#x): %q", x.at, x.op, got)
		}
	}
	for _, x := range []struct {
		at   int
		name string
		want int
		ok   bool
	}{{15, "PUSH0", 0x5f, true}, {13, "PUSH0", 0, false}, {0, "add", 0, false}} {
		if got, ok := code.Named(x.at, x.name); got != x.want || ok != x.ok {
			t.Errorf("Named(%d, %q): %#x %v", x.at, x.name, got, ok)
		}
	}
}

// TestRunsPops: the chapter's runs of Pops.
func TestRunsPops(t *testing.T) {
	t.Parallel()
	for _, x := range []struct {
		op, takes, lays int
		ok              bool
	}{{0x82, 3, 4, true}, {0x91, 3, 3, true}, {0xa3, 5, 0, true}, {0x0c, 0, 0, false}} {
		if takes, lays, ok := code.Pops(0, x.op); takes != x.takes || lays != x.lays || ok != x.ok {
			t.Errorf("Pops(0, %#x): %d %d %v", x.op, takes, lays, ok)
		}
	}
}

// TestRunsJumps: the chapter's runs of Jumps.
func TestRunsJumps(t *testing.T) {
	t.Parallel()
	for _, x := range []struct {
		code string
		want []int
	}{{"\x5b\x60\x5b\x5b", []int{0, 3}}, {"\x62\x5b", nil}, {"", nil}} {
		if got := code.Jumps([]byte(x.code)); !slices.Equal(got, x.want) {
			t.Errorf("Jumps of %x: %v", x.code, got)
		}
	}
}

// TestRunsText: the chapter's runs of List and Read.
func TestRunsText(t *testing.T) {
	t.Parallel()
	want := []string{"0 PUSH1 0x05", "2 ADD", "3 INVALID 0x0c", "4 PUSH2 0xff"}
	if got := code.List(0, []byte{0x60, 0x05, 0x01, 0x0c, 0x61, 0xff}); !slices.Equal(got, want) {
		t.Errorf("List: %q", got)
	}
	if got, fault := code.Read(0, "0 PUSH1 0x05\n\n9 ADD"); !bytes.Equal(got, []byte{0x60, 0x05, 0x01}) || fault != (api.Fault{}) {
		t.Errorf("Read: %x %v", got, fault)
	}
	for _, text := range []string{"x ADD", "0 FLY", "0 PUSH2 0x01\n2 ADD", "0 INVALID 0x01"} {
		if got, fault := code.Read(0, text); len(got) != 0 || fault != (api.Fault{Why: api.ErrForm, At: 0}) {
			t.Errorf("Read of %q: %x %v", text, got, fault)
		}
	}
}

// TestExamples: the chapter's examples: an empty text is no code; 0xfe is INVALID at all forks.
func TestExamples(t *testing.T) {
	t.Parallel()
	for at := range forks {
		if got, fault := code.Read(at, ""); len(got) != 0 || fault != (api.Fault{}) {
			t.Errorf("Read at %d of an empty text: %x %v", at, got, fault)
		}
		if got := code.List(at, []byte{0xfe}); !slices.Equal(got, []string{"0 INVALID 0xfe"}) {
			t.Errorf("List at %d of 0xfe: %q", at, got)
		}
	}
}
