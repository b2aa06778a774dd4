/-
  NARROWER THAN 'FOR EVERY INPUT', by the rows' own cells (each row's printed sentence says how): RlpOwn: loops.
  DERIVED. THE GIVEN ROWS OF THIS SEAT. 3 by the template 'for every input the law returns true; each argument reads behind the call as it read before'; 0 by the template 'total and deterministic' (their statements: YtgjiealcjaojaaaTotals.lean).
  GIVEN WITH THE SEED: the statements are not yours to turn. If you find one false, say at which input.
  Laid BY PROGRAM, IN A SANDBOX (cutbox-rows.mjs): the forced cells as the released guide's own fill.sh prints them over the translation 8b59c8f099449ade… (all of the seat's roots in one cut). By AI agents, Wed Nov 11 2026. No macro, syntax, notation, axiom, sorry.
-/
import Derived.Test.YtgjiealcjaojaaaChecked
import GoSem.Claim
import GoSem.ClaimJoined
import GoSem.ClaimMapViews
import Derived.JoinedTies
import Derived.KernelRfl
namespace Go.Proofs.Ytgjiealcjaojaaa
/- THE CELL 'sum', in the pinned program and in every row, IS THE sha256 OF THE DUMP (.gsa) THAT YtgjiealcjaojaaaProg.lean LOADS. Nothing in Lean hashes anything: it is a label: what it is worth is what the hold of that sum in a sandbox is worth. -/
noncomputable def Try.pinned : Pinned := { name := "ytgjiealcjaojaaa", sum := "8b59c8f099449adee98cb591d6a0016481a1ca8868a760c246342a009fa12805", checked := Try.checked }
namespace Rows
def none {H : Type} : Left H := { results := [], args := [] }

/-- 'quarrylaw02.NatOwn': WHATEVER THE INPUT: true; the input reads as it did. -/
def natOwnSpec : ChangeSpec := { name := "natOwn", fn := fun _ => fun
  | [d] => { results := [.lit (.bool true)], args := [d] }
  | _ => none }
def natOwnRow : OpenClaim := { program := "ytgjiealcjaojaaa", sum := "8b59c8f099449adee98cb591d6a0016481a1ca8868a760c246342a009fa12805", func := "quarry/quarrylaw02.NatOwn", spec := "natOwn", inPlace := ["internal/bytealg.Compare", "math/bits.Add64", "math/bits.Sub64"], unfollowed := true, recurses := true, named := ["math/bits.divideError", "math/bits.overflowError"], apart := false }
def NatOwnSaid : Prop := natOwnRow.holds Try.pinned (OpenSpec.ofChange natOwnSpec)

/-- ITS FALSE NEIGHBOUR: 'it returns false'. Refute it at one input. -/
def natOwnWrong : ChangeSpec := { name := "natOwn", fn := fun _ => fun
  | [d] => { results := [.lit (.bool false)], args := [d] }
  | _ => none }
def NatOwnWrongFalsely : Prop := natOwnRow.holds Try.pinned (OpenSpec.ofChange natOwnWrong)

/-- 'quarrylaw04.HexaOwn': WHATEVER THE INPUT: true; the input reads as it did. -/
def hexaOwnSpec : ChangeSpec := { name := "hexaOwn", fn := fun _ => fun
  | [d1, d2] => { results := [.lit (.bool true)], args := [d1, d2] }
  | _ => none }
def hexaOwnRow : OpenClaim := { program := "ytgjiealcjaojaaa", sum := "8b59c8f099449adee98cb591d6a0016481a1ca8868a760c246342a009fa12805", func := "quarry/quarrylaw04.HexaOwn", spec := "hexaOwn", inPlace := ["internal/abi.NoEscape", "internal/bytealg.MakeNoZero"], unfollowed := true, recurses := true, apart := false }
def HexaOwnSaid : Prop := hexaOwnRow.holds Try.pinned (OpenSpec.ofChange hexaOwnSpec)

/-- ITS FALSE NEIGHBOUR: 'it returns false'. Refute it at one input. -/
def hexaOwnWrong : ChangeSpec := { name := "hexaOwn", fn := fun _ => fun
  | [d1, d2] => { results := [.lit (.bool false)], args := [d1, d2] }
  | _ => none }
def HexaOwnWrongFalsely : Prop := hexaOwnRow.holds Try.pinned (OpenSpec.ofChange hexaOwnWrong)

/-- 'quarrylaw05.RlpOwn': WHATEVER THE INPUT: true; the input reads as it did. -/
def rlpOwnSpec : ChangeSpec := { name := "rlpOwn", fn := fun _ => fun
  | [d1, d2] => { results := [.lit (.bool true)], args := [d1, d2] }
  | _ => none }
def rlpOwnRow : OpenClaim := { program := "ytgjiealcjaojaaa", sum := "8b59c8f099449adee98cb591d6a0016481a1ca8868a760c246342a009fa12805", func := "quarry/quarrylaw05.RlpOwn", spec := "rlpOwn", recurses := true, loops := true, apart := false }
def RlpOwnSaid : Prop := rlpOwnRow.holds Try.pinned (OpenSpec.ofChange rlpOwnSpec)

/-- ITS FALSE NEIGHBOUR: 'it returns false'. Refute it at one input. -/
def rlpOwnWrong : ChangeSpec := { name := "rlpOwn", fn := fun _ => fun
  | [d1, d2] => { results := [.lit (.bool false)], args := [d1, d2] }
  | _ => none }
def RlpOwnWrongFalsely : Prop := rlpOwnRow.holds Try.pinned (OpenSpec.ofChange rlpOwnWrong)

/- THE SECOND FORM. 'bulk': how many values and letters a reading holds, each counted each time it is reached (what is shared counts as often as it is met; a slice's spare places count too). A statement '..UptoSaid' is the law's where the arguments, and the package variables that the reading takes, are together of bulk at most 1048576: NARROWER than '..Said'. Prove '..Said' where nothing that the law and all that it calls make is longer than what came in: it says more and counts as full. Else prove '..UptoSaid'. A law counts once. -/
mutual
def uptoBulk {H : Type} : DataW H → Nat
  | .lit (.string bytes) => bytes.length + 1
  | .lit _ => 1
  | .nil => 1
  | .ptr d => uptoBulk d + 1
  | .slice elems spare => uptoBulkAll elems + uptoBulkAll spare + 1
  | .agg parts => uptoBulkAll parts + 1
  | .iface _ d => uptoBulk d + 1
  | .map entries => uptoBulkEntries entries + 1
  | .held _ => 1
def uptoBulkAll {H : Type} : List (DataW H) → Nat
  | [] => 0
  | d :: r => uptoBulk d + uptoBulkAll r
def uptoBulkEntries {H : Type} : List (Lit × DataW H) → Nat
  | [] => 0
  | x :: r => uptoBulkEntry x + uptoBulkEntries r
def uptoBulkEntry {H : Type} : Lit × DataW H → Nat
  | (.string bytes, d) => bytes.length + uptoBulk d + 1
  | (_, d) => uptoBulk d + 1
 end
def uptoSmall : (H : Type) → List (DataW H) → Bool := fun _ ds => decide (uptoBulkAll ds ≤ 1048576)
def OpenSpec.upto (s : _root_.Go.ChangeSpec) : _root_.Go.OpenSpec := { _root_.Go.OpenSpec.ofChange s with cond := some uptoSmall }

/-- 'quarrylaw02.NatOwn', WHERE WHAT IT READS IS OF BULK AT MOST 1048576: true; the input reads as it did. -/
def natOwnUptoRow : OpenClaim := { program := "ytgjiealcjaojaaa", sum := "8b59c8f099449adee98cb591d6a0016481a1ca8868a760c246342a009fa12805", func := "quarry/quarrylaw02.NatOwn", spec := "natOwn", inPlace := ["internal/bytealg.Compare", "math/bits.Add64", "math/bits.Sub64"], unfollowed := true, recurses := true, named := ["math/bits.divideError", "math/bits.overflowError"], apart := false, narrowed := true }
def NatOwnUptoSaid : Prop := natOwnUptoRow.holds Try.pinned (OpenSpec.upto natOwnSpec)

/-- 'quarrylaw04.HexaOwn', WHERE WHAT IT READS IS OF BULK AT MOST 1048576: true; the input reads as it did. -/
def hexaOwnUptoRow : OpenClaim := { program := "ytgjiealcjaojaaa", sum := "8b59c8f099449adee98cb591d6a0016481a1ca8868a760c246342a009fa12805", func := "quarry/quarrylaw04.HexaOwn", spec := "hexaOwn", inPlace := ["internal/abi.NoEscape", "internal/bytealg.MakeNoZero"], unfollowed := true, recurses := true, apart := false, narrowed := true }
def HexaOwnUptoSaid : Prop := hexaOwnUptoRow.holds Try.pinned (OpenSpec.upto hexaOwnSpec)

/-- 'quarrylaw05.RlpOwn', WHERE WHAT IT READS IS OF BULK AT MOST 1048576: true; the input reads as it did. -/
def rlpOwnUptoRow : OpenClaim := { program := "ytgjiealcjaojaaa", sum := "8b59c8f099449adee98cb591d6a0016481a1ca8868a760c246342a009fa12805", func := "quarry/quarrylaw05.RlpOwn", spec := "rlpOwn", recurses := true, loops := true, apart := false, narrowed := true }
def RlpOwnUptoSaid : Prop := rlpOwnUptoRow.holds Try.pinned (OpenSpec.upto rlpOwnSpec)

end Rows
end Go.Proofs.Ytgjiealcjaojaaa
