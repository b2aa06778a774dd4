/-
  No cell of these rows narrows 'for every input' (looked for: loops, veiled, ifaces, maps, wideKeys, modest, calm, conditions, laid).
  DERIVED. THE GIVEN ROWS OF THIS SEAT. 4 by the template 'for every input the law returns true; each argument reads behind the call as it read before'; 0 by the template 'total and deterministic' (their statements: YtgmpoefgcimaiaaTotals.lean).
  GIVEN WITH THE SEED: the statements are not yours to turn. If you find one false, say at which input.
  Laid BY PROGRAM, IN A SANDBOX (cutbox-rows.mjs): the forced cells as the released guide's own fill.sh prints them over the translation f92944b44b9bad9a… (all of the seat's roots in one cut). By AI agents, Wed Nov 11 2026. No macro, syntax, notation, axiom, sorry.
-/
import Derived.Test.YtgmpoefgcimaiaaChecked
import GoSem.Claim
import GoSem.ClaimJoined
import GoSem.ClaimMapViews
import Derived.JoinedTies
import Derived.KernelRfl
namespace Go.Proofs.Ytgmpoefgcimaiaa
/- THE CELL 'sum', in the pinned program and in every row, IS THE sha256 OF THE DUMP (.gsa) THAT YtgmpoefgcimaiaaProg.lean LOADS. Nothing in Lean hashes anything: it is a label: what it is worth is what the hold of that sum in a sandbox is worth. -/
noncomputable def Try.pinned : Pinned := { name := "ytgmpoefgcimaiaa", sum := "f92944b44b9bad9aca50d7529acab0872a23cbba6c956c2b7114d1b5d0ff6551", checked := Try.checked }
namespace Rows
def none {H : Type} : Left H := { results := [], args := [] }

/-- 'quarrylaw04.HexaReads': WHATEVER THE INPUT: true; the input reads as it did. -/
def hexaReadsSpec : ChangeSpec := { name := "hexaReads", fn := fun _ => fun
  | [d] => { results := [.lit (.bool true)], args := [d] }
  | _ => none }
def hexaReadsRow : OpenClaim := { program := "ytgmpoefgcimaiaa", sum := "f92944b44b9bad9aca50d7529acab0872a23cbba6c956c2b7114d1b5d0ff6551", func := "quarry/quarrylaw04.HexaReads", spec := "hexaReads", inPlace := ["internal/abi.NoEscape", "internal/bytealg.MakeNoZero"], unfollowed := true, recurses := true, apart := false }
def HexaReadsSaid : Prop := hexaReadsRow.holds Try.pinned (OpenSpec.ofChange hexaReadsSpec)

/-- ITS FALSE NEIGHBOUR: 'it returns false'. Refute it at one input. -/
def hexaReadsWrong : ChangeSpec := { name := "hexaReads", fn := fun _ => fun
  | [d] => { results := [.lit (.bool false)], args := [d] }
  | _ => none }
def HexaReadsWrongFalsely : Prop := hexaReadsRow.holds Try.pinned (OpenSpec.ofChange hexaReadsWrong)

/-- 'quarrylaw04.HexaRunes': WHATEVER THE INPUT: true; the input reads as it did. -/
def hexaRunesSpec : ChangeSpec := { name := "hexaRunes", fn := fun _ => fun
  | [d] => { results := [.lit (.bool true)], args := [d] }
  | _ => none }
def hexaRunesRow : OpenClaim := { program := "ytgmpoefgcimaiaa", sum := "f92944b44b9bad9aca50d7529acab0872a23cbba6c956c2b7114d1b5d0ff6551", func := "quarry/quarrylaw04.HexaRunes", spec := "hexaRunes", inPlace := ["internal/abi.NoEscape", "internal/bytealg.MakeNoZero"], unfollowed := true, recurses := true, apart := false }
def HexaRunesSaid : Prop := hexaRunesRow.holds Try.pinned (OpenSpec.ofChange hexaRunesSpec)

/-- ITS FALSE NEIGHBOUR: 'it returns false'. Refute it at one input. -/
def hexaRunesWrong : ChangeSpec := { name := "hexaRunes", fn := fun _ => fun
  | [d] => { results := [.lit (.bool false)], args := [d] }
  | _ => none }
def HexaRunesWrongFalsely : Prop := hexaRunesRow.holds Try.pinned (OpenSpec.ofChange hexaRunesWrong)

/-- 'quarrylaw04.HexaFields': WHATEVER THE INPUT: true; the input reads as it did. -/
def hexaFieldsSpec : ChangeSpec := { name := "hexaFields", fn := fun _ => fun
  | [d] => { results := [.lit (.bool true)], args := [d] }
  | _ => none }
def hexaFieldsRow : OpenClaim := { program := "ytgmpoefgcimaiaa", sum := "f92944b44b9bad9aca50d7529acab0872a23cbba6c956c2b7114d1b5d0ff6551", func := "quarry/quarrylaw04.HexaFields", spec := "hexaFields", inPlace := ["internal/abi.NoEscape", "internal/bytealg.MakeNoZero"], unfollowed := true, recurses := true, apart := false }
def HexaFieldsSaid : Prop := hexaFieldsRow.holds Try.pinned (OpenSpec.ofChange hexaFieldsSpec)

/-- ITS FALSE NEIGHBOUR: 'it returns false'. Refute it at one input. -/
def hexaFieldsWrong : ChangeSpec := { name := "hexaFields", fn := fun _ => fun
  | [d] => { results := [.lit (.bool false)], args := [d] }
  | _ => none }
def HexaFieldsWrongFalsely : Prop := hexaFieldsRow.holds Try.pinned (OpenSpec.ofChange hexaFieldsWrong)

/-- 'quarrylaw04.HexaOwn': WHATEVER THE INPUT: true; the input reads as it did. -/
def hexaOwnSpec : ChangeSpec := { name := "hexaOwn", fn := fun _ => fun
  | [d1, d2] => { results := [.lit (.bool true)], args := [d1, d2] }
  | _ => none }
def hexaOwnRow : OpenClaim := { program := "ytgmpoefgcimaiaa", sum := "f92944b44b9bad9aca50d7529acab0872a23cbba6c956c2b7114d1b5d0ff6551", func := "quarry/quarrylaw04.HexaOwn", spec := "hexaOwn", inPlace := ["internal/abi.NoEscape", "internal/bytealg.MakeNoZero"], unfollowed := true, recurses := true, apart := false }
def HexaOwnSaid : Prop := hexaOwnRow.holds Try.pinned (OpenSpec.ofChange hexaOwnSpec)

/-- ITS FALSE NEIGHBOUR: 'it returns false'. Refute it at one input. -/
def hexaOwnWrong : ChangeSpec := { name := "hexaOwn", fn := fun _ => fun
  | [d1, d2] => { results := [.lit (.bool false)], args := [d1, d2] }
  | _ => none }
def HexaOwnWrongFalsely : Prop := hexaOwnRow.holds Try.pinned (OpenSpec.ofChange hexaOwnWrong)

/- THE SECOND FORM. 'bulk': how many values and letters a reading holds, each counted each time it is reached (what is shared counts as often as it is met; a slice's spare places count too). A statement '..UptoSaid' is the law's where the arguments, and the package variables that the reading takes, are together of bulk at most 1048576: NARROWER than '..Said'. Prove '..Said' where nothing that the law and all that it calls make is longer than what came in: it says more and counts as full. Else prove '..UptoSaid'. A law counts once. -/
mutual
def uptoBulk {H : Type} : DataW H → Nat
  | .lit (.string bytes) => bytes.length + 1
  | .lit _ => 1
  | .nil => 1
  | .ptr d => uptoBulk d + 1
  | .slice elems spare => uptoBulkAll elems + uptoBulkAll spare + 1
  | .agg parts => uptoBulkAll parts + 1
  | .iface _ d => uptoBulk d + 1
  | .map entries => uptoBulkEntries entries + 1
  | .held _ => 1
def uptoBulkAll {H : Type} : List (DataW H) → Nat
  | [] => 0
  | d :: r => uptoBulk d + uptoBulkAll r
def uptoBulkEntries {H : Type} : List (Lit × DataW H) → Nat
  | [] => 0
  | x :: r => uptoBulkEntry x + uptoBulkEntries r
def uptoBulkEntry {H : Type} : Lit × DataW H → Nat
  | (.string bytes, d) => bytes.length + uptoBulk d + 1
  | (_, d) => uptoBulk d + 1
 end
def uptoSmall : (H : Type) → List (DataW H) → Bool := fun _ ds => decide (uptoBulkAll ds ≤ 1048576)
def OpenSpec.upto (s : _root_.Go.ChangeSpec) : _root_.Go.OpenSpec := { _root_.Go.OpenSpec.ofChange s with cond := some uptoSmall }

/-- 'quarrylaw04.HexaReads', WHERE WHAT IT READS IS OF BULK AT MOST 1048576: true; the input reads as it did. -/
def hexaReadsUptoRow : OpenClaim := { program := "ytgmpoefgcimaiaa", sum := "f92944b44b9bad9aca50d7529acab0872a23cbba6c956c2b7114d1b5d0ff6551", func := "quarry/quarrylaw04.HexaReads", spec := "hexaReads", inPlace := ["internal/abi.NoEscape", "internal/bytealg.MakeNoZero"], unfollowed := true, recurses := true, apart := false, narrowed := true }
def HexaReadsUptoSaid : Prop := hexaReadsUptoRow.holds Try.pinned (OpenSpec.upto hexaReadsSpec)

/-- 'quarrylaw04.HexaRunes', WHERE WHAT IT READS IS OF BULK AT MOST 1048576: true; the input reads as it did. -/
def hexaRunesUptoRow : OpenClaim := { program := "ytgmpoefgcimaiaa", sum := "f92944b44b9bad9aca50d7529acab0872a23cbba6c956c2b7114d1b5d0ff6551", func := "quarry/quarrylaw04.HexaRunes", spec := "hexaRunes", inPlace := ["internal/abi.NoEscape", "internal/bytealg.MakeNoZero"], unfollowed := true, recurses := true, apart := false, narrowed := true }
def HexaRunesUptoSaid : Prop := hexaRunesUptoRow.holds Try.pinned (OpenSpec.upto hexaRunesSpec)

/-- 'quarrylaw04.HexaFields', WHERE WHAT IT READS IS OF BULK AT MOST 1048576: true; the input reads as it did. -/
def hexaFieldsUptoRow : OpenClaim := { program := "ytgmpoefgcimaiaa", sum := "f92944b44b9bad9aca50d7529acab0872a23cbba6c956c2b7114d1b5d0ff6551", func := "quarry/quarrylaw04.HexaFields", spec := "hexaFields", inPlace := ["internal/abi.NoEscape", "internal/bytealg.MakeNoZero"], unfollowed := true, recurses := true, apart := false, narrowed := true }
def HexaFieldsUptoSaid : Prop := hexaFieldsUptoRow.holds Try.pinned (OpenSpec.upto hexaFieldsSpec)

/-- 'quarrylaw04.HexaOwn', WHERE WHAT IT READS IS OF BULK AT MOST 1048576: true; the input reads as it did. -/
def hexaOwnUptoRow : OpenClaim := { program := "ytgmpoefgcimaiaa", sum := "f92944b44b9bad9aca50d7529acab0872a23cbba6c956c2b7114d1b5d0ff6551", func := "quarry/quarrylaw04.HexaOwn", spec := "hexaOwn", inPlace := ["internal/abi.NoEscape", "internal/bytealg.MakeNoZero"], unfollowed := true, recurses := true, apart := false, narrowed := true }
def HexaOwnUptoSaid : Prop := hexaOwnUptoRow.holds Try.pinned (OpenSpec.upto hexaOwnSpec)

end Rows
end Go.Proofs.Ytgmpoefgcimaiaa
