/-
  NARROWER THAN 'FOR EVERY INPUT', by the rows' own cells (each row's printed sentence says how): ForkAt: laid · ForkRules: laid · ForkOps: laid · ForkNames: laid · ForkRises: laid.
  DERIVED. THE GIVEN ROWS OF THIS SEAT. 5 by the template 'for every input the law returns true; each argument reads behind the call as it read before'; 0 by the template 'total and deterministic' (their statements: YtijoafmbmplgcaaDoorTotals.lean).
  GIVEN WITH THE SEED: the statements are not yours to turn. If you find one false, say at which input.
  Laid BY PROGRAM, IN A SANDBOX (cutbox-rows.mjs): the forced cells as the released guide's own fill.sh prints them over the translation cd49a2768b0013e6… (all of the seat's roots in one cut). By AI agents, Wed Nov 11 2026. No macro, syntax, notation, axiom, sorry.
-/
import Derived.Test.YtijoafmbmplgcaaDoorChecked
import GoSem.PinnedTables
import GoSem.Claim
import GoSem.ClaimJoined
import GoSem.ClaimMapViews
import Derived.JoinedTies
import Derived.KernelRfl
namespace Go.Proofs.YtijoafmbmplgcaaDoor
/- THE CELL 'sum', in the pinned program and in every row, IS THE sha256 OF THE DUMP (.gsa) THAT YtijoafmbmplgcaaDoorProg.lean LOADS. Nothing in Lean hashes anything: it is a label: what it is worth is what the hold of that sum in a sandbox is worth. -/
noncomputable def Tryd.pinned : Pinned := { name := "ytijoafmbmplgcaadoor", sum := "cd49a2768b0013e6bd56544bcff0c41182d74d3e23774e3076c356fccd3300d4", checked := Tryd.checked }
namespace Rows
def none {H : Type} : Left H := { results := [], args := [] }

/- WHAT THE LISTED PACKAGE-LEVEL VARIABLES READ AS WHEN THE CALL BEGINS. Each datum BY PROGRAM (the guide's laid-datum.mjs) off the statement by which the dump's own 'gosem.cut.vars' lays the variable. In a bare row this is a premise. The card (YtijoafmbmplgcaaDoorCards.lean) ties it to the program's text. -/
def laid_quarry_fork_names {H : Type} : DataW H := .agg [.lit (.string [70, 114, 111, 110, 116, 105, 101, 114]), .lit (.string [72, 111, 109, 101, 115, 116, 101, 97, 100]), .lit (.string [84, 97, 110, 103, 101, 114, 105, 110, 101]), .lit (.string [83, 112, 117, 114, 105, 111, 117, 115]), .lit (.string [66, 121, 122, 97, 110, 116, 105, 117, 109]), .lit (.string [67, 111, 110, 115, 116, 97, 110, 116, 105, 110, 111, 112, 108, 101]), .lit (.string [80, 101, 116, 101, 114, 115, 98, 117, 114, 103]), .lit (.string [73, 115, 116, 97, 110, 98, 117, 108]), .lit (.string [77, 117, 105, 114]), .lit (.string [66, 101, 114, 108, 105, 110]), .lit (.string [76, 111, 110, 100, 111, 110]), .lit (.string [65, 114, 114, 111, 119]), .lit (.string [71, 114, 97, 121]), .lit (.string [80, 97, 114, 105, 115]), .lit (.string [83, 104, 97, 110, 103, 104, 97, 105]), .lit (.string [67, 97, 110, 99, 117, 110])]
def laid_unicode_utf8_acceptRanges {H : Type} : DataW H := .agg [.agg [.lit (.int .u8 128), .lit (.int .u8 191)], .agg [.lit (.int .u8 160), .lit (.int .u8 191)], .agg [.lit (.int .u8 128), .lit (.int .u8 159)], .agg [.lit (.int .u8 144), .lit (.int .u8 191)], .agg [.lit (.int .u8 128), .lit (.int .u8 143)], .agg [.lit (.int .u8 0), .lit (.int .u8 0)], .agg [.lit (.int .u8 0), .lit (.int .u8 0)], .agg [.lit (.int .u8 0), .lit (.int .u8 0)], .agg [.lit (.int .u8 0), .lit (.int .u8 0)], .agg [.lit (.int .u8 0), .lit (.int .u8 0)], .agg [.lit (.int .u8 0), .lit (.int .u8 0)], .agg [.lit (.int .u8 0), .lit (.int .u8 0)], .agg [.lit (.int .u8 0), .lit (.int .u8 0)], .agg [.lit (.int .u8 0), .lit (.int .u8 0)], .agg [.lit (.int .u8 0), .lit (.int .u8 0)], .agg [.lit (.int .u8 0), .lit (.int .u8 0)]]
/-- One of Go's own tables, pinned by name: the form's constant. -/
def laid_unicode_utf8_first : DataW Unit := Go.Pinned.utf8First

/-- 'quarrylaw13.ForkAt': WHATEVER THE INPUT: true; the input reads as it did. -/
def forkAtSpec : ChangeSpec := { name := "forkAt", fn := fun _ => fun
  | [d1, d2, d3] => { results := [.lit (.bool true)], args := [d1, d2, d3] }
  | _ => none }
def forkAtRow : OpenClaim := { program := "ytijoafmbmplgcaadoor", sum := "cd49a2768b0013e6bd56544bcff0c41182d74d3e23774e3076c356fccd3300d4", func := "quarry/quarrylaw13.ForkAt", spec := "forkAt", named := ["quarry/fork.names"], plainKeys := false, apart := false, laid := [("quarry/fork.names", laid_quarry_fork_names)] }
def ForkAtSaid : Prop := forkAtRow.holds Tryd.pinned (OpenSpec.ofChange forkAtSpec)

/-- ITS FALSE NEIGHBOUR: 'it returns false'. Refute it at one input. -/
def forkAtWrong : ChangeSpec := { name := "forkAt", fn := fun _ => fun
  | [d1, d2, d3] => { results := [.lit (.bool false)], args := [d1, d2, d3] }
  | _ => none }
def ForkAtWrongFalsely : Prop := forkAtRow.holds Tryd.pinned (OpenSpec.ofChange forkAtWrong)

/-- 'quarrylaw13.ForkRules': WHATEVER THE INPUT: true; the input reads as it did. -/
def forkRulesSpec : ChangeSpec := { name := "forkRules", fn := fun _ => fun
  | [d] => { results := [.lit (.bool true)], args := [d] }
  | _ => none }
def forkRulesRow : OpenClaim := { program := "ytijoafmbmplgcaadoor", sum := "cd49a2768b0013e6bd56544bcff0c41182d74d3e23774e3076c356fccd3300d4", func := "quarry/quarrylaw13.ForkRules", spec := "forkRules", named := ["quarry/fork.names"], plainKeys := false, apart := false, laid := [("quarry/fork.names", laid_quarry_fork_names)] }
def ForkRulesSaid : Prop := forkRulesRow.holds Tryd.pinned (OpenSpec.ofChange forkRulesSpec)

/-- ITS FALSE NEIGHBOUR: 'it returns false'. Refute it at one input. -/
def forkRulesWrong : ChangeSpec := { name := "forkRules", fn := fun _ => fun
  | [d] => { results := [.lit (.bool false)], args := [d] }
  | _ => none }
def ForkRulesWrongFalsely : Prop := forkRulesRow.holds Tryd.pinned (OpenSpec.ofChange forkRulesWrong)

/-- 'quarrylaw13.ForkOps': WHATEVER THE INPUT: true; the input reads as it did. -/
def forkOpsSpec : ChangeSpec := { name := "forkOps", fn := fun _ => fun
  | [d1, d2, d3] => { results := [.lit (.bool true)], args := [d1, d2, d3] }
  | _ => none }
def forkOpsRow : OpenClaim := { program := "ytijoafmbmplgcaadoor", sum := "cd49a2768b0013e6bd56544bcff0c41182d74d3e23774e3076c356fccd3300d4", func := "quarry/quarrylaw13.ForkOps", spec := "forkOps", named := ["quarry/fork.names"], plainKeys := false, apart := false, laid := [("quarry/fork.names", laid_quarry_fork_names)] }
def ForkOpsSaid : Prop := forkOpsRow.holds Tryd.pinned (OpenSpec.ofChange forkOpsSpec)

/-- ITS FALSE NEIGHBOUR: 'it returns false'. Refute it at one input. -/
def forkOpsWrong : ChangeSpec := { name := "forkOps", fn := fun _ => fun
  | [d1, d2, d3] => { results := [.lit (.bool false)], args := [d1, d2, d3] }
  | _ => none }
def ForkOpsWrongFalsely : Prop := forkOpsRow.holds Tryd.pinned (OpenSpec.ofChange forkOpsWrong)

/-- 'quarrylaw13.ForkNames': WHATEVER THE INPUT: true; the input reads as it did. -/
def forkNamesSpec : ChangeSpec := { name := "forkNames", fn := fun _ => fun
  | [d1, d2, d3] => { results := [.lit (.bool true)], args := [d1, d2, d3] }
  | _ => none }
def forkNamesRow : OpenClaim := { program := "ytijoafmbmplgcaadoor", sum := "cd49a2768b0013e6bd56544bcff0c41182d74d3e23774e3076c356fccd3300d4", func := "quarry/quarrylaw13.ForkNames", spec := "forkNames", named := ["quarry/fork.names", "unicode/utf8.first", "unicode/utf8.acceptRanges"], plainKeys := false, apart := false, laid := [("unicode/utf8.acceptRanges", laid_unicode_utf8_acceptRanges), ("quarry/fork.names", laid_quarry_fork_names), ("unicode/utf8.first", laid_unicode_utf8_first)] }
def ForkNamesSaid : Prop := forkNamesRow.holds Tryd.pinned (OpenSpec.ofChange forkNamesSpec)

/-- ITS FALSE NEIGHBOUR: 'it returns false'. Refute it at one input. -/
def forkNamesWrong : ChangeSpec := { name := "forkNames", fn := fun _ => fun
  | [d1, d2, d3] => { results := [.lit (.bool false)], args := [d1, d2, d3] }
  | _ => none }
def ForkNamesWrongFalsely : Prop := forkNamesRow.holds Tryd.pinned (OpenSpec.ofChange forkNamesWrong)

/-- 'quarrylaw13.ForkRises': WHATEVER THE INPUT: true; the input reads as it did. -/
def forkRisesSpec : ChangeSpec := { name := "forkRises", fn := fun _ => fun
  | [d] => { results := [.lit (.bool true)], args := [d] }
  | _ => none }
def forkRisesRow : OpenClaim := { program := "ytijoafmbmplgcaadoor", sum := "cd49a2768b0013e6bd56544bcff0c41182d74d3e23774e3076c356fccd3300d4", func := "quarry/quarrylaw13.ForkRises", spec := "forkRises", named := ["quarry/fork.names"], plainKeys := false, apart := false, laid := [("quarry/fork.names", laid_quarry_fork_names)] }
def ForkRisesSaid : Prop := forkRisesRow.holds Tryd.pinned (OpenSpec.ofChange forkRisesSpec)

/-- ITS FALSE NEIGHBOUR: 'it returns false'. Refute it at one input. -/
def forkRisesWrong : ChangeSpec := { name := "forkRises", fn := fun _ => fun
  | [d] => { results := [.lit (.bool false)], args := [d] }
  | _ => none }
def ForkRisesWrongFalsely : Prop := forkRisesRow.holds Tryd.pinned (OpenSpec.ofChange forkRisesWrong)

/- THE SECOND FORM. 'bulk': how many values and letters a reading holds, each counted each time it is reached (what is shared counts as often as it is met; a slice's spare places count too). A statement '..UptoSaid' is the law's where the arguments, and the package variables that the reading takes, are together of bulk at most 1048576: NARROWER than '..Said'. Prove '..Said' where nothing that the law and all that it calls make is longer than what came in: it says more and counts as full. Else prove '..UptoSaid'. A law counts once. -/
mutual
def uptoBulk {H : Type} : DataW H → Nat
  | .lit (.string bytes) => bytes.length + 1
  | .lit _ => 1
  | .nil => 1
  | .ptr d => uptoBulk d + 1
  | .slice elems spare => uptoBulkAll elems + uptoBulkAll spare + 1
  | .agg parts => uptoBulkAll parts + 1
  | .iface _ d => uptoBulk d + 1
  | .map entries => uptoBulkEntries entries + 1
  | .held _ => 1
def uptoBulkAll {H : Type} : List (DataW H) → Nat
  | [] => 0
  | d :: r => uptoBulk d + uptoBulkAll r
def uptoBulkEntries {H : Type} : List (Lit × DataW H) → Nat
  | [] => 0
  | x :: r => uptoBulkEntry x + uptoBulkEntries r
def uptoBulkEntry {H : Type} : Lit × DataW H → Nat
  | (.string bytes, d) => bytes.length + uptoBulk d + 1
  | (_, d) => uptoBulk d + 1
 end
def uptoSmall : (H : Type) → List (DataW H) → Bool := fun _ ds => decide (uptoBulkAll ds ≤ 1048576)
def OpenSpec.upto (s : _root_.Go.ChangeSpec) : _root_.Go.OpenSpec := { _root_.Go.OpenSpec.ofChange s with cond := some uptoSmall }

/-- 'quarrylaw13.ForkAt', WHERE WHAT IT READS IS OF BULK AT MOST 1048576: true; the input reads as it did. -/
def forkAtUptoRow : OpenClaim := { program := "ytijoafmbmplgcaadoor", sum := "cd49a2768b0013e6bd56544bcff0c41182d74d3e23774e3076c356fccd3300d4", func := "quarry/quarrylaw13.ForkAt", spec := "forkAt", named := ["quarry/fork.names"], plainKeys := false, apart := false, laid := [("quarry/fork.names", laid_quarry_fork_names)], narrowed := true }
def ForkAtUptoSaid : Prop := forkAtUptoRow.holds Tryd.pinned (OpenSpec.upto forkAtSpec)

/-- 'quarrylaw13.ForkRules', WHERE WHAT IT READS IS OF BULK AT MOST 1048576: true; the input reads as it did. -/
def forkRulesUptoRow : OpenClaim := { program := "ytijoafmbmplgcaadoor", sum := "cd49a2768b0013e6bd56544bcff0c41182d74d3e23774e3076c356fccd3300d4", func := "quarry/quarrylaw13.ForkRules", spec := "forkRules", named := ["quarry/fork.names"], plainKeys := false, apart := false, laid := [("quarry/fork.names", laid_quarry_fork_names)], narrowed := true }
def ForkRulesUptoSaid : Prop := forkRulesUptoRow.holds Tryd.pinned (OpenSpec.upto forkRulesSpec)

/-- 'quarrylaw13.ForkOps', WHERE WHAT IT READS IS OF BULK AT MOST 1048576: true; the input reads as it did. -/
def forkOpsUptoRow : OpenClaim := { program := "ytijoafmbmplgcaadoor", sum := "cd49a2768b0013e6bd56544bcff0c41182d74d3e23774e3076c356fccd3300d4", func := "quarry/quarrylaw13.ForkOps", spec := "forkOps", named := ["quarry/fork.names"], plainKeys := false, apart := false, laid := [("quarry/fork.names", laid_quarry_fork_names)], narrowed := true }
def ForkOpsUptoSaid : Prop := forkOpsUptoRow.holds Tryd.pinned (OpenSpec.upto forkOpsSpec)

/-- 'quarrylaw13.ForkNames', WHERE WHAT IT READS IS OF BULK AT MOST 1048576: true; the input reads as it did. -/
def forkNamesUptoRow : OpenClaim := { program := "ytijoafmbmplgcaadoor", sum := "cd49a2768b0013e6bd56544bcff0c41182d74d3e23774e3076c356fccd3300d4", func := "quarry/quarrylaw13.ForkNames", spec := "forkNames", named := ["quarry/fork.names", "unicode/utf8.first", "unicode/utf8.acceptRanges"], plainKeys := false, apart := false, laid := [("unicode/utf8.acceptRanges", laid_unicode_utf8_acceptRanges), ("quarry/fork.names", laid_quarry_fork_names), ("unicode/utf8.first", laid_unicode_utf8_first)], narrowed := true }
def ForkNamesUptoSaid : Prop := forkNamesUptoRow.holds Tryd.pinned (OpenSpec.upto forkNamesSpec)

/-- 'quarrylaw13.ForkRises', WHERE WHAT IT READS IS OF BULK AT MOST 1048576: true; the input reads as it did. -/
def forkRisesUptoRow : OpenClaim := { program := "ytijoafmbmplgcaadoor", sum := "cd49a2768b0013e6bd56544bcff0c41182d74d3e23774e3076c356fccd3300d4", func := "quarry/quarrylaw13.ForkRises", spec := "forkRises", named := ["quarry/fork.names"], plainKeys := false, apart := false, laid := [("quarry/fork.names", laid_quarry_fork_names)], narrowed := true }
def ForkRisesUptoSaid : Prop := forkRisesUptoRow.holds Tryd.pinned (OpenSpec.upto forkRisesSpec)

end Rows
end Go.Proofs.YtijoafmbmplgcaaDoor
