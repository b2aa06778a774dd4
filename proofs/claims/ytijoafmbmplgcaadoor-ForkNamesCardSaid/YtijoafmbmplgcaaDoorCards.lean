/-
  DERIVED. GIVEN WITH THE SEED: THE CARDS: each row of YtijoafmbmplgcaaDoorRows.lean that lists a variable, with what it lists TIED to the program's text (the seventh form; the later family's looks); each row that meets fmt, with fmt's text TOLD by the authors' own Lean function (tested against real Go, not proved from fmt's source: count such statements apart). THE CARD IS WHAT COUNTS. Prove the row's statement (the work); the ties are given (YtijoafmbmplgcaaDoorTie.lean); close each card by the builder's one call (the guide's Derived/Test/ToyasCard.lean, 'card_holds'). Laid BY PROGRAM, IN A SANDBOX (cutbox-door.mjs). By AI agents, Wed Nov 11 2026. No macro, syntax, notation, axiom, sorry.
-/
import Derived.Test.YtijoafmbmplgcaaDoorRows
import GoSem.ClaimSeven
namespace Go.Proofs.YtijoafmbmplgcaaDoor
namespace Rows

/-- THE TIED CARD OF 'quarrylaw13.ForkAt'. -/
def forkAtCard : Claim7 := { stood := { row := forkAtRow, standIns := [], harness := (true, "ba4687d7d41072b93f5875af7c7a1bf16738822cd51deed3cfd2421ab475e6ae"), looks := false }, kinds := [], alts := [], laidByText := true, laidKinds := [.data], laidTests := true, laidLooks := .later }
def ForkAtCardSaid : Prop := Claim7.holds Tryd.pinned (.plain (OpenSpec.ofChange forkAtSpec)) forkAtCard

/-- THE TIED CARD OF 'quarrylaw13.ForkRules'. -/
def forkRulesCard : Claim7 := { stood := { row := forkRulesRow, standIns := [], harness := (true, "ba4687d7d41072b93f5875af7c7a1bf16738822cd51deed3cfd2421ab475e6ae"), looks := false }, kinds := [], alts := [], laidByText := true, laidKinds := [.data], laidTests := true, laidLooks := .later }
def ForkRulesCardSaid : Prop := Claim7.holds Tryd.pinned (.plain (OpenSpec.ofChange forkRulesSpec)) forkRulesCard

/-- THE TIED CARD OF 'quarrylaw13.ForkOps'. -/
def forkOpsCard : Claim7 := { stood := { row := forkOpsRow, standIns := [], harness := (true, "ba4687d7d41072b93f5875af7c7a1bf16738822cd51deed3cfd2421ab475e6ae"), looks := false }, kinds := [], alts := [], laidByText := true, laidKinds := [.data], laidTests := true, laidLooks := .later }
def ForkOpsCardSaid : Prop := Claim7.holds Tryd.pinned (.plain (OpenSpec.ofChange forkOpsSpec)) forkOpsCard

/-- THE TIED CARD OF 'quarrylaw13.ForkNames'. -/
def forkNamesCard : Claim7 := { stood := { row := forkNamesRow, standIns := [], harness := (true, "ba4687d7d41072b93f5875af7c7a1bf16738822cd51deed3cfd2421ab475e6ae"), looks := false }, kinds := [], alts := [], laidByText := true, laidKinds := [.data, .data, .pinned], laidTests := true, laidLooks := .later }
def ForkNamesCardSaid : Prop := Claim7.holds Tryd.pinned (.plain (OpenSpec.ofChange forkNamesSpec)) forkNamesCard

/-- THE TIED CARD OF 'quarrylaw13.ForkRises'. -/
def forkRisesCard : Claim7 := { stood := { row := forkRisesRow, standIns := [], harness := (true, "ba4687d7d41072b93f5875af7c7a1bf16738822cd51deed3cfd2421ab475e6ae"), looks := false }, kinds := [], alts := [], laidByText := true, laidKinds := [.data], laidTests := true, laidLooks := .later }
def ForkRisesCardSaid : Prop := Claim7.holds Tryd.pinned (.plain (OpenSpec.ofChange forkRisesSpec)) forkRisesCard

/-- THE SECOND FORM's CARD OF 'quarrylaw13.ForkAt'. -/
def forkAtUptoCard : Claim7 := { stood := { row := forkAtUptoRow, standIns := [], harness := (true, "ba4687d7d41072b93f5875af7c7a1bf16738822cd51deed3cfd2421ab475e6ae"), looks := false }, kinds := [], alts := [], laidByText := true, laidKinds := [.data], laidTests := true, laidLooks := .later }
def ForkAtUptoCardSaid : Prop := Claim7.holds Tryd.pinned (.plain (OpenSpec.upto forkAtSpec)) forkAtUptoCard

/-- THE SECOND FORM's CARD OF 'quarrylaw13.ForkRules'. -/
def forkRulesUptoCard : Claim7 := { stood := { row := forkRulesUptoRow, standIns := [], harness := (true, "ba4687d7d41072b93f5875af7c7a1bf16738822cd51deed3cfd2421ab475e6ae"), looks := false }, kinds := [], alts := [], laidByText := true, laidKinds := [.data], laidTests := true, laidLooks := .later }
def ForkRulesUptoCardSaid : Prop := Claim7.holds Tryd.pinned (.plain (OpenSpec.upto forkRulesSpec)) forkRulesUptoCard

/-- THE SECOND FORM's CARD OF 'quarrylaw13.ForkOps'. -/
def forkOpsUptoCard : Claim7 := { stood := { row := forkOpsUptoRow, standIns := [], harness := (true, "ba4687d7d41072b93f5875af7c7a1bf16738822cd51deed3cfd2421ab475e6ae"), looks := false }, kinds := [], alts := [], laidByText := true, laidKinds := [.data], laidTests := true, laidLooks := .later }
def ForkOpsUptoCardSaid : Prop := Claim7.holds Tryd.pinned (.plain (OpenSpec.upto forkOpsSpec)) forkOpsUptoCard

/-- THE SECOND FORM's CARD OF 'quarrylaw13.ForkNames'. -/
def forkNamesUptoCard : Claim7 := { stood := { row := forkNamesUptoRow, standIns := [], harness := (true, "ba4687d7d41072b93f5875af7c7a1bf16738822cd51deed3cfd2421ab475e6ae"), looks := false }, kinds := [], alts := [], laidByText := true, laidKinds := [.data, .data, .pinned], laidTests := true, laidLooks := .later }
def ForkNamesUptoCardSaid : Prop := Claim7.holds Tryd.pinned (.plain (OpenSpec.upto forkNamesSpec)) forkNamesUptoCard

/-- THE SECOND FORM's CARD OF 'quarrylaw13.ForkRises'. -/
def forkRisesUptoCard : Claim7 := { stood := { row := forkRisesUptoRow, standIns := [], harness := (true, "ba4687d7d41072b93f5875af7c7a1bf16738822cd51deed3cfd2421ab475e6ae"), looks := false }, kinds := [], alts := [], laidByText := true, laidKinds := [.data], laidTests := true, laidLooks := .later }
def ForkRisesUptoCardSaid : Prop := Claim7.holds Tryd.pinned (.plain (OpenSpec.upto forkRisesSpec)) forkRisesUptoCard
end Rows
end Go.Proofs.YtijoafmbmplgcaaDoor
