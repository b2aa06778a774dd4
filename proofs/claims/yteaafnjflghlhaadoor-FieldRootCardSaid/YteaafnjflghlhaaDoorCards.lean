/-
  DERIVED. GIVEN WITH THE SEED: THE CARDS: each row of YteaafnjflghlhaaDoorRows.lean that lists a variable, with what it lists TIED to the program's text (the seventh form; the later family's looks); each row that meets fmt, with fmt's text TOLD by the authors' own Lean function (tested against real Go, not proved from fmt's source: count such statements apart). THE CARD IS WHAT COUNTS. Prove the row's statement (the work); the ties are given (YteaafnjflghlhaaDoorTie.lean); close each card by the builder's one call (the guide's Derived/Test/ToyasCard.lean, 'card_holds'). Laid BY PROGRAM, IN A SANDBOX (cutbox-door.mjs). By AI agents, Wed Nov 11 2026. No macro, syntax, notation, axiom, sorry.
-/
import Derived.Test.YteaafnjflghlhaaDoorRows
import GoSem.ClaimSeven
namespace Go.Proofs.YteaafnjflghlhaaDoor
namespace Rows

/-- THE TIED CARD OF 'quarrylaw06.FieldInverse'. -/
def fieldInverseCard : Claim7 := { stood := { row := fieldInverseRow, standIns := [], harness := (true, "371ad5e45a44a604165ec5c892db89906dfe1ed7f4e390e6674f4114806280a3"), looks := false }, kinds := [], alts := [], laidByText := true, laidKinds := [.data], laidTests := true, laidLooks := .later }
def FieldInverseCardSaid : Prop := Claim7.holds Tryd.pinned (.plain (OpenSpec.ofChange fieldInverseSpec)) fieldInverseCard

/-- THE TIED CARD OF 'quarrylaw06.FieldRoot'. -/
def fieldRootCard : Claim7 := { stood := { row := fieldRootRow, standIns := [], harness := (true, "371ad5e45a44a604165ec5c892db89906dfe1ed7f4e390e6674f4114806280a3"), looks := false }, kinds := [], alts := [], laidByText := true, laidKinds := [.data, .data], laidTests := true, laidLooks := .later }
def FieldRootCardSaid : Prop := Claim7.holds Tryd.pinned (.plain (OpenSpec.ofChange fieldRootSpec)) fieldRootCard

/-- THE TIED CARD OF 'quarrylaw06.FieldCodes'. -/
def fieldCodesCard : Claim7 := { stood := { row := fieldCodesRow, standIns := [], harness := (true, "371ad5e45a44a604165ec5c892db89906dfe1ed7f4e390e6674f4114806280a3"), looks := false }, kinds := [], alts := [], laidByText := true, laidKinds := [.data], laidTests := true, laidLooks := .later }
def FieldCodesCardSaid : Prop := Claim7.holds Tryd.pinned (.plain (OpenSpec.ofChange fieldCodesSpec)) fieldCodesCard

/-- THE SECOND FORM's CARD OF 'quarrylaw06.FieldInverse'. -/
def fieldInverseUptoCard : Claim7 := { stood := { row := fieldInverseUptoRow, standIns := [], harness := (true, "371ad5e45a44a604165ec5c892db89906dfe1ed7f4e390e6674f4114806280a3"), looks := false }, kinds := [], alts := [], laidByText := true, laidKinds := [.data], laidTests := true, laidLooks := .later }
def FieldInverseUptoCardSaid : Prop := Claim7.holds Tryd.pinned (.plain (OpenSpec.upto fieldInverseSpec)) fieldInverseUptoCard

/-- THE SECOND FORM's CARD OF 'quarrylaw06.FieldRoot'. -/
def fieldRootUptoCard : Claim7 := { stood := { row := fieldRootUptoRow, standIns := [], harness := (true, "371ad5e45a44a604165ec5c892db89906dfe1ed7f4e390e6674f4114806280a3"), looks := false }, kinds := [], alts := [], laidByText := true, laidKinds := [.data, .data], laidTests := true, laidLooks := .later }
def FieldRootUptoCardSaid : Prop := Claim7.holds Tryd.pinned (.plain (OpenSpec.upto fieldRootSpec)) fieldRootUptoCard

/-- THE SECOND FORM's CARD OF 'quarrylaw06.FieldCodes'. -/
def fieldCodesUptoCard : Claim7 := { stood := { row := fieldCodesUptoRow, standIns := [], harness := (true, "371ad5e45a44a604165ec5c892db89906dfe1ed7f4e390e6674f4114806280a3"), looks := false }, kinds := [], alts := [], laidByText := true, laidKinds := [.data], laidTests := true, laidLooks := .later }
def FieldCodesUptoCardSaid : Prop := Claim7.holds Tryd.pinned (.plain (OpenSpec.upto fieldCodesSpec)) fieldCodesUptoCard
end Rows
end Go.Proofs.YteaafnjflghlhaaDoor
