/- What laws over three words share: the argument as it comes in, in memory, and as it goes back. -/
import Derived.Test.YtgmpoefgcimaiaaRows
import Derived.Test.YtgmpoefgcimaiaaWordMath
import Derived.Test.YtgmpoefgcimaiaaEqArr
import Derived.Test.YtgmpoefgcimaiaaDig
import Derived.Test.YtgmpoefgcimaiaaWide
import Derived.ProofKit
import Derived.OpenShut
import Derived.Deep.Strs
namespace Go.Proofs.Ytgmpoefgcimaiaa
open Go.ChangeShapes Go.WideShapes Go.ChangeAt Go.RowKit Go.Deep

/-- The limbs of three words. -/
def l12 (a b c : Nat) : List Nat := [lim 0 a, lim 1 a, lim 2 a, lim 3 a, lim 0 b, lim 1 b, lim 2 b, lim 3 b, lim 0 c, lim 1 c, lim 2 c, lim 3 c]
abbrev V3 (a b c : Nat) : Value := .agg #[.int .u64 (lim 0 a : Nat), .int .u64 (lim 1 a : Nat), .int .u64 (lim 2 a : Nat), .int .u64 (lim 3 a : Nat), .int .u64 (lim 0 b : Nat), .int .u64 (lim 1 b : Nat), .int .u64 (lim 2 b : Nat), .int .u64 (lim 3 b : Nat), .int .u64 (lim 0 c : Nat), .int .u64 (lim 1 c : Nat), .int .u64 (lim 2 c : Nat), .int .u64 (lim 3 c : Nat)]
section
variable {w : World} {g a b c : Nat} {t : TypeId}
theorem cells3a (h : Row .u64 w g t (l12 a b c)) : w.cell? ⟨g, 0, none⟩ = some (.int .u64 (lim 0 a : Nat)) ∧ w.cell? ⟨g, 1, none⟩ = some (.int .u64 (lim 1 a : Nat)) ∧ w.cell? ⟨g, 2, none⟩ = some (.int .u64 (lim 2 a : Nat)) ∧ w.cell? ⟨g, 3, none⟩ = some (.int .u64 (lim 3 a : Nat)) :=
  ⟨h.cell 0 (by simp [l12]), h.cell 1 (by simp [l12]), h.cell 2 (by simp [l12]), h.cell 3 (by simp [l12])⟩
theorem cells3b (h : Row .u64 w g t (l12 a b c)) : w.cell? ⟨g, 4, none⟩ = some (.int .u64 (lim 0 b : Nat)) ∧ w.cell? ⟨g, 5, none⟩ = some (.int .u64 (lim 1 b : Nat)) ∧ w.cell? ⟨g, 6, none⟩ = some (.int .u64 (lim 2 b : Nat)) ∧ w.cell? ⟨g, 7, none⟩ = some (.int .u64 (lim 3 b : Nat)) :=
  ⟨h.cell 4 (by simp [l12]), h.cell 5 (by simp [l12]), h.cell 6 (by simp [l12]), h.cell 7 (by simp [l12])⟩
theorem cells3c (h : Row .u64 w g t (l12 a b c)) : w.cell? ⟨g, 8, none⟩ = some (.int .u64 (lim 0 c : Nat)) ∧ w.cell? ⟨g, 9, none⟩ = some (.int .u64 (lim 1 c : Nat)) ∧ w.cell? ⟨g, 10, none⟩ = some (.int .u64 (lim 2 c : Nat)) ∧ w.cell? ⟨g, 11, none⟩ = some (.int .u64 (lim 3 c : Nat)) :=
  ⟨h.cell 8 (by simp [l12]), h.cell 9 (by simp [l12]), h.cell 10 (by simp [l12]), h.cell 11 (by simp [l12])⟩
end
theorem RetWide.val {n : Nat} {w w' : World} {e : Ending} (h : RetWide n w e w') : e = .returned (.tuple #[W (n / 115792089237316195423570985008687907853269984665640564039457584007913129639936), W (n % 115792089237316195423570985008687907853269984665640564039457584007913129639936)]) ∧ Below w.heap.size w w' := by
  obtain ⟨h0, h1, h2, h3, l0, l1, l2, l3, rfl, hh, hl, hb⟩ := h
  obtain ⟨rfl, rfl, rfl, rfl⟩ := hh.canon
  obtain ⟨rfl, rfl, rfl, rfl⟩ := hl.canon
  exact ⟨rfl, hb⟩

theorem lawOwn : ownKnob Try.prog.godebug = none := by kernel_rfl
theorem lawCellsW : Try.prog.cellsOf 30 = 4 := by kernel_rfl
abbrev DW (H : Type) (a b c e : Nat) : DataW H := .agg [.lit (.int .u64 a), .lit (.int .u64 b), .lit (.int .u64 c), .lit (.int .u64 e)]

set_option maxRecDepth 100000 in
/-- Four cells that came in as a word. -/
theorem lawCells {H : Type} {enc : TypeId × Value → H} {w : World} {spareB : Nat} {spare : Nat → Bool} {held : Bool} {fuel : Nat} {c0 c1 c2 c3 : Value} {y : DataW H × List MemPlace}
    (hf : DataW.trod enc Try.prog w spareB spare held fuel 30 [c0, c1, c2, c3] = some y) :
    ∃ a b c e : Nat, c0 = .int .u64 a ∧ c1 = .int .u64 b ∧ c2 = .int .u64 c ∧ c3 = .int .u64 e ∧ y = (DW H a b c e, []) ∧ Lim a ∧ Lim b ∧ Lim c ∧ Lim e := by
  obtain ⟨y0, y1, y2, y3, m, rfl, hy0, hy1, hy2, hy3⟩ := trod_array4 Try.underlying30 cells22 hf
  obtain ⟨x0, e0, rfl, w0⟩ := DataW.trod_int Try.underlying28 hy0
  obtain ⟨x1, e1, rfl, w1⟩ := DataW.trod_int Try.underlying28 hy1
  obtain ⟨x2, e2, rfl, w2⟩ := DataW.trod_int Try.underlying28 hy2
  obtain ⟨x3, e3, rfl, w3⟩ := DataW.trod_int Try.underlying28 hy3
  simp at e0 e1 e2 e3
  subst e0 e1 e2 e3
  have n : ∀ x : Int, (Lit.int .u64 x).wf = true → ∃ k : Nat, x = (k : Int) ∧ Lim k := by
    intro x hx
    obtain ⟨h1, h2⟩ := bounds_u64 hx
    exact ⟨x.toNat, by omega, by unfold Lim; omega⟩
  obtain ⟨a, rfl, la⟩ := n x0 w0
  obtain ⟨b, rfl, lb⟩ := n x1 w1
  obtain ⟨c, rfl, lc⟩ := n x2 w2
  obtain ⟨e, rfl, le⟩ := n x3 w3
  exact ⟨a, b, c, e, rfl, rfl, rfl, rfl, rfl, la, lb, lc, le⟩

set_option maxRecDepth 100000 in
theorem lawLim {a : Nat} (h : Lim a) : (Lit.int .u64 (a : Int)).wf = true := by
  unfold Lim at h
  exact WalkArith.wf_u64 (by omega)
end Go.Proofs.Ytgmpoefgcimaiaa
