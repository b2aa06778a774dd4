/- The table of the forks' names, as the rows list it: where it lies, and a world that bears it. -/
import Derived.Test.YtijoafmbmplgcaaDoorRows
import Derived.Test.YtijoafmbmplgcaaDoorFoDrs
import Derived.ProofKit
import Derived.LaidMore
import Derived.OpenShut
import Derived.Stop.Joined
import Derived.Deep.Strs
import Derived.Lay
import Derived.MakeChecks
import Derived.Test.YtijoafmbmplgcaaDoorOpenB
namespace Go.Proofs.YtijoafmbmplgcaaDoor
open Go.ChangeShapes Go.WideShapes Go.ChangeAt Go.RowKit

theorem laid_in {P : Program} {w : World} {n : String} {d : DataW Unit} : ∀ (l : List (String × DataW Unit)) (ps : List MemPlace), DataW.LaidVars P w l ps → (n, d) ∈ l →
    ∃ g t cs fuel p, P.globalNamed n = some g ∧ (P.globals[g]?).map (·.type) = some t ∧ w.var? P n = some cs ∧ DataW.trod (fun _ => ()) P w 0 (fun _ => true) false fuel t cs.toList = some (d, p)
  | [], _, _, h => by cases h
  | x :: r, ps, hl, h => by
    obtain ⟨x1, x2⟩ := x
    obtain ⟨g, t, cs, fuel, p, q, h1, h2, h3, h4, h5, _⟩ := hl
    rcases List.mem_cons.1 h with h | h
    · injection h with e1 e2
      subst e1 e2
      exact ⟨g, t, cs, fuel, p, h1, h2, h3, h4⟩
    · exact laid_in r q h5 h
theorem gNames : Tryd.prog.globalNamed (Rows.forkAtRow.named.headD Rows.forkAtRow.func) = some 0 := by kernel_rfl
theorem tNames : (Tryd.prog.globals[0]?).map (·.type) = some 70 := by kernel_rfl
theorem cellsStr : Tryd.prog.cellsOf 9 = 1 := by kernel_rfl
theorem dNames : Rows.laid_quarry_fork_names (H := Unit) = .agg (forkNames.map fun s => .lit (.string s.data.toList)) := by kernel_rfl

set_option maxRecDepth 100000 in
theorem names_of {W : World} {laid : List (String × DataW Unit)} (hm : (Rows.forkAtRow.named.headD Rows.forkAtRow.func, Rows.laid_quarry_fork_names) ∈ laid) (h : laidMet Tryd.prog laid W) : NamesAt W := by
  obtain ⟨ps, hl, -, -⟩ := h
  obtain ⟨g, t, cs, fuel, p, h1, h2, h3, h4⟩ := laid_in _ _ hl hm
  obtain rfl := Option.some.inj (gNames.symm.trans h1)
  obtain rfl := Option.some.inj (tNames.symm.trans h2)
  obtain ⟨xs, m, rfl, hx, hlen, hn, hel⟩ := DataW.trod_array Tryd.underlying70 h4
  rw [cellsStr] at hel
  have hvc := fun j => World.var?_cell h1 h3 j
  have hx1 : (forkNames.map fun s => (DataW.lit (.string s.data.toList) : DataW Unit)) = xs.map (·.1) := by
    have e := congrArg Prod.fst hx
    rw [dNames] at e
    injection e
  have hst : StrsAt W 0 forkNames := by
    intro i s hi
    have hil : i < 16 := by
      have := (List.getElem?_eq_some_iff.1 hi).1
      simpa [forkNames] using this
    obtain ⟨y, hy⟩ : ∃ y, xs[i]? = some y := ⟨_, List.getElem?_eq_getElem (by rw [hn]; exact hil)⟩
    have he := hel i hil
    rw [hy, Nat.mul_one] at he
    have hy1 : y.1 = .lit (.string s.data.toList) := by
      have e := congrArg (fun l : List (DataW Unit) => l[i]?) hx1
      simp only [List.getElem?_map, hi, hy, Option.map_some] at e
      injection e with e
      exact e.symm
    obtain ⟨s2, e1, e2, -⟩ := DataW.trod_string Tryd.underlying9 he
    have hs : s2 = s := by
      rw [e2] at hy1
      injection hy1 with hy1
      injection hy1 with hy1
      exact ByteArray.ext (Array.toList_inj.1 hy1)
    subst hs
    have e3 := congrArg (fun l : List Value => l[0]?) e1
    simp only [List.getElem?_cons_zero] at e3
    rw [List.getElem?_take_of_lt (by omega), List.getElem?_drop, Nat.add_zero] at e3
    rw [hvc]
    simpa using e3
  refine ⟨?_, hst⟩
  have h0 := hst 0 _ rfl
  exact World.block_lt_of_cell? _ _ h0

set_option maxRecDepth 100000 in
/-- A world in which the table lies, for the rows that list it alone. -/
theorem one_met (os : Os) (args : Array Value) : laidMetH Tryd.prog Rows.forkAtRow.laid ((World.laidAll Tryd.prog os Rows.forkAtRow.laid).forCall (fun _ _ => 0) ⟨#[], args, []⟩).memory := by
  rw [MakeChecks.laidMetH_plain _ _ _ (by kernel_rfl)]
  exact laidMet_laidAll _ (by kernel_rfl) (by kernel_rfl)
theorem one_names {W : World} (h : laidMetH Tryd.prog Rows.forkAtRow.laid W) : NamesAt W := by
  rw [MakeChecks.laidMetH_plain _ _ _ (by kernel_rfl)] at h
  exact names_of (by simp [Rows.forkAtRow]) h
set_option maxRecDepth 100000 in
/-- A world in which all three tables lie. -/
theorem all_met (os : Os) (args : Array Value) : laidMetH Tryd.prog Rows.forkNamesRow.laid ((World.laidAll Tryd.prog os Rows.forkNamesRow.laid).forCall (fun _ _ => 0) ⟨#[], args, []⟩).memory := by
  rw [MakeChecks.laidMetH_plain _ _ _ (by kernel_rfl)]
  exact laidMet_laidAll _ (by kernel_rfl) (by kernel_rfl)
theorem all_names {W : World} (h : laidMetH Tryd.prog Rows.forkNamesRow.laid W) : NamesAt W := by
  rw [MakeChecks.laidMetH_plain _ _ _ (by kernel_rfl)] at h
  exact names_of (by simp [Rows.forkAtRow, Rows.forkNamesRow]) h
end Go.Proofs.YtijoafmbmplgcaaDoor
