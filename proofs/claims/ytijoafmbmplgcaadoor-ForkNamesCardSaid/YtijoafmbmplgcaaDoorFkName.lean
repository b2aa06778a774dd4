/- Package quarryref13: names, Name. -/
import Derived.Test.YtijoafmbmplgcaaDoorProg
import Derived.Test.YtijoafmbmplgcaaDoorWordMath
import Derived.Deep.QuietTactic
import Derived.BigQuiet
import Derived.OwnWalk
namespace Go.Proofs.YtijoafmbmplgcaaDoor
open Go.RowKit

/-- The forks' names, in bytes. -/
def forkNames : List ByteArray := [⟨#[70, 114, 111, 110, 116, 105, 101, 114]⟩, ⟨#[72, 111, 109, 101, 115, 116, 101, 97, 100]⟩, ⟨#[84, 97, 110, 103, 101, 114, 105, 110, 101]⟩, ⟨#[83, 112, 117, 114, 105, 111, 117, 115]⟩,
  ⟨#[66, 121, 122, 97, 110, 116, 105, 117, 109]⟩, ⟨#[67, 111, 110, 115, 116, 97, 110, 116, 105, 110, 111, 112, 108, 101]⟩, ⟨#[80, 101, 116, 101, 114, 115, 98, 117, 114, 103]⟩, ⟨#[73, 115, 116, 97, 110, 98, 117, 108]⟩,
  ⟨#[77, 117, 105, 114]⟩, ⟨#[66, 101, 114, 108, 105, 110]⟩, ⟨#[76, 111, 110, 100, 111, 110]⟩, ⟨#[65, 114, 114, 111, 119]⟩, ⟨#[71, 114, 97, 121]⟩, ⟨#[80, 97, 114, 105, 115]⟩, ⟨#[83, 104, 97, 110, 103, 104, 97, 105]⟩, ⟨#[67, 97, 110, 99, 117, 110]⟩]
/-- A fork's name; empty of no fork. -/
def nameZ (f : Int) : ByteArray := if 0 ≤ f ∧ f ≤ 15 then forkNames.getD f.toNat .empty else .empty
/-- A list of texts lies in a block. -/
def StrsAt (w : World) (g : Nat) (l : List ByteArray) : Prop := ∀ i s, l[i]? = some s → w.cell? ⟨g, i, none⟩ = some (.string s)

set_option maxRecDepth 100000 in
set_option maxHeartbeats 6400000 in
theorem rnames_c (w : World) : Calls Tryd.prog 33 #[] w fun e w' => ∃ g, e = .returned (.slice (some ⟨g, 0, none⟩) 16 16) ∧ w.heap.size ≤ g ∧ g < w'.heap.size ∧ StrsAt w' g forkNames ∧ Below w.heap.size w w' := by
  go_enter Tryd.func33, Tryd.ntmps33
  go_wp2_with fail
  go_ret
  refine ⟨_, rfl, Nat.le_refl _, by simp, ?_, (Below.refl _ _).alloc (Nat.le_refl _) _⟩
  intro i s hi
  rw [cell_of_row _ _ i _ 9 (0, 0) (heap_alloc_new w _)]
  have e : ∀ j : Nat, ((forkNames.map Value.string).toArray)[j]? = (forkNames[j]?).map Value.string := fun j => by rw [List.getElem?_toArray, List.getElem?_map]
  have h := e i
  rw [hi] at h
  exact h

set_option maxRecDepth 100000 in
set_option maxHeartbeats 6400000 in
theorem rname_c (f : Int) (hf : -9223372036854775808 ≤ f ∧ f ≤ 9223372036854775807) (w : World) : Calls Tryd.prog 17 #[.int .i64 f] w (RetV (.string (nameZ f)) w) := by
  by_cases h : 0 ≤ f ∧ f ≤ 15
  · obtain ⟨h0, h1⟩ := h
    obtain ⟨k, rfl⟩ : ∃ k : Nat, f = k := ⟨f.toNat, by omega⟩
    have hk : k < 16 := by omega
    obtain ⟨s, hs⟩ : ∃ s, forkNames[k]? = some s := ⟨_, List.getElem?_eq_getElem (by simpa [forkNames] using hk)⟩
    have e : nameZ (k : Int) = s := by
      unfold nameZ
      rw [if_pos ⟨h0, h1⟩, Int.toNat_natCast, List.getD_eq_getElem?_getD, hs]; rfl
    rw [e]
    have HS := Lib.hid hs
    clear hs e hf
    go_enter Tryd.func17, Tryd.ntmps17
    go_wp2_with fail
    (with_reducible refine (rnames_c _).mono ?_)
    rintro e w1 ⟨g, rfl, hg, _, hst, hb⟩
    have c0 := hst k s HS.out
    go_wp2_with fail
    go_ret
    exact ⟨rfl, hb⟩
  · have e : nameZ f = .empty := by unfold nameZ; rw [if_neg h]
    rw [e]
    rcases (show f < 0 ∨ 15 < f by omega) with h | h
    all_goals
      go_enter Tryd.func17, Tryd.ntmps17
      go_wp2_with fail
      go_ret
      exact ⟨rfl, Below.refl _ _⟩
end Go.Proofs.YtijoafmbmplgcaaDoor
