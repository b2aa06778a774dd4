/- Package fork: DecodeRuneInString of a text without bytes, and of one that begins below 128; Name. -/
import Derived.Test.YtijoafmbmplgcaaDoorFoBase
import Derived.Test.YtijoafmbmplgcaaDoorFkNameMath
import Derived.Laws.RangeAny
import Derived.Lib.OthersKept
namespace Go.Proofs.YtijoafmbmplgcaaDoor
open Go.RowKit

/-- The table of the names lies where the program's text lays it. -/
def NamesAt (w : World) : Prop := 0 < w.heap.size ∧ StrsAt w 0 forkNames
theorem NamesAt.below {w v : World} (h : NamesAt w) (hb : Below w.heap.size w v) : NamesAt v := ⟨Nat.lt_of_lt_of_le h.1 hb.size, h.2.below hb h.1⟩
theorem NamesAt.mono {w v : World} {B : Nat} (h : NamesAt w) (hB : 0 < B) (hb : Below B w v) : NamesAt v :=
  ⟨Nat.lt_of_lt_of_le h.1 hb.size, fun i s hi => by
    have e := h.2 i s hi
    unfold World.cell? at e ⊢
    rw [hb.block 0 hB]
    exact e⟩
theorem fstr_some {x : ByteArray} {c : Nat} {r : List Nat} (h : bytesN x = c :: r) : x.toList.isEmpty = false := by
  cases he : x.toList.isEmpty
  · rfl
  · rw [List.isEmpty_iff, ByteArray.toList_eq] at he
    unfold bytesN at h
    rw [he] at h
    simp at h
theorem fstr_none {x : ByteArray} (h : bytesN x = []) : x = ⟨#[]⟩ := by
  unfold bytesN at h
  rw [List.map_eq_nil_iff] at h
  exact ByteArray.ext (Array.toList_inj.1 h)

set_option maxRecDepth 100000 in
theorem drs_no (w : World) : Calls Tryd.prog 40 #[.string ⟨#[]⟩] w fun e w' => e = .returned (.tuple #[.int .i32 65533, .int .i64 0]) ∧ w' = w := by
  have C : Hid (∀ w, Calls Tryd.prog 43 #[.string ⟨#[]⟩] w fun e w' => e = .returned (.tuple #[.int .i32 65533, .int .i64 0]) ∧ w' = w) := fun w => by
    go_enter Tryd.func43, Tryd.ntmps43
    go_wp2_with fail
    exact bodyPost_ret (v := .tuple #[.int .i32 65533, .int .i64 0]) (by simp [results, Tryd.results43, go_sem]) rfl ⟨rfl, rfl⟩
  go_enter Tryd.func40, Tryd.ntmps40
  go_wp2_with fail
  (with_reducible refine (C.out _).mono ?_)
  rintro e w1 ⟨rfl, rfl⟩
  clear C
  go_wp2_with fail
  exact bodyPost_ret (v := .tuple #[.int .i32 65533, .int .i64 0]) (by simp [results, Tryd.results40, go_sem]) rfl ⟨rfl, rfl⟩

set_option maxRecDepth 100000 in
theorem drs_c {t : ByteArray} {c : Nat} {r : List Nat} (h : bytesN t = c :: r) (hc : c < 128) (w : World) : Calls Tryd.prog 40 #[.string t] w fun e w' => e = .returned (.tuple #[.int .i32 (c : Nat), .int .i64 1]) ∧ w' = w := by
  have he := fstr_some h
  have hr : ∀ w, (Instr.index 9 (.string t) (.int .i64 0)).run Tryd.prog w = .ok (.int .u8 (c : Nat)) w := fun w => by
    have hl : 0 < t.size := by rw [← bytesN_len, h]; simp
    rw [run_index_string w 9 t .i64 0 (by kernel_rfl), dif_pos ⟨by omega, by omega⟩]
    congr 3
    have h2 := congrArg (fun l : List Nat => l[0]?) h
    simp only [bytesN, List.getElem?_map, List.getElem?_cons_zero] at h2
    have hl2 : 0 < t.data.toList.length := by rw [Array.length_toList]; exact hl
    rw [List.getElem?_eq_getElem hl2] at h2
    injection h2 with h2
  have v0 : IntKind.i32.wrap (c : Int) = c := IntWalk.i32_in _ (by omega)
  clear h
  go_enter Tryd.func40, Tryd.ntmps40
  go_wp2_with fail
  exact bodyPost_ret (v := .tuple #[.int .i32 (c : Nat), .int .i64 1]) (by simp [results, Tryd.results40, go_sem]) rfl ⟨rfl, rfl⟩

set_option maxRecDepth 100000 in
set_option maxHeartbeats 6400000 in
theorem foname_c (f : Int) (hf : -9223372036854775808 ≤ f ∧ f ≤ 9223372036854775807) (w : World) (hN : NamesAt w) : Calls Tryd.prog 16 #[.int .i64 f] w (RetV (.string (nameZ f)) w) := by
  have CF : Hid (∀ w, Calls Tryd.prog 28 #[.int .i64 f] w fun e w' => e = .returned (.bool (decide (0 ≤ f ∧ f ≤ 15))) ∧ w' = w) := fun w => isFork_c f w
  by_cases h : 0 ≤ f ∧ f ≤ 15
  · rw [decide_eq_true h] at CF
    obtain ⟨h0, h1⟩ := h
    obtain ⟨k, rfl⟩ : ∃ k : Nat, f = k := ⟨f.toNat, by omega⟩
    have hk : k < 16 := by omega
    obtain ⟨s, hs⟩ : ∃ s, forkNames[k]? = some s := ⟨_, List.getElem?_eq_getElem (by simpa [forkNames] using hk)⟩
    have e : nameZ (k : Int) = s := by
      unfold nameZ
      rw [if_pos ⟨h0, h1⟩, Int.toNat_natCast, List.getD_eq_getElem?_getD, hs]; rfl
    rw [e]
    have c0 := hN.2 k s hs
    clear hs e hf hN
    go_enter Tryd.func16, Tryd.ntmps16
    go_wp2_with fail
    (with_reducible refine (CF.out _).mono ?_)
    rintro e w1 ⟨rfl, hw1⟩
    rw [hw1]
    clear CF hw1 w1
    go_wp2_with fail
    go_ret
    exact ⟨rfl, Below.refl _ _⟩
  · rw [decide_eq_false h] at CF
    have e : nameZ f = ⟨#[]⟩ := by unfold nameZ; rw [if_neg h]; rfl
    rw [e]
    clear h hN e
    go_enter Tryd.func16, Tryd.ntmps16
    go_wp2_with fail
    (with_reducible refine (CF.out _).mono ?_)
    rintro e w1 ⟨rfl, hw1⟩
    rw [hw1]
    clear CF hw1 w1
    go_wp2_with fail
    go_ret
    exact ⟨rfl, Below.refl _ _⟩
end Go.Proofs.YtijoafmbmplgcaaDoor
