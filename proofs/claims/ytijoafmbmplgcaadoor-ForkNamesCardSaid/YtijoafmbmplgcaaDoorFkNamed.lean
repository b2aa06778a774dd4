/- Package quarryref13: Named. -/
import Derived.Test.YtijoafmbmplgcaaDoorFkLow
namespace Go.Proofs.YtijoafmbmplgcaaDoor
open Go.RowKit

theorem cell_below {w w' : World} {g : Nat} (hb : Below w.heap.size w w') (hg : g < w.heap.size) (j : Nat) : w'.cell? ⟨g, j, none⟩ = w.cell? ⟨g, j, none⟩ := by
  unfold World.cell?
  rw [hb.block g hg]
theorem StrsAt.below {w w' : World} {g : Nat} {l : List ByteArray} (h : StrsAt w g l) (hb : Below w.heap.size w w') (hg : g < w.heap.size) : StrsAt w' g l := fun i s hi => by
  rw [cell_below hb hg]; exact h i s hi
/-- The first name that is this text, whatever the case of its letters. -/
def namedAt (s : ByteArray) : List ByteArray → Nat → Option Nat
  | [], _ => none
  | x :: r, i => if lowS x = lowS s then some i else namedAt s r (i + 1)
def namedZ (s : ByteArray) : Option Nat := namedAt s forkNames 0
def namedV : Option Nat → Value
  | some i => .tuple #[.int .i64 (i : Nat), .bool true]
  | none => .tuple #[.int .i64 0, .bool false]
theorem str_ne {x y : ByteArray} (h : x ≠ y) : (x.toList == y.toList) = false := by
  refine beq_eq_false_iff_ne.2 fun e => h ?_
  rw [ByteArray.toList_eq, ByteArray.toList_eq] at e
  exact ByteArray.ext (Array.toList_inj.1 e)
theorem str_eq {x y : ByteArray} (h : x = y) : (x.toList == y.toList) = true := by rw [h]; exact beq_self_eq_true _
theorem names_small : ∀ s ∈ forkNames, s.size ≤ 20 := by decide

set_option maxRecDepth 100000 in
set_option maxHeartbeats 6400000 in
theorem rnamed_c (s : ByteArray) (hs : s.size ≤ 140737488351232) (w : World) : Calls Tryd.prog 23 #[.string s] w (RetV (namedV (namedZ s)) w) := by
  obtain ⟨q, hq⟩ : ∃ q, q = namedZ s := ⟨_, rfl⟩
  rw [← hq]
  have HQ : Hid (q = namedAt s forkNames 0) := hq
  have HS := Lib.hid hs
  clear hq hs
  go_enter Tryd.func23, Tryd.ntmps23
  go_wp2_with fail
  (with_reducible refine (rnames_c _).mono ?_)
  rintro e w1 ⟨g, rfl, hg, hg1, hst, hb⟩
  have HST := Lib.hid hst
  have HB := Lib.hid hb
  have HG := Lib.hid hg1
  clear hg hg1 hst hb
  go_wp2_with fail
  go_loopw [5] (fun a wr => ∃ (m : Nat), a = .int .i64 (m : Int) ∧ Hid (m ≤ 16) ∧ Hid (q = namedAt s (forkNames.drop m) m) ∧ Hid (StrsAt wr g forkNames) ∧ Hid (g < wr.heap.size) ∧ Hid (Below w.heap.size w wr))
    (fun a _ => 16 - (intOf a).toNat)
  case atStart => exact ⟨0, rfl, Nat.zero_le _, HQ.out, HST.out, HG.out, HB.out⟩
  case round =>
    clear HST HG HB HQ
    obtain ⟨m, rfl, hm, hq, hst, hg, hb⟩ := hrel
    by_cases h0 : m < 16
    · obtain ⟨x, hx⟩ : ∃ x, forkNames[m]? = some x := ⟨_, List.getElem?_eq_getElem (by simpa [forkNames] using h0)⟩
      have cx := hst.out m x hx
      have hxm : x ∈ forkNames := List.mem_of_getElem? hx
      have hxs := names_small x hxm
      have hdrop : forkNames.drop m = x :: forkNames.drop (m + 1) := by
        have hl : m < forkNames.length := by simpa [forkNames] using h0
        rw [List.drop_eq_getElem_cons hl]
        rw [List.getElem?_eq_getElem hl] at hx
        injection hx with hx
        rw [hx]
      have hq2 := hq.out
      rw [hdrop] at hq2
      have hq3 : q = if lowS x = lowS s then some m else namedAt s (forkNames.drop (m + 1)) (m + 1) := hq2
      have HQ3 := Lib.hid hq3
      have C1 := Lib.hid (rlow_c x (by omega) wr)
      clear hx hxm hxs hdrop hq2 hq3 hq
      go_wp2_with fail
      (with_reducible refine C1.out.mono ?_)
      rintro e w2 ⟨rfl, hb2⟩
      have C2 := Lib.hid (rlow_c s HS.out w2)
      have HST2 := Lib.hid (hst.out.below hb2 hg.out)
      have HG2 : Hid (g < w2.heap.size) := Nat.lt_of_lt_of_le hg.out hb2.size
      have HB2 := Lib.hid (hb.out.trans (hb2.mono hb.out.size))
      clear C1 hb2 cx
      go_wp2_with fail
      (with_reducible refine C2.out.mono ?_)
      rintro e w3 ⟨rfl, hb3⟩
      have HST3 := Lib.hid (HST2.out.below hb3 HG2.out)
      have HG3 : Hid (g < w3.heap.size) := Nat.lt_of_lt_of_le HG2.out hb3.size
      have HB3 := Lib.hid (HB2.out.trans (hb3.mono HB2.out.size))
      clear C2 hb3 HST2 HG2 HB2
      by_cases he : lowS x = lowS s
      · have hq := HQ3.out
        rw [if_pos he] at hq
        have HQ := Lib.hid hq
        have hee := str_eq he
        clear hq HQ3 he
        go_wp2_with fail
        exact bodyPost_ret (v := .tuple #[.int .i64 (m : Nat), .bool true]) (by simp [results, Tryd.results23, go_sem]) rfl ⟨by rw [HQ.out]; rfl, HB3.out⟩
      · have hq := HQ3.out
        rw [if_neg he] at hq
        have HQ := Lib.hid hq
        have hne := str_ne he
        clear hq HQ3 he
        go_wp2_with fail
        go_roundw
        case rel => exact ⟨m + 1, by go_num, by show _ ≤ _; omega, HQ.out, HST3.out, HG3.out, HB3.out⟩
        case measure => simp [intOf]; omega
    · have hq2 := hq.out
      have hm2 := hm.out
      obtain rfl : m = 16 := by omega
      have HQ : Hid (q = none) := hq2
      clear hq hq2
      go_wp2_with fail
      exact bodyPost_ret (v := .tuple #[.int .i64 0, .bool false]) (by simp [results, Tryd.results23, go_sem]) rfl ⟨by rw [HQ.out]; rfl, hb.out⟩
end Go.Proofs.YtijoafmbmplgcaaDoor
