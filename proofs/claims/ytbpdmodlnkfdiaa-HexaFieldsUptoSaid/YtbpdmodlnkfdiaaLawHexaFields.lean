/- The law HexaFields. -/
import Derived.Test.YtbpdmodlnkfdiaaHFieldsR
import Derived.Test.YtbpdmodlnkfdiaaHWakes
import Derived.Deep.QuietTactic
import Derived.BigQuiet
namespace Go.Proofs.Ytbpdmodlnkfdiaa
open Go.RowKit

theorem AccS.cells {w : World} {base : Nat} {A : Option Addr} {n c : Nat} {xs : List ByteArray} (h : AccS w base (.slice A n c) xs) (h0 : 0 < xs.length) : ∃ g, A = some ⟨g, 0, none⟩ ∧ g < w.heap.size ∧ xs.length ≤ c ∧ ∀ j, j < xs.length → w.cell? ⟨g, j, none⟩ = some (.string (xs.getD j .empty)) := by
  have hl := h.1
  rcases h.2 with ⟨e, h1⟩ | ⟨g, cap, cur, e, hb, hg, hn, hm, hs, ht⟩
  · omega
  · injection e with e1 e2 e3
    subst e1 e2 e3
    refine ⟨g, rfl, (Array.getElem?_eq_some_iff.1 hg).1, hn, fun j hj => ?_⟩
    rw [cell_of_row w g j cur _ (0, 0) hg, ← Array.getElem?_toList]
    have h1 : (xs.map Value.string)[j]? = cur.toList[j]? := by rw [← ht, List.getElem?_take_of_lt (by omega)]
    rw [← h1, List.getElem?_map, List.getD_eq_getElem?_getD, List.getElem?_eq_getElem hj]
    rfl

theorem flF_len (s : ByteArray) : ∀ (f pos : Nat) (b : Option Nat), (flF s f pos b).length ≤ f + 1
  | 0, _, none => by simp [flF]
  | 0, _, some a => by simp [flF]
  | f + 1, pos, b => by
    by_cases hp : pos < s.size
    · have ih := fun p b => flF_len s f p b
      rw [flF.eq_def]
      simp only [if_pos hp]
      split
      · simp only [List.length_cons]; exact Nat.succ_le_succ (ih _ _)
      all_goals exact Nat.le_trans (ih _ _) (Nat.le_succ _)
    · rw [flF_end s _ pos b hp]
      cases b <;> simp
theorem below_drewQ {B : Nat} {a w : World} (h : Below B a w) (n : Nat) : Below B a (w.drewN n) := ⟨h.os, h.tape, h.output, h.size, h.block⟩

set_option maxRecDepth 100000 in
set_option maxHeartbeats 6400000 in
theorem hexaFields_c (s : ByteArray) (w : World) (hs : s.size ≤ 1073741824) : Calls Try.prog 5 #[.string s] w (RetV (.bool true) w) := by
  have K1 := Lib.hid (fun w => fields_c s w hs)
  have K2 := Lib.hid (fun w => rfields_c s w hs)
  obtain ⟨xs, hxs⟩ : ∃ xs, xs = flds s 0 none := ⟨_, rfl⟩
  have hxl : xs.length ≤ 1073741825 := by
    rw [hxs]
    have := flF_len s (s.size - 0) 0 none
    unfold flds
    omega
  rw [← hxs] at K1 K2
  have HXL := Lib.hid hxl
  clear hs hxs hxl
  go_enter Try.func5, Try.ntmps5
  go_wp2_with fail
  (with_reducible refine (K1.out w).mono ?_)
  rintro e w1 ⟨v1, rfl, ha1, hb1⟩
  obtain ⟨A1, c1, rfl⟩ := ha1.form
  have HA1 := Lib.hid ha1
  have HB1 := Lib.hid hb1
  clear ha1 hb1 K1
  obtain ⟨n, hn⟩ : ∃ n, n = xs.length := ⟨_, rfl⟩
  rw [← hn] at HA1 ⊢
  have HN := Lib.hid hn
  clear hn
  go_wp2_with fail
  (with_reducible refine (K2.out w1).mono ?_)
  rintro e w2 ⟨v2, rfl, ha2, hb2⟩
  obtain ⟨A2, c2, rfl⟩ := ha2.form
  have HA12 := Lib.hid (HA1.out.below hb2)
  have HA2 := Lib.hid ha2
  have HB2 := Lib.hid (HB1.out.trans (hb2.mono HB1.out.size))
  rw [← HN.out] at HA2 ⊢
  clear ha2 hb2 HA1 HB1 K2
  have H0 : Hid (Below w2.heap.size w2 w2) := Below.refl _ _
  go_upto_region 6 with (fail)
  go_loopw [5] (fun i wr => ∃ j : Nat, j ≤ n ∧ i = .int .i64 (j : Int) ∧ Hid (Below w2.heap.size w2 wr))
    (fun i _ => n - (intOf i).toNat)
  case atStart => exact ⟨0, by omega, rfl, H0.out⟩
  case round =>
    obtain ⟨j, hj, rfl, hb⟩ := hrel
    by_cases hjn : j < n
    · obtain ⟨g1, rfl, hg1, hc1, hcl1⟩ := HA12.out.cells (by rw [← HN.out]; omega)
      obtain ⟨g2, rfl, hg2, hc2, hcl2⟩ := HA2.out.cells (by rw [← HN.out]; omega)
      have x1 := (hb.out.cell (p := ⟨g1, j, none⟩) hg1).trans (hcl1 j (by rw [← HN.out]; exact hjn))
      have x2 := (hb.out.cell (p := ⟨g2, j, none⟩) hg2).trans (hcl2 j (by rw [← HN.out]; exact hjn))
      obtain ⟨t, ht⟩ : ∃ t, t = xs.getD j .empty := ⟨_, rfl⟩
      rw [← ht] at x1 x2
      have hj1 : (j : Int) < (n : Int) := by omega
      have hj0 : (0 : Int) ≤ (j : Int) := by omega
      have HJ : Hid (j < n) := hjn
      have HNB : Hid (n ≤ 4398046511104) := by
        show _ ≤ _
        have := HXL.out; have := HN.out; omega
      have ej : IntKind.i64.wrap ((j : Int) + 1) = (j : Int) + 1 := IntWalk.i64_in _ (by have := HNB.out; omega)
      clear hg1 hc1 hcl1 hg2 hc2 hcl2 ht hjn hj
      go_upto_region 8 with (fail)
      go_quiet (fail)
      have HB3 := Lib.hid (below_drewQ hb.out nq)
      clear hb x1 x2
      go_simp
      go_wp2_with fail
      exact ⟨⟨j + 1, HJ.out, by simp, HB3.out⟩, by simp [intOf]; have := HJ.out; omega⟩
    · have hj1 : ¬ (j : Int) < (n : Int) := by omega
      have HB3 := Lib.hid (HB2.out.trans (hb.out.mono HB2.out.size))
      clear hjn hb
      go_wp2_with fail
      (with_reducible refine (hwakes_c _).mono ?_)
      rintro e w5 ⟨rfl, hb5⟩
      have HB5 := Lib.hid (HB3.out.trans (hb5.mono HB3.out.size))
      clear hb5 HB3
      go_wp2_with fail
      go_ret
      exact ⟨rfl, HB5.out⟩
end Go.Proofs.Ytbpdmodlnkfdiaa
