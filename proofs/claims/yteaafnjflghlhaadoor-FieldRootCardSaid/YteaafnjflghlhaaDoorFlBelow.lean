/- Package field's below. -/
import Derived.Test.YteaafnjflghlhaaDoorFlLine
import Derived.Deep.QuietTactic
import Derived.Deep.DeepCutAuto
import Derived.Deep.CutBlock
import Derived.BigQuiet
namespace Go.Proofs.YteaafnjflghlhaaDoor
open Go.RowKit

theorem L6.at_ {w : World} {g o x0 x1 x2 x3 x4 x5 : Nat} (h : L6 w g o x0 x1 x2 x3 x4 x5) (k : Nat) (hk : k < 6) : w.cell? ⟨g, o + k, none⟩ = some (.int .u64 (([x0, x1, x2, x3, x4, x5].getD k 0 : Nat) : Int)) := by
  rcases (show k = 0 ∨ k = 1 ∨ k = 2 ∨ k = 3 ∨ k = 4 ∨ k = 5 by omega) with rfl | rfl | rfl | rfl | rfl | rfl
  · exact h.c0
  · exact h.c1
  · exact h.c2
  · exact h.c3
  · exact h.c4
  · exact h.c5
theorem L6.keep {w w' : World} {g o x0 x1 x2 x3 x4 x5 : Nat} (h : L6 w g o x0 x1 x2 x3 x4 x5) (hk : ∀ j, j < 6 → w'.cell? ⟨g, o + j, none⟩ = w.cell? ⟨g, o + j, none⟩) : L6 w' g o x0 x1 x2 x3 x4 x5 :=
  ⟨(hk 0 (by omega)).trans h.c0, (hk 1 (by omega)).trans h.c1, (hk 2 (by omega)).trans h.c2, (hk 3 (by omega)).trans h.c3, (hk 4 (by omega)).trans h.c4, (hk 5 (by omega)).trans h.c5⟩
theorem hor {x y X Y : Nat} (hx : Lim x) (h : X < Y) : x + 18446744073709551616 * X < y + 18446744073709551616 * Y := by unfold Lim at hx; omega
/-- The highest limb in which two numbers differ tells which one is less. -/
theorem n6_lt {x0 x1 x2 x3 x4 x5 y0 y1 y2 y3 y4 y5 : Nat} (hx : Lim6 x0 x1 x2 x3 x4 x5) (m : Nat) (hm : m < 6) (h : ∀ k, m < k → k < 6 → [x0, x1, x2, x3, x4, x5].getD k 0 = [y0, y1, y2, y3, y4, y5].getD k 0)
    (hl : [x0, x1, x2, x3, x4, x5].getD m 0 < [y0, y1, y2, y3, y4, y5].getD m 0) : n6 x0 x1 x2 x3 x4 x5 < n6 y0 y1 y2 y3 y4 y5 := by
  obtain ⟨l0, l1, l2, l3, l4, l5⟩ := hx
  unfold n6
  rcases (show m = 0 ∨ m = 1 ∨ m = 2 ∨ m = 3 ∨ m = 4 ∨ m = 5 by omega) with rfl | rfl | rfl | rfl | rfl | rfl
  · obtain rfl : x1 = y1 := h 1 (by omega) (by omega)
    obtain rfl : x2 = y2 := h 2 (by omega) (by omega)
    obtain rfl : x3 = y3 := h 3 (by omega) (by omega)
    obtain rfl : x4 = y4 := h 4 (by omega) (by omega)
    obtain rfl : x5 = y5 := h 5 (by omega) (by omega)
    exact Nat.add_lt_add_right hl _
  · obtain rfl : x2 = y2 := h 2 (by omega) (by omega)
    obtain rfl : x3 = y3 := h 3 (by omega) (by omega)
    obtain rfl : x4 = y4 := h 4 (by omega) (by omega)
    obtain rfl : x5 = y5 := h 5 (by omega) (by omega)
    exact hor l0 (Nat.add_lt_add_right hl _)
  · obtain rfl : x3 = y3 := h 3 (by omega) (by omega)
    obtain rfl : x4 = y4 := h 4 (by omega) (by omega)
    obtain rfl : x5 = y5 := h 5 (by omega) (by omega)
    exact hor l0 (hor l1 (Nat.add_lt_add_right hl _))
  · obtain rfl : x4 = y4 := h 4 (by omega) (by omega)
    obtain rfl : x5 = y5 := h 5 (by omega) (by omega)
    exact hor l0 (hor l1 (hor l2 (Nat.add_lt_add_right hl _)))
  · obtain rfl : x5 = y5 := h 5 (by omega) (by omega)
    exact hor l0 (hor l1 (hor l2 (hor l3 (Nat.add_lt_add_right hl _))))
  · exact hor l0 (hor l1 (hor l2 (hor l3 (hor l4 hl))))
theorem n6_eq {x0 x1 x2 x3 x4 x5 y0 y1 y2 y3 y4 y5 : Nat} (h : ∀ k, k < 6 → [x0, x1, x2, x3, x4, x5].getD k 0 = [y0, y1, y2, y3, y4, y5].getD k 0) : n6 x0 x1 x2 x3 x4 x5 = n6 y0 y1 y2 y3 y4 y5 := by
  obtain rfl : x0 = y0 := h 0 (by omega)
  obtain rfl : x1 = y1 := h 1 (by omega)
  obtain rfl : x2 = y2 := h 2 (by omega)
  obtain rfl : x3 = y3 := h 3 (by omega)
  obtain rfl : x4 = y4 := h 4 (by omega)
  obtain rfl : x5 = y5 := h 5 (by omega)
  rfl

set_option maxRecDepth 100000 in
set_option maxHeartbeats 3200000 in
theorem below_c {g o f p x0 x1 x2 x3 x4 x5 y0 y1 y2 y3 y4 y5 : Nat} (w : World) (hx : L6 w g o x0 x1 x2 x3 x4 x5) (hy : L6 w f p y0 y1 y2 y3 y4 y5) (lx : Lim6 x0 x1 x2 x3 x4 x5) (ly : Lim6 y0 y1 y2 y3 y4 y5) :
    Calls Tryd.prog 38 #[.pointer (some ⟨g, o, none⟩), .pointer (some ⟨f, p, none⟩)] w fun e w' => e = .returned (.bool (decide (n6 x0 x1 x2 x3 x4 x5 < n6 y0 y1 y2 y3 y4 y5))) ∧ ∃ n, w' = w.drewN n := by
  have HX := Lib.hid hx
  have HY := Lib.hid hy
  have HLX := Lib.hid lx
  have HLY := Lib.hid ly
  obtain ⟨A, hA⟩ : ∃ A, A = n6 x0 x1 x2 x3 x4 x5 := ⟨_, rfl⟩
  obtain ⟨B, hB⟩ : ∃ B, B = n6 y0 y1 y2 y3 y4 y5 := ⟨_, rfl⟩
  rw [← hA, ← hB]
  have HA := Lib.hid hA
  have HB := Lib.hid hB
  obtain ⟨xs, hxs⟩ : ∃ xs, xs = [x0, x1, x2, x3, x4, x5] := ⟨_, rfl⟩
  obtain ⟨ys, hys⟩ : ∃ ys, ys = [y0, y1, y2, y3, y4, y5] := ⟨_, rfl⟩
  have HXS := Lib.hid hxs
  have HYS := Lib.hid hys
  clear hx hy lx ly hA hB hxs hys
  go_enter Tryd.func38, Tryd.ntmps38
  go_upto_region 2 with (fail)
  go_loopw [5] (fun i wr => ∃ (j n : Nat), j ≤ 6 ∧ i = .int .i64 ((j : Int) - 1) ∧ Hid (∀ k, j ≤ k → k < 6 → xs.getD k 0 = ys.getD k 0) ∧ wr = w.drewN n)
    (fun i _ => (intOf i + 1).toNat)
  case atStart => exact ⟨6, 0, by omega, rfl, fun k h1 h2 => by omega, rfl⟩
  case round =>
    obtain ⟨j, n, hj, rfl, heq, rfl⟩ := hrel
    rcases j with _ | m
    · have hjn : ¬ (0 : Int) ≤ ((0 : Nat) : Int) - 1 := by omega
      have HE : Hid (decide (A < B) = false) := by
        have e := n6_eq (x0 := x0) (x1 := x1) (x2 := x2) (x3 := x3) (x4 := x4) (x5 := x5) (y0 := y0) (y1 := y1) (y2 := y2) (y3 := y3) (y4 := y4) (y5 := y5) (fun k hk => by rw [← HXS.out, ← HYS.out]; exact heq.out k (by omega) hk)
        show _ = _
        rw [HA.out, HB.out, e]
        simp
      clear heq
      go_wp2_with fail
      go_ret
      exact ⟨by rw [HE.out]; rfl, n, rfl⟩
    · have ei : ((m + 1 : Nat) : Int) - 1 = (m : Int) := by omega
      rw [ei]
      have hm6 : m < 6 := by omega
      have hm1 : (m : Int) < 6 := by omega
      have hm0 : (0 : Int) ≤ (m : Int) := by omega
      have cx : w.cell? ⟨g, o + m, none⟩ = some (.int .u64 ((xs.getD m 0 : Nat) : Int)) := by rw [HXS.out]; exact HX.out.at_ m hm6
      have cy : w.cell? ⟨f, p + m, none⟩ = some (.int .u64 ((ys.getD m 0 : Nat) : Int)) := by rw [HYS.out]; exact HY.out.at_ m hm6
      obtain ⟨x, ex⟩ : ∃ x, x = xs.getD m 0 := ⟨_, rfl⟩
      obtain ⟨y, ey⟩ : ∃ y, y = ys.getD m 0 := ⟨_, rfl⟩
      rw [← ex] at cx
      rw [← ey] at cy
      have HEX := Lib.hid ex
      have HEY := Lib.hid ey
      have HM : Hid (m < 6) := hm6
      have em : IntKind.i64.wrap ((m : Int) - 1) = (m : Int) - 1 := IntWalk.i64_in _ (by omega)
      by_cases hxy : x = y
      · subst hxy
        clear ex ey hj ei hm6
        go_upto_region 4 with (fail)
        go_quiet (fail)
        go_simp
        clear cx cy
        go_wp2_with fail
        exact ⟨⟨m, _, by have := HM.out; omega, rfl, fun k h1 h2 => by
          rcases Nat.eq_or_lt_of_le h1 with h | h
          · rw [← h, ← HEX.out, HEY.out]
          · exact heq.out k h h2, rfl⟩, by simp [intOf] <;> omega⟩
      · have hne : ((x : Int) == (y : Int)) = false := by simp; omega
        have HNE := Lib.hid hxy
        clear ex ey hj ei hm6
        go_upto_region 4 with (fail)
        go_quiet (fail)
        go_simp
        by_cases hlt : x < y
        · have hl1 : (x : Int) < (y : Int) := by omega
          have HE : Hid (decide (A < B) = true) := by
            have e := n6_lt HLX.out (y0 := y0) (y1 := y1) (y2 := y2) (y3 := y3) (y4 := y4) (y5 := y5) m HM.out (fun k h1 h2 => by rw [← HXS.out, ← HYS.out]; exact heq.out k h1 h2) (by rw [← HXS.out, ← HYS.out, ← HEX.out, ← HEY.out]; exact hlt)
            show _ = _
            rw [HA.out, HB.out]
            simpa using e
          clear hlt heq hxy
          go_upto_region 5 with (fail)
          go_quiet (fail)
          go_simp
          go_wp2_with fail
          go_ret
          exact ⟨by rw [HE.out]; rfl, _, rfl⟩
        · have hl1 : ¬ (x : Int) < (y : Int) := by omega
          have HE : Hid (decide (A < B) = false) := by
            have e := n6_lt HLY.out (y0 := x0) (y1 := x1) (y2 := x2) (y3 := x3) (y4 := x4) (y5 := x5) m HM.out (fun k h1 h2 => by rw [← HXS.out, ← HYS.out]; exact (heq.out k h1 h2).symm) (by rw [← HXS.out, ← HYS.out, ← HEX.out, ← HEY.out]; omega)
            show _ = _
            rw [HA.out, HB.out]
            simp only [decide_eq_false_iff_not]
            omega
          clear hlt heq hxy
          go_upto_region 5 with (fail)
          go_quiet (fail)
          go_simp
          go_wp2_with fail
          go_ret
          exact ⟨by rw [HE.out]; rfl, _, rfl⟩
end Go.Proofs.YteaafnjflghlhaaDoor
