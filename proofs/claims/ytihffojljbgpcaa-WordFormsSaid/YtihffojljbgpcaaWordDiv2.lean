/- The contracts of package word's Div and Mod, for any two words. -/
import Derived.Test.YtihffojljbgpcaaDivide2
import Derived.Test.YtihffojljbgpcaaWordDiv
namespace Go.Proofs.Ytihffojljbgpcaa
open Go.RowKit

def RetQR (q r : Nat) (w : World) (e : Ending) (w' : World) : Prop := ∃ q0 q1 q2 q3 q4 q5 q6 q7 r0 r1 r2 r3 : Nat, e = .returned (.tuple #[L8 q0 q1 q2 q3 q4 q5 q6 q7, W4 r0 r1 r2 r3]) ∧
  Lims [q0, q1, q2, q3, q4, q5, q6, q7] ∧ vl [q0, q1, q2, q3, q4, q5, q6, q7] = q ∧ IsW r0 r1 r2 r3 r ∧ Below w.heap.size w w'

theorem vl_pos {xs : List Nat} {i : Nat} (h : xs.getD i 0 ≠ 0) : 0 < vl xs := by
  induction xs generalizing i with
  | nil => simp at h
  | cons x r ih =>
    simp only [vl]
    cases i with
    | zero => simp at h; omega
    | succ i => have := ih (i := i) (by simpa using h); omega

theorem divide_c {x0 x1 x2 x3 x4 x5 x6 x7 d0 d1 d2 d3 d : Nat} (hx : Lims [x0, x1, x2, x3, x4, x5, x6, x7]) (hd : IsW d0 d1 d2 d3 d) (w : World) :
    Calls Try.prog 113 #[L8 x0 x1 x2 x3 x4 x5 x6 x7, W4 d0 d1 d2 d3] w (RetQR (vl [x0, x1, x2, x3, x4, x5, x6, x7] / d) (if d = 0 then 0 else vl [x0, x1, x2, x3, x4, x5, x6, x7] % d) w) := by
  obtain ⟨top, ht⟩ := isTop_exists [x0, x1, x2, x3, x4, x5, x6, x7]
  obtain ⟨wide, hw⟩ := isTop_exists [d0, d1, d2, d3]
  have hw4 : wide ≤ 4 := hw.1
  by_cases h0 : wide = 0
  · have hz : d = 0 := by rw [hd.vals, vl_top hw, h0]; rfl
    refine (divide_zero ht hw h0 w).mono ?_
    rintro e w' ⟨rfl, hb⟩
    subst hz
    refine ⟨0, 0, 0, 0, 0, 0, 0, 0, 0, 0, 0, 0, rfl, fun x hx => ?_, by simp [vl], by simp [IsW], hb⟩
    simp at hx; subst hx; simp [Lim]
  · have hz : 0 < d := by rw [hd.vals]; exact vl_pos (hw.2.2 (by omega))
    rw [if_neg (by omega)]
    by_cases hl : top < wide
    · exact divide_less hx hd ht hw hl w
    · by_cases h1 : wide = 1
      · subst h1; exact divide_one hx hd hw (vl_pos (ht.2.2 (by omega))) w
      · exact divide_two hx hd ht hw (by omega) (by omega) w

theorem long_lims {a0 a1 a2 a3 a : Nat} (ha : IsW a0 a1 a2 a3 a) : Lims [a0, a1, a2, a3, 0, 0, 0, 0] := by
  obtain ⟨h0, h1, h2, h3, _⟩ := ha
  intro x hx
  simp only [List.mem_cons, List.not_mem_nil, or_false] at hx
  unfold Lim
  omega
theorem long_vl {a0 a1 a2 a3 a : Nat} (ha : IsW a0 a1 a2 a3 a) : vl [a0, a1, a2, a3, 0, 0, 0, 0] = a := by rw [ha.vals]; simp [vl]

set_option maxRecDepth 100000 in
set_option maxHeartbeats 1600000 in
theorem div_c {a0 a1 a2 a3 b0 b1 b2 b3 a b : Nat} (ha : IsW a0 a1 a2 a3 a) (hb : IsW b0 b1 b2 b3 b) (w : World) :
    Calls Try.prog 44 #[W4 a0 a1 a2 a3, W4 b0 b1 b2 b3] w (RetW (a / b) w) := by
  go_enter Try.func44, Try.ntmps44
  go_wp2_with fail
  obtain ⟨gA, gB, gR, gS, gW⟩ := start3 w 24 a0 a1 a2 a3 b0 b1 b2 b3 _ rfl
  generalize ((w.alloc (.cells #[.int .u64 (a0 : Nat), .int .u64 (a1 : Nat), .int .u64 (a2 : Nat), .int .u64 (a3 : Nat)] 24)).alloc (.cells #[.int .u64 (b0 : Nat), .int .u64 (b1 : Nat), .int .u64 (b2 : Nat), .int .u64 (b3 : Nat)] 24)).alloc (.cells #[.int .u64 0, .int .u64 0, .int .u64 0, .int .u64 0] 24) = X at *
  have hD := divide_c (long_lims ha) hb X
  rw [long_vl ha] at hD
  refine hD.mono ?_
  clear hD
  rintro e w2 ⟨q0, q1, q2, q3, q4, q5, q6, q7, r0, r1, r2, r3, rfl, lq, hq, hr, hb2⟩
  have HQ := Lib.hid hq
  clear hq
  have k1 := gR.below hb2 gR.lt
  have hs := k1.lt
  obtain ⟨z0, z1, z2, z3⟩ := k1.cells4
  obtain ⟨g0, g1, g2, g3⟩ := k1.free4
  go_wp2_with fail
  refine (low_c lq _).mono ?_
  rintro e w3 ⟨s0, s1, s2, s3, rfl, hsw, hb3⟩
  clear z0 z1 z2 z3 g0 g1 g2 g3
  have k2 := ((k1.alloc (.cells #[.int .u64 (q0 : Nat), .int .u64 (q1 : Nat), .int .u64 (q2 : Nat), .int .u64 (q3 : Nat), .int .u64 (q4 : Nat), .int .u64 (q5 : Nat), .int .u64 (q6 : Nat), .int .u64 (q7 : Nat)] 94)).alloc (.cells #[.int .u64 (r0 : Nat), .int .u64 (r1 : Nat), .int .u64 (r2 : Nat), .int .u64 (r3 : Nat)] 24))
  have k3 := k2.below hb3 k2.lt
  obtain ⟨z0, z1, z2, z3⟩ := k3.cells4
  obtain ⟨g0, g1, g2, g3⟩ := k3.free4
  go_wp2_with fail
  have hB : Below w.heap.size w w3 := by
    refine Below.trans ?_ (hb3.mono (by have := hb2.size; have := gS; simp; omega))
    exact (((gW.trans (hb2.mono (by omega))).alloc (by have := hb2.size; omega) _).alloc (by have := hb2.size; simp; omega) _)
  have k4 := k3.put4 s0 s1 s2 s3
  have hB2 := below_put4 hB (f := w.heap.size + 1 + 1) (by omega) (.int .u64 (s0 : Int)) (.int .u64 (s1 : Int)) (.int .u64 (s2 : Int)) (.int .u64 (s3 : Int))
  clear z0 z1 z2 z3 g0 g1 g2 g3
  generalize (((w3.setCell ⟨w.heap.size + 1 + 1, 0, none⟩ (.int .u64 (s0 : Int))).setCell ⟨w.heap.size + 1 + 1, 1, none⟩ (.int .u64 (s1 : Int))).setCell ⟨w.heap.size + 1 + 1, 2, none⟩ (.int .u64 (s2 : Int))).setCell ⟨w.heap.size + 1 + 1, 3, none⟩ (.int .u64 (s3 : Int)) = Y at *
  obtain ⟨z0, z1, z2, z3⟩ := k4.cells4
  exact bodyPost_ret (v := W4 s0 s1 s2 s3) (by simp [results, Try.results44, go_sem, z0, z1, z2, z3]) rfl
    ⟨s0, s1, s2, s3, rfl, hsw.eq (vl8 HQ.out (by have := ha.big; unfold Big at *; exact Nat.lt_of_le_of_lt (Nat.div_le_self _ _) this)), hB2⟩

set_option maxRecDepth 100000 in
set_option maxHeartbeats 1600000 in
theorem mod_c {a0 a1 a2 a3 b0 b1 b2 b3 a b : Nat} (ha : IsW a0 a1 a2 a3 a) (hb : IsW b0 b1 b2 b3 b) (w : World) :
    Calls Try.prog 46 #[W4 a0 a1 a2 a3, W4 b0 b1 b2 b3] w (RetW (if b = 0 then 0 else a % b) w) := by
  obtain ⟨R, hR⟩ : ∃ R, R = if b = 0 then 0 else a % b := ⟨_, rfl⟩
  rw [← hR]
  have HR := Lib.hid hR
  clear hR
  go_enter Try.func46, Try.ntmps46
  go_wp2_with fail
  obtain ⟨gA, gB, gR, gS, gW⟩ := start3 w 24 a0 a1 a2 a3 b0 b1 b2 b3 _ rfl
  generalize ((w.alloc (.cells #[.int .u64 (a0 : Nat), .int .u64 (a1 : Nat), .int .u64 (a2 : Nat), .int .u64 (a3 : Nat)] 24)).alloc (.cells #[.int .u64 (b0 : Nat), .int .u64 (b1 : Nat), .int .u64 (b2 : Nat), .int .u64 (b3 : Nat)] 24)).alloc (.cells #[.int .u64 0, .int .u64 0, .int .u64 0, .int .u64 0] 24) = X at *
  have hD := divide_c (long_lims ha) hb X
  rw [long_vl ha, ← HR.out] at hD
  refine hD.mono ?_
  clear hD
  rintro e w2 ⟨q0, q1, q2, q3, q4, q5, q6, q7, r0, r1, r2, r3, rfl, lq, hq, hr, hb2⟩
  clear hq
  have k1 := gR.below hb2 gR.lt
  have k2 := ((k1.alloc (.cells #[.int .u64 (q0 : Nat), .int .u64 (q1 : Nat), .int .u64 (q2 : Nat), .int .u64 (q3 : Nat), .int .u64 (q4 : Nat), .int .u64 (q5 : Nat), .int .u64 (q6 : Nat), .int .u64 (q7 : Nat)] 94)).alloc (.cells #[.int .u64 (r0 : Nat), .int .u64 (r1 : Nat), .int .u64 (r2 : Nat), .int .u64 (r3 : Nat)] 24))
  have hs := k1.lt
  have hs1 : w.heap.size + 1 + 1 < w2.heap.size + 1 := Nat.lt_succ_of_lt hs
  obtain ⟨y0, y1, y2, y3⟩ := k1.cells4
  obtain ⟨f0, f1, f2, f3⟩ := k1.free4
  obtain ⟨z0, z1, z2, z3⟩ := k2.cells4
  obtain ⟨g0, g1, g2, g3⟩ := k2.free4
  go_wp2_with fail
  have hB := below_put4 (gW.trans (hb2.mono (by omega))) (f := w.heap.size + 1 + 1) (by omega) (.int .u64 (r0 : Int)) (.int .u64 (r1 : Int)) (.int .u64 (r2 : Int)) (.int .u64 (r3 : Int))
  have hB2 := (hB.alloc (by have := hb2.size; simp; omega) (.cells #[.int .u64 (q0 : Nat), .int .u64 (q1 : Nat), .int .u64 (q2 : Nat), .int .u64 (q3 : Nat), .int .u64 (q4 : Nat), .int .u64 (q5 : Nat), .int .u64 (q6 : Nat), .int .u64 (q7 : Nat)] 94)).alloc (by have := hb2.size; simp; omega) (.cells #[.int .u64 (r0 : Nat), .int .u64 (r1 : Nat), .int .u64 (r2 : Nat), .int .u64 (r3 : Nat)] 24)
  have k4 := (((k1.put4 r0 r1 r2 r3).alloc (.cells #[.int .u64 (q0 : Nat), .int .u64 (q1 : Nat), .int .u64 (q2 : Nat), .int .u64 (q3 : Nat), .int .u64 (q4 : Nat), .int .u64 (q5 : Nat), .int .u64 (q6 : Nat), .int .u64 (q7 : Nat)] 94)).alloc (.cells #[.int .u64 (r0 : Nat), .int .u64 (r1 : Nat), .int .u64 (r2 : Nat), .int .u64 (r3 : Nat)] 24))
  clear y0 y1 y2 y3 f0 f1 f2 f3 z0 z1 z2 z3 g0 g1 g2 g3
  obtain ⟨z0, z1, z2, z3⟩ := k4.cells4
  generalize ((((((w2.setCell ⟨w.heap.size + 1 + 1, 0, none⟩ (.int .u64 (r0 : Int))).setCell ⟨w.heap.size + 1 + 1, 1, none⟩ (.int .u64 (r1 : Int))).setCell ⟨w.heap.size + 1 + 1, 2, none⟩ (.int .u64 (r2 : Int))).setCell ⟨w.heap.size + 1 + 1, 3, none⟩ (.int .u64 (r3 : Int))).alloc (.cells #[.int .u64 (q0 : Nat), .int .u64 (q1 : Nat), .int .u64 (q2 : Nat), .int .u64 (q3 : Nat), .int .u64 (q4 : Nat), .int .u64 (q5 : Nat), .int .u64 (q6 : Nat), .int .u64 (q7 : Nat)] 94)).alloc (.cells #[.int .u64 (r0 : Nat), .int .u64 (r1 : Nat), .int .u64 (r2 : Nat), .int .u64 (r3 : Nat)] 24)) = Y at *
  exact bodyPost_ret (v := W4 r0 r1 r2 r3) (by simp [results, Try.results46, go_sem, z0, z1, z2, z3]) rfl
    ⟨r0, r1, r2, r3, rfl, hr, hB2⟩
end Go.Proofs.Ytihffojljbgpcaa
