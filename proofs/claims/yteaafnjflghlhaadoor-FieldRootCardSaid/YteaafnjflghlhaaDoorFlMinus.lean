/- Package field's minus. Written by wip/genfminus.py. -/
import Derived.Test.YteaafnjflghlhaaDoorFlPlus
namespace Go.Proofs.YteaafnjflghlhaaDoor
open Go.RowKit

theorem minus_math {x0 x1 x2 x3 x4 x5 y0 y1 y2 y3 y4 y5 s0 s1 s2 s3 s4 s5 k0 k1 k2 k3 k4 k5 : Nat} (A0 : SubC x0 y0 0 s0 k0) (A1 : SubC x1 y1 k0 s1 k1) (A2 : SubC x2 y2 k1 s2 k2) (A3 : SubC x3 y3 k2 s3 k3) (A4 : SubC x4 y4 k3 s4 k4) (A5 : SubC x5 y5 k4 s5 k5) :
    n6 s0 s1 s2 s3 s4 s5 + n6 y0 y1 y2 y3 y4 y5 = n6 x0 x1 x2 x3 x4 x5 + 39402006196394479212279040100143613805079739270465446667948293404245721771497210611414266254884915640806627990306816 * k5 := by
  have e0 := A0.1
  have e1 := A1.1
  have e2 := A2.1
  have e3 := A3.1
  have e4 := A4.1
  have e5 := A5.1
  unfold n6
  clear A0 A1 A2 A3 A4 A5
  omega
theorem n6_lim {x0 x1 x2 x3 x4 x5 : Nat} (h : Lim6 x0 x1 x2 x3 x4 x5) : n6 x0 x1 x2 x3 x4 x5 < 39402006196394479212279040100143613805079739270465446667948293404245721771497210611414266254884915640806627990306816 := by
  obtain ⟨h0, h1, h2, h3, h4, h5⟩ := h
  unfold Lim at h0 h1 h2 h3 h4 h5
  unfold n6
  omega
/-- What minus tells of its numbers: whether b is above a, and what is left. -/
def MinusR (x y s : Nat) : Prop := (x < y → s + y = x + 39402006196394479212279040100143613805079739270465446667948293404245721771497210611414266254884915640806627990306816) ∧ (¬ x < y → s + y = x)

set_option maxRecDepth 100000 in
set_option maxHeartbeats 6400000 in
theorem fminus_c {g o f p h q x0 x1 x2 x3 x4 x5 y0 y1 y2 y3 y4 y5 : Nat} (w : World) (hx : L6 w f p x0 x1 x2 x3 x4 x5) (hy : L6 w h q y0 y1 y2 y3 y4 y5) (lx : Lim6 x0 x1 x2 x3 x4 x5) (ly : Lim6 y0 y1 y2 y3 y4 y5)
    (hz : ∃ z0 z1 z2 z3 z4 z5, L6 w g o z0 z1 z2 z3 z4 z5) (hf : ∀ k, w.frozen? ⟨g, k, none⟩ = false) (a1 : Apart g o f p) (a2 : Apart g o h q) :
    Calls Tryd.prog 56 #[.pointer (some ⟨g, o, none⟩), .pointer (some ⟨f, p, none⟩), .pointer (some ⟨h, q, none⟩)] w fun e w' => e = .returned (.bool (decide (n6 x0 x1 x2 x3 x4 x5 < n6 y0 y1 y2 y3 y4 y5))) ∧ Put6 g o w w' ∧
      ∃ s0 s1 s2 s3 s4 s5, L6 w' g o s0 s1 s2 s3 s4 s5 ∧ Lim6 s0 s1 s2 s3 s4 s5 ∧ MinusR (n6 x0 x1 x2 x3 x4 x5) (n6 y0 y1 y2 y3 y4 y5) (n6 s0 s1 s2 s3 s4 s5) := by
  obtain ⟨z0, z1, z2, z3, z4, z5, hz⟩ := hz
  have HLX := Lib.hid lx
  have HLY := Lib.hid ly
  obtain ⟨A, hA⟩ : ∃ A, A = n6 x0 x1 x2 x3 x4 x5 := ⟨_, rfl⟩
  obtain ⟨B, hB⟩ : ∃ B, B = n6 y0 y1 y2 y3 y4 y5 := ⟨_, rfl⟩
  rw [← hA, ← hB]
  have HA := Lib.hid hA
  have HB := Lib.hid hB
  obtain ⟨la0, la1, la2, la3, la4, la5⟩ := lx
  obtain ⟨lb0, lb1, lb2, lb3, lb4, lb5⟩ := ly
  have HX := Lib.hid hx
  have HY := Lib.hid hy
  have HZ := Lib.hid hz
  have HF := Lib.hid hf
  have HA1 := Lib.hid a1
  have HA2 := Lib.hid a2
  clear hx hy hz hf a1 a2 hA hB
  go_enter Tryd.func56, Tryd.ntmps56
  have c0 : w.cell? ⟨f, p, none⟩ = some (.int .u64 (x0 : Nat)) := HX.out.c0
  have d0 : w.cell? ⟨h, q, none⟩ = some (.int .u64 (y0 : Nat)) := HY.out.c0
  have e0 : w.cell? ⟨g, o, none⟩ = some (.int .u64 (z0 : Nat)) := HZ.out.c0
  have f0 : w.frozen? ⟨g, o, none⟩ = false := HF.out (o)
  go_upto_region 2 with (fail)
  apply wp_point (R := fun s k w1 => SubC x0 y0 0 s k ∧ k ≤ 1 ∧ Lim s ∧ Turn g (o + 0) (.int .u64 (s : Nat)) w w1)
  case h =>
    go_region_with (refine upon_sub0 _ _ _ la0 lb0 ?_; intro s0 k0 A0 hk0 ls0)
    all_goals
      go_simp
      exact ⟨s0, k0, ⟨A0, hk0, ls0, Turn.put e0 _⟩, rfl⟩
  rintro s0 k0 W0 ⟨A0, hk0, ls0, T0⟩
  replace T0 := Lib.hid T0
  have B0 := Lib.hid A0
  clear A0 c0 d0 e0 f0
  have c1 : W0.cell? ⟨f, p + 1, none⟩ = some (.int .u64 (x1 : Nat)) := ((T0.out.later (k := 1) HA1.out (by omega)).trans HX.out.c1)
  have d1 : W0.cell? ⟨h, q + 1, none⟩ = some (.int .u64 (y1 : Nat)) := ((T0.out.later (k := 1) HA2.out (by omega)).trans HY.out.c1)
  have e1 : W0.cell? ⟨g, o + 1, none⟩ = some (.int .u64 (z1 : Nat)) := ((T0.out.other (k := 1) (by omega)).trans HZ.out.c1)
  have f1 : W0.frozen? ⟨g, o + 1, none⟩ = false := ((T0.out.frozen _).trans (HF.out (o + 1)))
  go_upto_region 3 with (fail)
  apply wp_point (R := fun s k w1 => SubC x1 y1 k0 s k ∧ k ≤ 1 ∧ Lim s ∧ Turn g (o + 1) (.int .u64 (s : Nat)) W0 w1)
  case h =>
    go_region_with (refine upon_sub _ _ _ hk0 _ la1 lb1 ?_; intro s1 k1 A1 hk1 ls1)
    all_goals
      go_simp
      exact ⟨s1, k1, ⟨A1, hk1, ls1, Turn.put e1 _⟩, rfl⟩
  rintro s1 k1 W1 ⟨A1, hk1, ls1, T1⟩
  replace T1 := Lib.hid T1
  have B1 := Lib.hid A1
  clear A1 c1 d1 e1 f1
  have c2 : W1.cell? ⟨f, p + 2, none⟩ = some (.int .u64 (x2 : Nat)) := ((T1.out.later (k := 2) HA1.out (by omega)).trans ((T0.out.later (k := 2) HA1.out (by omega)).trans HX.out.c2))
  have d2 : W1.cell? ⟨h, q + 2, none⟩ = some (.int .u64 (y2 : Nat)) := ((T1.out.later (k := 2) HA2.out (by omega)).trans ((T0.out.later (k := 2) HA2.out (by omega)).trans HY.out.c2))
  have e2 : W1.cell? ⟨g, o + 2, none⟩ = some (.int .u64 (z2 : Nat)) := ((T1.out.other (k := 2) (by omega)).trans ((T0.out.other (k := 2) (by omega)).trans HZ.out.c2))
  have f2 : W1.frozen? ⟨g, o + 2, none⟩ = false := ((T1.out.frozen _).trans (((T0.out.frozen _).trans (HF.out (o + 2)))))
  go_upto_region 4 with (fail)
  apply wp_point (R := fun s k w1 => SubC x2 y2 k1 s k ∧ k ≤ 1 ∧ Lim s ∧ Turn g (o + 2) (.int .u64 (s : Nat)) W1 w1)
  case h =>
    go_region_with (refine upon_sub _ _ _ hk1 _ la2 lb2 ?_; intro s2 k2 A2 hk2 ls2)
    all_goals
      go_simp
      exact ⟨s2, k2, ⟨A2, hk2, ls2, Turn.put e2 _⟩, rfl⟩
  rintro s2 k2 W2 ⟨A2, hk2, ls2, T2⟩
  replace T2 := Lib.hid T2
  have B2 := Lib.hid A2
  clear A2 c2 d2 e2 f2
  have c3 : W2.cell? ⟨f, p + 3, none⟩ = some (.int .u64 (x3 : Nat)) := ((T2.out.later (k := 3) HA1.out (by omega)).trans ((T1.out.later (k := 3) HA1.out (by omega)).trans ((T0.out.later (k := 3) HA1.out (by omega)).trans HX.out.c3)))
  have d3 : W2.cell? ⟨h, q + 3, none⟩ = some (.int .u64 (y3 : Nat)) := ((T2.out.later (k := 3) HA2.out (by omega)).trans ((T1.out.later (k := 3) HA2.out (by omega)).trans ((T0.out.later (k := 3) HA2.out (by omega)).trans HY.out.c3)))
  have e3 : W2.cell? ⟨g, o + 3, none⟩ = some (.int .u64 (z3 : Nat)) := ((T2.out.other (k := 3) (by omega)).trans ((T1.out.other (k := 3) (by omega)).trans ((T0.out.other (k := 3) (by omega)).trans HZ.out.c3)))
  have f3 : W2.frozen? ⟨g, o + 3, none⟩ = false := ((T2.out.frozen _).trans (((T1.out.frozen _).trans (((T0.out.frozen _).trans (HF.out (o + 3)))))))
  go_upto_region 5 with (fail)
  apply wp_point (R := fun s k w1 => SubC x3 y3 k2 s k ∧ k ≤ 1 ∧ Lim s ∧ Turn g (o + 3) (.int .u64 (s : Nat)) W2 w1)
  case h =>
    go_region_with (refine upon_sub _ _ _ hk2 _ la3 lb3 ?_; intro s3 k3 A3 hk3 ls3)
    all_goals
      go_simp
      exact ⟨s3, k3, ⟨A3, hk3, ls3, Turn.put e3 _⟩, rfl⟩
  rintro s3 k3 W3 ⟨A3, hk3, ls3, T3⟩
  replace T3 := Lib.hid T3
  have B3 := Lib.hid A3
  clear A3 c3 d3 e3 f3
  have c4 : W3.cell? ⟨f, p + 4, none⟩ = some (.int .u64 (x4 : Nat)) := ((T3.out.later (k := 4) HA1.out (by omega)).trans ((T2.out.later (k := 4) HA1.out (by omega)).trans ((T1.out.later (k := 4) HA1.out (by omega)).trans ((T0.out.later (k := 4) HA1.out (by omega)).trans HX.out.c4))))
  have d4 : W3.cell? ⟨h, q + 4, none⟩ = some (.int .u64 (y4 : Nat)) := ((T3.out.later (k := 4) HA2.out (by omega)).trans ((T2.out.later (k := 4) HA2.out (by omega)).trans ((T1.out.later (k := 4) HA2.out (by omega)).trans ((T0.out.later (k := 4) HA2.out (by omega)).trans HY.out.c4))))
  have e4 : W3.cell? ⟨g, o + 4, none⟩ = some (.int .u64 (z4 : Nat)) := ((T3.out.other (k := 4) (by omega)).trans ((T2.out.other (k := 4) (by omega)).trans ((T1.out.other (k := 4) (by omega)).trans ((T0.out.other (k := 4) (by omega)).trans HZ.out.c4))))
  have f4 : W3.frozen? ⟨g, o + 4, none⟩ = false := ((T3.out.frozen _).trans (((T2.out.frozen _).trans (((T1.out.frozen _).trans (((T0.out.frozen _).trans (HF.out (o + 4)))))))))
  go_upto_region 6 with (fail)
  apply wp_point (R := fun s k w1 => SubC x4 y4 k3 s k ∧ k ≤ 1 ∧ Lim s ∧ Turn g (o + 4) (.int .u64 (s : Nat)) W3 w1)
  case h =>
    go_region_with (refine upon_sub _ _ _ hk3 _ la4 lb4 ?_; intro s4 k4 A4 hk4 ls4)
    all_goals
      go_simp
      exact ⟨s4, k4, ⟨A4, hk4, ls4, Turn.put e4 _⟩, rfl⟩
  rintro s4 k4 W4 ⟨A4, hk4, ls4, T4⟩
  replace T4 := Lib.hid T4
  have B4 := Lib.hid A4
  clear A4 c4 d4 e4 f4
  have c5 : W4.cell? ⟨f, p + 5, none⟩ = some (.int .u64 (x5 : Nat)) := ((T4.out.later (k := 5) HA1.out (by omega)).trans ((T3.out.later (k := 5) HA1.out (by omega)).trans ((T2.out.later (k := 5) HA1.out (by omega)).trans ((T1.out.later (k := 5) HA1.out (by omega)).trans ((T0.out.later (k := 5) HA1.out (by omega)).trans HX.out.c5)))))
  have d5 : W4.cell? ⟨h, q + 5, none⟩ = some (.int .u64 (y5 : Nat)) := ((T4.out.later (k := 5) HA2.out (by omega)).trans ((T3.out.later (k := 5) HA2.out (by omega)).trans ((T2.out.later (k := 5) HA2.out (by omega)).trans ((T1.out.later (k := 5) HA2.out (by omega)).trans ((T0.out.later (k := 5) HA2.out (by omega)).trans HY.out.c5)))))
  have e5 : W4.cell? ⟨g, o + 5, none⟩ = some (.int .u64 (z5 : Nat)) := ((T4.out.other (k := 5) (by omega)).trans ((T3.out.other (k := 5) (by omega)).trans ((T2.out.other (k := 5) (by omega)).trans ((T1.out.other (k := 5) (by omega)).trans ((T0.out.other (k := 5) (by omega)).trans HZ.out.c5)))))
  have f5 : W4.frozen? ⟨g, o + 5, none⟩ = false := ((T4.out.frozen _).trans (((T3.out.frozen _).trans (((T2.out.frozen _).trans (((T1.out.frozen _).trans (((T0.out.frozen _).trans (HF.out (o + 5)))))))))))
  go_upto_region 7 with (fail)
  apply wp_point (R := fun s k w1 => SubC x5 y5 k4 s k ∧ k ≤ 1 ∧ Lim s ∧ Turn g (o + 5) (.int .u64 (s : Nat)) W4 w1)
  case h =>
    go_region_with (refine upon_sub _ _ _ hk4 _ la5 lb5 ?_; intro s5 k5 A5 hk5 ls5)
    all_goals
      go_simp
      exact ⟨s5, k5, ⟨A5, hk5, ls5, Turn.put e5 _⟩, rfl⟩
  rintro s5 k5 W5 ⟨A5, hk5, ls5, T5⟩
  replace T5 := Lib.hid T5
  have B5 := Lib.hid A5
  clear A5 c5 d5 e5 f5
  have HM := Lib.hid (minus_math B0.out B1.out B2.out B3.out B4.out B5.out)
  have HS := Lib.hid (n6_lim (x0 := s0) (x1 := s1) (x2 := s2) (x3 := s3) (x4 := s4) (x5 := s5) ⟨ls0, ls1, ls2, ls3, ls4, ls5⟩)
  rw [← HA.out, ← HB.out] at HM
  have HLA := Lib.hid (n6_lim HLX.out)
  have HLB := Lib.hid (n6_lim HLY.out)
  rw [← HA.out] at HLA
  rw [← HB.out] at HLB
  clear HA HB
  have HD : Hid ((!decide (k5 = 0)) = decide (A < B)) := by
    have m := HM.out
    have l := HS.out
    have a := HLA.out
    have b := HLB.out
    show _ = _
    rcases (show k5 = 0 ∨ k5 = 1 by omega) with rfl | rfl
    · simp
      omega
    · simp
      omega
  have HR : Hid (MinusR A B (n6 s0 s1 s2 s3 s4 s5)) := by
    have m := HM.out
    have l := HS.out
    have a := HLA.out
    have b := HLB.out
    refine ⟨fun h => ?_, fun h => ?_⟩
    · rcases (show k5 = 0 ∨ k5 = 1 by omega) with rfl | rfl <;> omega
    · rcases (show k5 = 0 ∨ k5 = 1 by omega) with rfl | rfl <;> omega
  have HE : Hid (Put6 g o w W5) := ((((((Put6.refl g o w).turn T0.out (by omega)).turn T1.out (by omega)).turn T2.out (by omega)).turn T3.out (by omega)).turn T4.out (by omega)).turn T5.out (by omega)
  have HL : Hid (L6 W5 g o s0 s1 s2 s3 s4 s5) := ⟨(T5.out.other (k := 0) (by omega)).trans ((T4.out.other (k := 0) (by omega)).trans ((T3.out.other (k := 0) (by omega)).trans ((T2.out.other (k := 0) (by omega)).trans ((T1.out.other (k := 0) (by omega)).trans (T0.out.at_))))), (T5.out.other (k := 1) (by omega)).trans ((T4.out.other (k := 1) (by omega)).trans ((T3.out.other (k := 1) (by omega)).trans ((T2.out.other (k := 1) (by omega)).trans (T1.out.at_)))), (T5.out.other (k := 2) (by omega)).trans ((T4.out.other (k := 2) (by omega)).trans ((T3.out.other (k := 2) (by omega)).trans (T2.out.at_))), (T5.out.other (k := 3) (by omega)).trans ((T4.out.other (k := 3) (by omega)).trans (T3.out.at_)), (T5.out.other (k := 4) (by omega)).trans (T4.out.at_), T5.out.at_⟩
  clear HM HS HLA HLB
  go_simp
  go_wp2_with fail
  go_ret
  refine ⟨?_, HE.out, s0, s1, s2, s3, s4, s5, HL.out, ⟨ls0, ls1, ls2, ls3, ls4, ls5⟩, HR.out⟩
  rw [← HD.out]
  simp
  rcases (show k5 = 0 ∨ k5 = 1 by omega) with rfl | rfl <;> rfl
end Go.Proofs.YteaafnjflghlhaaDoor
