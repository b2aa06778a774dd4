/- Package field's half. -/
import Derived.Test.YteaafnjflghlhaaDoorFlPlus
import Derived.Test.YteaafnjflghlhaaDoorNDown
import Derived.Test.YteaafnjflghlhaaDoorFlSum
namespace Go.Proofs.YteaafnjflghlhaaDoor
open Go.RowKit

theorem half_limb {x y : Nat} (hx : Lim x) : bits .or .u64 ((x / 2 : Nat) : Int) ((y % 2 * 9223372036854775808 : Nat) : Int) = ((x / 2 + y % 2 * 9223372036854775808 : Nat) : Int) ∧ Lim (x / 2 + y % 2 * 9223372036854775808) := by
  unfold Lim at hx ⊢
  have h := Nat.mod_lt y (show 2 > 0 by omega)
  refine ⟨?_, by omega⟩
  have e : y % 2 * 9223372036854775808 = 2 ^ 63 * (y % 2) := by omega
  rw [bits_or_u64_nat _ _ (by omega) (by omega), e, Nat.add_comm, Nat.two_pow_add_eq_or_of_lt (show x / 2 < 2 ^ 63 by omega), Nat.or_comm]
theorem half_math {x0 x1 x2 x3 x4 x5 : Nat} : n6 (x0 / 2 + x1 % 2 * 9223372036854775808) (x1 / 2 + x2 % 2 * 9223372036854775808) (x2 / 2 + x3 % 2 * 9223372036854775808) (x3 / 2 + x4 % 2 * 9223372036854775808) (x4 / 2 + x5 % 2 * 9223372036854775808) (x5 / 2) = n6 x0 x1 x2 x3 x4 x5 / 2 := by
  unfold n6
  omega

set_option maxRecDepth 100000 in
set_option maxHeartbeats 6400000 in
theorem fhalve_c {g o x0 x1 x2 x3 x4 x5 : Nat} (w : World) (hx : L6 w g o x0 x1 x2 x3 x4 x5) (lx : Lim6 x0 x1 x2 x3 x4 x5) (hf : ∀ k, w.frozen? ⟨g, k, none⟩ = false) :
    Calls Tryd.prog 54 #[.pointer (some ⟨g, o, none⟩)] w fun e w' => e = .returned (.tuple #[]) ∧ Put6 g o w w' ∧
      ∃ s0 s1 s2 s3 s4 s5, L6 w' g o s0 s1 s2 s3 s4 s5 ∧ Lim6 s0 s1 s2 s3 s4 s5 ∧ n6 s0 s1 s2 s3 s4 s5 = n6 x0 x1 x2 x3 x4 x5 / 2 := by
  have HLX := Lib.hid lx
  obtain ⟨la0, la1, la2, la3, la4, la5⟩ := lx
  have HX := Lib.hid hx
  have HF := Lib.hid hf
  clear hx hf
  go_enter Tryd.func54, Tryd.ntmps54
  have c0 : w.cell? ⟨g, o, none⟩ = some (.int .u64 (x0 : Nat)) := HX.out.c0
  have d0 : w.cell? ⟨g, o + 1, none⟩ = some (.int .u64 (x1 : Nat)) := HX.out.c1
  have f0 : w.frozen? ⟨g, o, none⟩ = false := HF.out (o)
  obtain ⟨s0, hs0⟩ : ∃ s, s = x0 / 2 + x1 % 2 * 9223372036854775808 := ⟨_, rfl⟩
  obtain ⟨u0, hu0⟩ : ∃ u, u = x0 / 2 := ⟨_, rfl⟩
  have vu0 : (x0 : Int) / 2 = (u0 : Int) := by rw [hu0]; simp
  obtain ⟨v0, hv0⟩ : ∃ v, v = x1 % 2 * 9223372036854775808 := ⟨_, rfl⟩
  have vv0 : IntKind.u64.wrap ((x1 : Int) * 9223372036854775808) = (v0 : Int) := by
    have e : ((x1 : Int) * 9223372036854775808) = ((x1 * 9223372036854775808 : Nat) : Int) := by simp
    rw [e, wrapU, hv0]
    congr 1
    omega
  have vo0 : bits .or .u64 (u0 : Int) (v0 : Int) = (s0 : Int) := by rw [hs0, hu0, hv0]; exact (half_limb (y := x1) la0).1
  have ls0 : Hid (Lim s0) := by rw [hs0]; exact (half_limb (y := x1) la0).2
  replace hs0 := Lib.hid hs0
  clear hu0 hv0
  go_upto_region 0 with (fail)
  apply wp_point (R := fun s _ w1 => s = s0 ∧ Turn g (o + 0) (.int .u64 (s0 : Nat)) w w1)
  case h =>
    go_region
    all_goals
      go_simp
      obtain ⟨s, k, es, -⟩ : ∃ s k : Nat, s = s0 ∧ k = 0 := ⟨_, _, rfl, rfl⟩
      exact ⟨s, k, ⟨es, Turn.put c0 _⟩, rfl⟩
  rintro - - W0 ⟨-, T0⟩
  replace T0 := Lib.hid T0
  clear c0 d0 f0 vu0 vv0 vo0
  have c1 : W0.cell? ⟨g, o + 1, none⟩ = some (.int .u64 (x1 : Nat)) := ((T0.out.other (k := 1) (by omega)).trans HX.out.c1)
  have d1 : W0.cell? ⟨g, o + 2, none⟩ = some (.int .u64 (x2 : Nat)) := ((T0.out.other (k := 2) (by omega)).trans HX.out.c2)
  have f1 : W0.frozen? ⟨g, o + 1, none⟩ = false := ((T0.out.frozen _).trans (HF.out (o + 1)))
  obtain ⟨s1, hs1⟩ : ∃ s, s = x1 / 2 + x2 % 2 * 9223372036854775808 := ⟨_, rfl⟩
  obtain ⟨u1, hu1⟩ : ∃ u, u = x1 / 2 := ⟨_, rfl⟩
  have vu1 : (x1 : Int) / 2 = (u1 : Int) := by rw [hu1]; simp
  obtain ⟨v1, hv1⟩ : ∃ v, v = x2 % 2 * 9223372036854775808 := ⟨_, rfl⟩
  have vv1 : IntKind.u64.wrap ((x2 : Int) * 9223372036854775808) = (v1 : Int) := by
    have e : ((x2 : Int) * 9223372036854775808) = ((x2 * 9223372036854775808 : Nat) : Int) := by simp
    rw [e, wrapU, hv1]
    congr 1
    omega
  have vo1 : bits .or .u64 (u1 : Int) (v1 : Int) = (s1 : Int) := by rw [hs1, hu1, hv1]; exact (half_limb (y := x2) la1).1
  have ls1 : Hid (Lim s1) := by rw [hs1]; exact (half_limb (y := x2) la1).2
  replace hs1 := Lib.hid hs1
  clear hu1 hv1
  go_upto_region 1 with (fail)
  apply wp_point (R := fun s _ w1 => s = s1 ∧ Turn g (o + 1) (.int .u64 (s1 : Nat)) W0 w1)
  case h =>
    go_region
    all_goals
      go_simp
      obtain ⟨s, k, es, -⟩ : ∃ s k : Nat, s = s1 ∧ k = 0 := ⟨_, _, rfl, rfl⟩
      exact ⟨s, k, ⟨es, Turn.put c1 _⟩, rfl⟩
  rintro - - W1 ⟨-, T1⟩
  replace T1 := Lib.hid T1
  clear c1 d1 f1 vu1 vv1 vo1
  have c2 : W1.cell? ⟨g, o + 2, none⟩ = some (.int .u64 (x2 : Nat)) := ((T1.out.other (k := 2) (by omega)).trans ((T0.out.other (k := 2) (by omega)).trans HX.out.c2))
  have d2 : W1.cell? ⟨g, o + 3, none⟩ = some (.int .u64 (x3 : Nat)) := ((T1.out.other (k := 3) (by omega)).trans ((T0.out.other (k := 3) (by omega)).trans HX.out.c3))
  have f2 : W1.frozen? ⟨g, o + 2, none⟩ = false := ((T1.out.frozen _).trans (((T0.out.frozen _).trans (HF.out (o + 2)))))
  obtain ⟨s2, hs2⟩ : ∃ s, s = x2 / 2 + x3 % 2 * 9223372036854775808 := ⟨_, rfl⟩
  obtain ⟨u2, hu2⟩ : ∃ u, u = x2 / 2 := ⟨_, rfl⟩
  have vu2 : (x2 : Int) / 2 = (u2 : Int) := by rw [hu2]; simp
  obtain ⟨v2, hv2⟩ : ∃ v, v = x3 % 2 * 9223372036854775808 := ⟨_, rfl⟩
  have vv2 : IntKind.u64.wrap ((x3 : Int) * 9223372036854775808) = (v2 : Int) := by
    have e : ((x3 : Int) * 9223372036854775808) = ((x3 * 9223372036854775808 : Nat) : Int) := by simp
    rw [e, wrapU, hv2]
    congr 1
    omega
  have vo2 : bits .or .u64 (u2 : Int) (v2 : Int) = (s2 : Int) := by rw [hs2, hu2, hv2]; exact (half_limb (y := x3) la2).1
  have ls2 : Hid (Lim s2) := by rw [hs2]; exact (half_limb (y := x3) la2).2
  replace hs2 := Lib.hid hs2
  clear hu2 hv2
  go_upto_region 2 with (fail)
  apply wp_point (R := fun s _ w1 => s = s2 ∧ Turn g (o + 2) (.int .u64 (s2 : Nat)) W1 w1)
  case h =>
    go_region
    all_goals
      go_simp
      obtain ⟨s, k, es, -⟩ : ∃ s k : Nat, s = s2 ∧ k = 0 := ⟨_, _, rfl, rfl⟩
      exact ⟨s, k, ⟨es, Turn.put c2 _⟩, rfl⟩
  rintro - - W2 ⟨-, T2⟩
  replace T2 := Lib.hid T2
  clear c2 d2 f2 vu2 vv2 vo2
  have c3 : W2.cell? ⟨g, o + 3, none⟩ = some (.int .u64 (x3 : Nat)) := ((T2.out.other (k := 3) (by omega)).trans ((T1.out.other (k := 3) (by omega)).trans ((T0.out.other (k := 3) (by omega)).trans HX.out.c3)))
  have d3 : W2.cell? ⟨g, o + 4, none⟩ = some (.int .u64 (x4 : Nat)) := ((T2.out.other (k := 4) (by omega)).trans ((T1.out.other (k := 4) (by omega)).trans ((T0.out.other (k := 4) (by omega)).trans HX.out.c4)))
  have f3 : W2.frozen? ⟨g, o + 3, none⟩ = false := ((T2.out.frozen _).trans (((T1.out.frozen _).trans (((T0.out.frozen _).trans (HF.out (o + 3)))))))
  obtain ⟨s3, hs3⟩ : ∃ s, s = x3 / 2 + x4 % 2 * 9223372036854775808 := ⟨_, rfl⟩
  obtain ⟨u3, hu3⟩ : ∃ u, u = x3 / 2 := ⟨_, rfl⟩
  have vu3 : (x3 : Int) / 2 = (u3 : Int) := by rw [hu3]; simp
  obtain ⟨v3, hv3⟩ : ∃ v, v = x4 % 2 * 9223372036854775808 := ⟨_, rfl⟩
  have vv3 : IntKind.u64.wrap ((x4 : Int) * 9223372036854775808) = (v3 : Int) := by
    have e : ((x4 : Int) * 9223372036854775808) = ((x4 * 9223372036854775808 : Nat) : Int) := by simp
    rw [e, wrapU, hv3]
    congr 1
    omega
  have vo3 : bits .or .u64 (u3 : Int) (v3 : Int) = (s3 : Int) := by rw [hs3, hu3, hv3]; exact (half_limb (y := x4) la3).1
  have ls3 : Hid (Lim s3) := by rw [hs3]; exact (half_limb (y := x4) la3).2
  replace hs3 := Lib.hid hs3
  clear hu3 hv3
  go_upto_region 3 with (fail)
  apply wp_point (R := fun s _ w1 => s = s3 ∧ Turn g (o + 3) (.int .u64 (s3 : Nat)) W2 w1)
  case h =>
    go_region
    all_goals
      go_simp
      obtain ⟨s, k, es, -⟩ : ∃ s k : Nat, s = s3 ∧ k = 0 := ⟨_, _, rfl, rfl⟩
      exact ⟨s, k, ⟨es, Turn.put c3 _⟩, rfl⟩
  rintro - - W3 ⟨-, T3⟩
  replace T3 := Lib.hid T3
  clear c3 d3 f3 vu3 vv3 vo3
  have c4 : W3.cell? ⟨g, o + 4, none⟩ = some (.int .u64 (x4 : Nat)) := ((T3.out.other (k := 4) (by omega)).trans ((T2.out.other (k := 4) (by omega)).trans ((T1.out.other (k := 4) (by omega)).trans ((T0.out.other (k := 4) (by omega)).trans HX.out.c4))))
  have d4 : W3.cell? ⟨g, o + 5, none⟩ = some (.int .u64 (x5 : Nat)) := ((T3.out.other (k := 5) (by omega)).trans ((T2.out.other (k := 5) (by omega)).trans ((T1.out.other (k := 5) (by omega)).trans ((T0.out.other (k := 5) (by omega)).trans HX.out.c5))))
  have f4 : W3.frozen? ⟨g, o + 4, none⟩ = false := ((T3.out.frozen _).trans (((T2.out.frozen _).trans (((T1.out.frozen _).trans (((T0.out.frozen _).trans (HF.out (o + 4)))))))))
  obtain ⟨s4, hs4⟩ : ∃ s, s = x4 / 2 + x5 % 2 * 9223372036854775808 := ⟨_, rfl⟩
  obtain ⟨u4, hu4⟩ : ∃ u, u = x4 / 2 := ⟨_, rfl⟩
  have vu4 : (x4 : Int) / 2 = (u4 : Int) := by rw [hu4]; simp
  obtain ⟨v4, hv4⟩ : ∃ v, v = x5 % 2 * 9223372036854775808 := ⟨_, rfl⟩
  have vv4 : IntKind.u64.wrap ((x5 : Int) * 9223372036854775808) = (v4 : Int) := by
    have e : ((x5 : Int) * 9223372036854775808) = ((x5 * 9223372036854775808 : Nat) : Int) := by simp
    rw [e, wrapU, hv4]
    congr 1
    omega
  have vo4 : bits .or .u64 (u4 : Int) (v4 : Int) = (s4 : Int) := by rw [hs4, hu4, hv4]; exact (half_limb (y := x5) la4).1
  have ls4 : Hid (Lim s4) := by rw [hs4]; exact (half_limb (y := x5) la4).2
  replace hs4 := Lib.hid hs4
  clear hu4 hv4
  go_upto_region 4 with (fail)
  apply wp_point (R := fun s _ w1 => s = s4 ∧ Turn g (o + 4) (.int .u64 (s4 : Nat)) W3 w1)
  case h =>
    go_region
    all_goals
      go_simp
      obtain ⟨s, k, es, -⟩ : ∃ s k : Nat, s = s4 ∧ k = 0 := ⟨_, _, rfl, rfl⟩
      exact ⟨s, k, ⟨es, Turn.put c4 _⟩, rfl⟩
  rintro - - W4 ⟨-, T4⟩
  replace T4 := Lib.hid T4
  clear c4 d4 f4 vu4 vv4 vo4
  have c5 : W4.cell? ⟨g, o + 5, none⟩ = some (.int .u64 (x5 : Nat)) := ((T4.out.other (k := 5) (by omega)).trans ((T3.out.other (k := 5) (by omega)).trans ((T2.out.other (k := 5) (by omega)).trans ((T1.out.other (k := 5) (by omega)).trans ((T0.out.other (k := 5) (by omega)).trans HX.out.c5)))))
  have f5 : W4.frozen? ⟨g, o + 5, none⟩ = false := ((T4.out.frozen _).trans (((T3.out.frozen _).trans (((T2.out.frozen _).trans (((T1.out.frozen _).trans (((T0.out.frozen _).trans (HF.out (o + 5)))))))))))
  obtain ⟨s5, hs5⟩ : ∃ s, s = x5 / 2 := ⟨_, rfl⟩
  have vu5 : (x5 : Int) / 2 = (s5 : Int) := by rw [hs5]; simp
  have ls5 : Hid (Lim s5) := by rw [hs5]; exact Nat.lt_of_le_of_lt (Nat.div_le_self _ _) la5
  replace hs5 := Lib.hid hs5
  skip
  go_upto_region 5 with (fail)
  apply wp_point (R := fun s _ w1 => s = s5 ∧ Turn g (o + 5) (.int .u64 (s5 : Nat)) W4 w1)
  case h =>
    go_region
    all_goals
      go_simp
      obtain ⟨s, k, es, -⟩ : ∃ s k : Nat, s = s5 ∧ k = 0 := ⟨_, _, rfl, rfl⟩
      exact ⟨s, k, ⟨es, Turn.put c5 _⟩, rfl⟩
  rintro - - W5 ⟨-, T5⟩
  replace T5 := Lib.hid T5
  clear c5  f5 vu5 
  go_simp
  go_end0
  exact ⟨rfl, ((((((Put6.refl g o w).turn T0.out (by omega)).turn T1.out (by omega)).turn T2.out (by omega)).turn T3.out (by omega)).turn T4.out (by omega)).turn T5.out (by omega), s0, s1, s2, s3, s4, s5, ⟨(T5.out.other (k := 0) (by omega)).trans ((T4.out.other (k := 0) (by omega)).trans ((T3.out.other (k := 0) (by omega)).trans ((T2.out.other (k := 0) (by omega)).trans ((T1.out.other (k := 0) (by omega)).trans (T0.out.at_))))), (T5.out.other (k := 1) (by omega)).trans ((T4.out.other (k := 1) (by omega)).trans ((T3.out.other (k := 1) (by omega)).trans ((T2.out.other (k := 1) (by omega)).trans (T1.out.at_)))), (T5.out.other (k := 2) (by omega)).trans ((T4.out.other (k := 2) (by omega)).trans ((T3.out.other (k := 2) (by omega)).trans (T2.out.at_))), (T5.out.other (k := 3) (by omega)).trans ((T4.out.other (k := 3) (by omega)).trans (T3.out.at_)), (T5.out.other (k := 4) (by omega)).trans (T4.out.at_), T5.out.at_⟩, ⟨ls0.out, ls1.out, ls2.out, ls3.out, ls4.out, ls5.out⟩, by rw [hs0.out, hs1.out, hs2.out, hs3.out, hs4.out, hs5.out]; exact half_math⟩
end Go.Proofs.YteaafnjflghlhaaDoor
namespace Go.Proofs.YteaafnjflghlhaaDoor
open Go.RowKit

theorem n6_odd {x0 x1 x2 x3 x4 x5 : Nat} : n6 x0 x1 x2 x3 x4 x5 % 2 = x0 % 2 := by
  unfold n6
  omega

set_option maxRecDepth 100000 in
set_option maxHeartbeats 3200000 in
theorem fhalf_c {B O g o p0 p1 p2 p3 p4 p5 x0 x1 x2 x3 x4 x5 : Nat} (w : World) (hp : L6 w B O p0 p1 p2 p3 p4 p5) (lp : Lim6 p0 p1 p2 p3 p4 p5) (hx : L6 w g o x0 x1 x2 x3 x4 x5) (lx : Lim6 x0 x1 x2 x3 x4 x5) (hf : ∀ k, w.frozen? ⟨g, k, none⟩ = false) (hn : g ≠ B)
    (bx : n6 x0 x1 x2 x3 x4 x5 < n6 p0 p1 p2 p3 p4 p5) (bp : 2 * n6 p0 p1 p2 p3 p4 p5 ≤ 39402006196394479212279040100143613805079739270465446667948293404245721771497210611414266254884915640806627990306816) :
    Calls Tryd.prog 55 #[.pointer (some ⟨B, O, none⟩), .pointer (some ⟨g, o, none⟩)] w fun e w' => e = .returned (.tuple #[]) ∧ Put6 g o w w' ∧
      ∃ s0 s1 s2 s3 s4 s5, L6 w' g o s0 s1 s2 s3 s4 s5 ∧ Lim6 s0 s1 s2 s3 s4 s5 ∧ n6 s0 s1 s2 s3 s4 s5 = (n6 x0 x1 x2 x3 x4 x5 + n6 x0 x1 x2 x3 x4 x5 % 2 * n6 p0 p1 p2 p3 p4 p5) / 2 := by
  have c0 := hx.c0
  by_cases hodd : x0 % 2 = 1
  · have C1 := Lib.hid (fplus_c w hx hp lx lp ⟨_, _, _, _, _, _, hx⟩ hf (Or.inl ⟨rfl, rfl⟩) (Or.inr hn))
    have C2 : Hid (∀ (w' : World), Put6 g o w w' → ∀ s0 s1 s2 s3 s4 s5, L6 w' g o s0 s1 s2 s3 s4 s5 → Lim6 s0 s1 s2 s3 s4 s5 → _) := fun w' k s0 s1 s2 s3 s4 s5 hs ls => fhalve_c w' hs ls (fun j => (k.frozen j).trans (hf j))
    have HM : Hid (∀ s t, s = (n6 x0 x1 x2 x3 x4 x5 + n6 p0 p1 p2 p3 p4 p5) % 39402006196394479212279040100143613805079739270465446667948293404245721771497210611414266254884915640806627990306816 → t = s / 2 → t = (n6 x0 x1 x2 x3 x4 x5 + n6 x0 x1 x2 x3 x4 x5 % 2 * n6 p0 p1 p2 p3 p4 p5) / 2) := by
      show ∀ s t, _
      intro s t hs ht
      rw [n6_odd, hodd, Nat.one_mul, ht, hs, Nat.mod_eq_of_lt (by omega)]
    have hm : ((x0 : Int) % 2 == 1) = true := by
      have : (x0 : Int) % 2 = 1 := by omega
      rw [this]; rfl
    have ht : (x0 : Int).tmod 2 = 1 := by rw [Int.tmod_eq_emod_of_nonneg (by omega)]; omega
    have hm1 : (x0 : Int) % 2 = 1 := by omega
    clear hp lp hx lx hf hn bx bp hodd
    go_enter Tryd.func55, Tryd.ntmps55
    go_wp2_with fail
    (with_reducible refine (C1.out).mono ?_)
    rintro e w1 ⟨rfl, hput, s0, s1, s2, s3, s4, s5, hs, ls, hr⟩
    have HP := Lib.hid hput
    have HR := Lib.hid hr
    have C3 := Lib.hid (C2.out w1 hput s0 s1 s2 s3 s4 s5 hs ls)
    clear hs hput hr ls C2
    go_wp2_with fail
    (with_reducible refine (C3.out).mono ?_)
    rintro e w2 ⟨rfl, hput, t0, t1, t2, t3, t4, t5, hs, ls, hr⟩
    have HP2 := Lib.hid hput
    have HR2 := Lib.hid hr
    have HS := Lib.hid hs
    have HLS := Lib.hid ls
    clear hs hput hr ls C3
    go_wp2_with fail
    go_end0
    exact ⟨rfl, HP.out.trans HP2.out, _, _, _, _, _, _, HS.out, HLS.out, HM.out _ _ HR.out HR2.out⟩
  · have C1 := Lib.hid (fhalve_c w hx lx hf)
    have hm1 : (x0 : Int) % 2 = 0 := by omega
    have ht : (x0 : Int).tmod 2 = 0 := by rw [Int.tmod_eq_emod_of_nonneg (by omega)]; omega
    have HE : Hid (n6 x0 x1 x2 x3 x4 x5 / 2 = (n6 x0 x1 x2 x3 x4 x5 + n6 x0 x1 x2 x3 x4 x5 % 2 * n6 p0 p1 p2 p3 p4 p5) / 2) := by
      show _ = _
      rw [n6_odd, show x0 % 2 = 0 by omega, Nat.zero_mul, Nat.add_zero]
    clear hp lp hx lx hf hn bx bp hodd
    go_enter Tryd.func55, Tryd.ntmps55
    go_wp2_with fail
    (with_reducible refine (C1.out).mono ?_)
    rintro e w2 ⟨rfl, hput, t0, t1, t2, t3, t4, t5, hs, ls, hr⟩
    have HP2 := Lib.hid hput
    have HR2 := Lib.hid hr
    have HS := Lib.hid hs
    have HLS := Lib.hid ls
    clear hs hput hr ls
    go_wp2_with fail
    go_end0
    exact ⟨rfl, HP2.out, _, _, _, _, _, _, HS.out, HLS.out, HR2.out.trans HE.out⟩
end Go.Proofs.YteaafnjflghlhaaDoor
