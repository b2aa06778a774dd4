/- Numbers of six limbs in memory; package field's line. -/
import Derived.Test.YteaafnjflghlhaaDoorWordLeaf
namespace Go.Proofs.YteaafnjflghlhaaDoor
open Go.RowKit

/-- Six limbs from a place on. -/
structure L6 (w : World) (g o : Nat) (x0 x1 x2 x3 x4 x5 : Nat) : Prop where
  c0 : w.cell? ⟨g, o, none⟩ = some (.int .u64 (x0 : Nat))
  c1 : w.cell? ⟨g, o + 1, none⟩ = some (.int .u64 (x1 : Nat))
  c2 : w.cell? ⟨g, o + 2, none⟩ = some (.int .u64 (x2 : Nat))
  c3 : w.cell? ⟨g, o + 3, none⟩ = some (.int .u64 (x3 : Nat))
  c4 : w.cell? ⟨g, o + 4, none⟩ = some (.int .u64 (x4 : Nat))
  c5 : w.cell? ⟨g, o + 5, none⟩ = some (.int .u64 (x5 : Nat))
/-- The number of six limbs. -/
def n6 (x0 x1 x2 x3 x4 x5 : Nat) : Nat := x0 + 18446744073709551616 * (x1 + 18446744073709551616 * (x2 + 18446744073709551616 * (x3 + 18446744073709551616 * (x4 + 18446744073709551616 * x5))))
def Lim6 (x0 x1 x2 x3 x4 x5 : Nat) : Prop := Lim x0 ∧ Lim x1 ∧ Lim x2 ∧ Lim x3 ∧ Lim x4 ∧ Lim x5
/-- What line tells: seven limbs of a product. -/
def LineR (d n : Nat) (w : World) (e : Ending) (w' : World) : Prop := ∃ l0 l1 l2 l3 l4 l5 l6 : Nat, e = .returned (.tuple #[.int .u64 (l0 : Nat), .int .u64 (l1 : Nat), .int .u64 (l2 : Nat), .int .u64 (l3 : Nat), .int .u64 (l4 : Nat), .int .u64 (l5 : Nat), .int .u64 (l6 : Nat)]) ∧
  Lim l0 ∧ Lim l1 ∧ Lim l2 ∧ Lim l3 ∧ Lim l4 ∧ Lim l5 ∧ Lim l6 ∧ l0 + 18446744073709551616 * n6 l1 l2 l3 l4 l5 l6 = d * n ∧ w = w'

theorem line_math {d a0 a1 a2 a3 a4 a5 l0 l1 l2 l3 l4 l5 h0 h1 h2 h3 h4 h5 s1 s2 s3 s4 s5 k1 k2 k3 k4 k5 : Nat}
    (m0 : l0 + 18446744073709551616 * h0 = d * a0) (m1 : l1 + 18446744073709551616 * h1 = d * a1) (m2 : l2 + 18446744073709551616 * h2 = d * a2) (m3 : l3 + 18446744073709551616 * h3 = d * a3) (m4 : l4 + 18446744073709551616 * h4 = d * a4) (m5 : l5 + 18446744073709551616 * h5 = d * a5)
    (A1 : AddC l1 h0 0 s1 k1) (A2 : AddC l2 h1 k1 s2 k2) (A3 : AddC l3 h2 k2 s3 k3) (A4 : AddC l4 h3 k3 s4 k4) (A5 : AddC l5 h4 k4 s5 k5) :
    l0 + 18446744073709551616 * n6 s1 s2 s3 s4 s5 (h5 + k5) = d * n6 a0 a1 a2 a3 a4 a5 := by
  obtain ⟨e1, -, -⟩ := A1
  obtain ⟨e2, -, -⟩ := A2
  obtain ⟨e3, -, -⟩ := A3
  obtain ⟨e4, -, -⟩ := A4
  obtain ⟨e5, -, -⟩ := A5
  unfold n6
  have r : ∀ x y, d * (x + 18446744073709551616 * y) = d * x + 18446744073709551616 * (d * y) := fun x y => by rw [Nat.mul_add, Nat.mul_left_comm]
  rw [r, r, r, r, r, ← m0, ← m1, ← m2, ← m3, ← m4, ← m5]
  generalize d * a0 = p0 at *
  have t5 : s5 + 18446744073709551616 * (h5 + k5) = l5 + 18446744073709551616 * h5 + h4 + k4 := by omega
  generalize s5 + 18446744073709551616 * (h5 + k5) = u5 at *
  have t4 : s4 + 18446744073709551616 * u5 = l4 + 18446744073709551616 * h4 + 18446744073709551616 * (l5 + 18446744073709551616 * h5) + h3 + k3 := by omega
  generalize s4 + 18446744073709551616 * u5 = u4 at *
  generalize l5 + 18446744073709551616 * h5 = q5 at *
  have e : l4 + 18446744073709551616 * h4 + 18446744073709551616 * q5 = (l4 + 18446744073709551616 * h4) + 18446744073709551616 * q5 := rfl
  generalize hq4 : l4 + 18446744073709551616 * h4 + 18446744073709551616 * q5 = q4 at *
  have t3 : s3 + 18446744073709551616 * u4 = l3 + 18446744073709551616 * h3 + 18446744073709551616 * q4 + h2 + k2 := by omega
  generalize s3 + 18446744073709551616 * u4 = u3 at *
  generalize hq3 : l3 + 18446744073709551616 * h3 + 18446744073709551616 * q4 = q3 at *
  have t2 : s2 + 18446744073709551616 * u3 = l2 + 18446744073709551616 * h2 + 18446744073709551616 * q3 + h1 + k1 := by omega
  generalize s2 + 18446744073709551616 * u3 = u2 at *
  generalize hq2 : l2 + 18446744073709551616 * h2 + 18446744073709551616 * q3 = q2 at *
  have t1 : s1 + 18446744073709551616 * u2 = l1 + 18446744073709551616 * h1 + 18446744073709551616 * q2 + h0 := by omega
  generalize s1 + 18446744073709551616 * u2 = u1 at *
  omega

set_option maxRecDepth 100000 in
set_option maxHeartbeats 3200000 in
theorem line_c {g o d a0 a1 a2 a3 a4 a5 : Nat} (w : World) (hd : Lim d) (h : L6 w g o a0 a1 a2 a3 a4 a5) (hl : Lim6 a0 a1 a2 a3 a4 a5) :
    Calls Tryd.prog 58 #[.int .u64 (d : Nat), .pointer (some ⟨g, o, none⟩)] w (LineR d (n6 a0 a1 a2 a3 a4 a5) w) := by
  obtain ⟨la0, la1, la2, la3, la4, la5⟩ := hl
  obtain ⟨c0, c1, c2, c3, c4, c5⟩ := h
  go_enter Tryd.func58, Tryd.ntmps58
  go_wp2_with fail
  refine (mul64_c d a0 hd la0 _).mono ?_
  rintro e w1 ⟨h0, l0, rfl, hP0, rfl⟩
  have HP0 := Lib.hid hP0
  clear hP0
  go_wp2_with fail
  refine (mul64_c d a1 hd la1 _).mono ?_
  rintro e w1 ⟨h1, l1, rfl, hP1, rfl⟩
  have HP1 := Lib.hid hP1
  clear hP1
  go_wp2_with fail
  refine (mul64_c d a2 hd la2 _).mono ?_
  rintro e w1 ⟨h2, l2, rfl, hP2, rfl⟩
  have HP2 := Lib.hid hP2
  clear hP2
  go_wp2_with fail
  refine (mul64_c d a3 hd la3 _).mono ?_
  rintro e w1 ⟨h3, l3, rfl, hP3, rfl⟩
  have HP3 := Lib.hid hP3
  clear hP3
  go_wp2_with fail
  refine (mul64_c d a4 hd la4 _).mono ?_
  rintro e w1 ⟨h4, l4, rfl, hP4, rfl⟩
  have HP4 := Lib.hid hP4
  clear hP4
  go_wp2_with fail
  refine (mul64_c d a5 hd la5 _).mono ?_
  rintro e w1 ⟨h5, l5, rfl, hP5, rfl⟩
  have HP5 := Lib.hid hP5
  clear hP5 c0 c1 c2 c3 c4 c5
  have lim : ∀ {x h l : Nat}, Hid (l + 18446744073709551616 * h = x ∧ l < 18446744073709551616 ∧ h ≤ 18446744073709551614) → Lim l ∧ Lim h := fun H => ⟨H.out.2.1, Nat.lt_of_le_of_lt H.out.2.2 (by decide)⟩
  go_wp2_with fail
  refine upon_add0 _ _ _ (lim HP1).1 (lim HP0).2 ?_
  intro s1 k1 A1 hk1 ls1
  have B1 := Lib.hid A1
  clear A1
  go_wp2_with fail
  refine upon_add _ _ _ hk1 _ (lim HP2).1 (lim HP1).2 ?_
  intro s2 k2 A2 hk2 ls2
  have B2 := Lib.hid A2
  clear A2
  go_wp2_with fail
  refine upon_add _ _ _ hk2 _ (lim HP3).1 (lim HP2).2 ?_
  intro s3 k3 A3 hk3 ls3
  have B3 := Lib.hid A3
  clear A3
  go_wp2_with fail
  refine upon_add _ _ _ hk3 _ (lim HP4).1 (lim HP3).2 ?_
  intro s4 k4 A4 hk4 ls4
  have B4 := Lib.hid A4
  clear A4
  go_wp2_with fail
  refine upon_add _ _ _ hk4 _ (lim HP5).1 (lim HP4).2 ?_
  intro s5 k5 A5 hk5 ls5
  have B5 := Lib.hid A5
  clear A5
  have hw : IntKind.u64.wrap ((h5 : Int) + (k5 : Int)) = ((h5 + k5 : Nat) : Int) := by rw [addN, wrapN _ (by have := HP5.out; omega)]
  go_wp2_with fail
  refine bodyPost_ret (v := .tuple #[.int .u64 (l0 : Nat), .int .u64 (s1 : Nat), .int .u64 (s2 : Nat), .int .u64 (s3 : Nat), .int .u64 (s4 : Nat), .int .u64 (s5 : Nat), .int .u64 ((h5 + k5 : Nat) : Int)]) (by simp [results, Tryd.results58, go_sem]) rfl ?_
  exact ⟨l0, s1, s2, s3, s4, s5, h5 + k5, rfl, (lim HP0).1, ls1, ls2, ls3, ls4, ls5, by have := HP5.out; unfold Lim; omega, line_math HP0.out.1 HP1.out.1 HP2.out.1 HP3.out.1 HP4.out.1 HP5.out.1 B1.out B2.out B3.out B4.out B5.out, rfl⟩
end Go.Proofs.YteaafnjflghlhaaDoor
