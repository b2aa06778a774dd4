/- The contracts of package word's negative, neg and size. -/
import Derived.Test.YtihffojljbgpcaaCmp
import Derived.Test.YtihffojljbgpcaaWordDiv2
namespace Go.Proofs.Ytihffojljbgpcaa
open Go.RowKit

set_option maxRecDepth 100000 in
set_option maxHeartbeats 1000000 in
theorem negative_c {a0 a1 a2 a3 a : Nat} (ha : IsW a0 a1 a2 a3 a) (w : World) :
    Calls Try.prog 117 #[W4 a0 a1 a2 a3] w (RetV (.bool (decide (57896044618658097711785492504343953926634992332820282019728792003956564819968 ≤ a))) w) := by
  have hn : ((a3 : Int) / 9223372036854775808 == 1) = decide (57896044618658097711785492504343953926634992332820282019728792003956564819968 ≤ a) := by
    obtain ⟨l0, l1, l2, l3, rfl⟩ := ha
    rw [Bool.eq_iff_iff]
    simp only [beq_iff_eq, decide_eq_true_eq]
    omega
  obtain ⟨la0, la1, la2, la3⟩ := ha.lims
  go_enter Try.func117, Try.ntmps117
  go_wp2_with fail
  refine bodyPost_ret (v := .bool (decide (57896044618658097711785492504343953926634992332820282019728792003956564819968 ≤ a))) (by simp [results, Try.results117, go_sem]) rfl ⟨rfl, ?_⟩
  repeat (first | exact Below.refl _ _ | refine Below.setCell ?_ (by simp; try omega) _ | refine Below.alloc ?_ (by simp; try omega) _)

theorem start2 (w : World) (t : TypeId) (a0 a1 a2 a3 : Nat) (X : World)
    (hX : X = (w.alloc (.cells #[.int .u64 (a0 : Nat), .int .u64 (a1 : Nat), .int .u64 (a2 : Nat), .int .u64 (a3 : Nat)] t)).alloc (.cells #[.int .u64 0, .int .u64 0, .int .u64 0, .int .u64 0] t)) :
    Arr X w.heap.size t [a0, a1, a2, a3] ∧ Arr X (w.heap.size + 1) t [0, 0, 0, 0] ∧ X.heap.size = w.heap.size + 1 + 1 ∧ Below w.heap.size w X := by
  subst hX
  refine ⟨(Arr.new4 w t a0 a1 a2 a3).alloc _, ?_, by simp, ((Below.refl _ _).alloc (Nat.le_refl _) _).alloc (by simp) _⟩
  have h := Arr.new4z (w.alloc (.cells #[.int .u64 (a0 : Nat), .int .u64 (a1 : Nat), .int .u64 (a2 : Nat), .int .u64 (a3 : Nat)] t)) t
  simpa using h

set_option maxRecDepth 100000 in
set_option maxHeartbeats 1000000 in
theorem neg_c {a0 a1 a2 a3 a : Nat} (ha : IsW a0 a1 a2 a3 a) (w : World) :
    Calls Try.prog 118 #[W4 a0 a1 a2 a3] w (RetW ((115792089237316195423570985008687907853269984665640564039457584007913129639936 - a) % 115792089237316195423570985008687907853269984665640564039457584007913129639936) w) := by
  obtain ⟨R, hR⟩ : ∃ R, R = (115792089237316195423570985008687907853269984665640564039457584007913129639936 - a) % 115792089237316195423570985008687907853269984665640564039457584007913129639936 := ⟨_, rfl⟩
  rw [← hR]
  have z4 : IsW 0 0 0 0 0 := by refine ⟨?_, ?_, ?_, ?_, ?_⟩ <;> (first | rfl | decide)
  have hS : ∀ w, Calls Try.prog 40 #[.agg #[.int .u64 0, .int .u64 0, .int .u64 0, .int .u64 0], .agg #[.int .u64 (a0 : Nat), .int .u64 (a1 : Nat), .int .u64 (a2 : Nat), .int .u64 (a3 : Nat)]] w (RetW R w) := fun w => by
    have h := sub_c z4 ha w
    rw [Nat.add_zero, ← hR] at h
    exact h
  have HS := Lib.hid hS
  clear hS z4 ha hR
  go_enter Try.func118, Try.ntmps118
  go_wp2_with fail
  obtain ⟨gA, gR, gS, gW⟩ := start2 w 24 a0 a1 a2 a3 _ rfl
  generalize (w.alloc (.cells #[.int .u64 (a0 : Nat), .int .u64 (a1 : Nat), .int .u64 (a2 : Nat), .int .u64 (a3 : Nat)] 24)).alloc (.cells #[.int .u64 0, .int .u64 0, .int .u64 0, .int .u64 0] 24) = X at *
  (with_reducible refine (HS.out _).mono ?_)
  rintro e w1 ⟨s0, s1, s2, s3, rfl, hs, hb⟩
  have kR := gR.below hb gR.lt
  have kW := gW.trans (hb.mono (by omega))
  obtain ⟨y0, y1, y2, y3⟩ := kR.cells4
  obtain ⟨f0, f1, f2, f3⟩ := kR.free4
  clear gA gR
  go_wp2_with fail
  have k4 := kR.put4 s0 s1 s2 s3
  have hB2 := below_put4 kW (f := w.heap.size + 1) (by omega) (.int .u64 (s0 : Int)) (.int .u64 (s1 : Int)) (.int .u64 (s2 : Int)) (.int .u64 (s3 : Int))
  clear y0 y1 y2 y3 f0 f1 f2 f3
  obtain ⟨z0, z1, z2, z3⟩ := k4.cells4
  exact bodyPost_ret (v := W4 s0 s1 s2 s3) (by simp [results, Try.results118, go_sem, z0, z1, z2, z3]) rfl ⟨s0, s1, s2, s3, rfl, hs, hB2⟩

set_option maxRecDepth 100000 in
set_option maxHeartbeats 1000000 in
theorem size_c {a0 a1 a2 a3 a : Nat} (ha : IsW a0 a1 a2 a3 a) (w : World) :
    Calls Try.prog 116 #[W4 a0 a1 a2 a3] w (RetW (if 57896044618658097711785492504343953926634992332820282019728792003956564819968 ≤ a then 115792089237316195423570985008687907853269984665640564039457584007913129639936 - a else a) w) := by
  obtain ⟨R, hR⟩ : ∃ R, R = if 57896044618658097711785492504343953926634992332820282019728792003956564819968 ≤ a then 115792089237316195423570985008687907853269984665640564039457584007913129639936 - a else a := ⟨_, rfl⟩
  obtain ⟨t, ht⟩ : ∃ t, t = decide (57896044618658097711785492504343953926634992332820282019728792003956564819968 ≤ a) := ⟨_, rfl⟩
  rw [← hR]
  have hA := ha.big
  have hN : ∀ w, Calls Try.prog 117 #[.agg #[.int .u64 (a0 : Nat), .int .u64 (a1 : Nat), .int .u64 (a2 : Nat), .int .u64 (a3 : Nat)]] w (RetV (.bool t) w) := fun w => by
    have h := negative_c ha w
    rw [← ht] at h
    exact h
  have hM : t = true → ∀ w, Calls Try.prog 118 #[.agg #[.int .u64 (a0 : Nat), .int .u64 (a1 : Nat), .int .u64 (a2 : Nat), .int .u64 (a3 : Nat)]] w (RetW R w) := fun e w => by
    have h := neg_c ha w
    have hl : 57896044618658097711785492504343953926634992332820282019728792003956564819968 ≤ a := by rw [e] at ht; exact of_decide_eq_true ht.symm
    rw [if_pos hl] at hR
    rw [Nat.mod_eq_of_lt (by omega), ← hR] at h
    exact h
  have hF : t = false → IsW a0 a1 a2 a3 R := fun e => by
    have hl : ¬ 57896044618658097711785492504343953926634992332820282019728792003956564819968 ≤ a := by rw [e] at ht; exact of_decide_eq_false ht.symm
    rw [if_neg hl] at hR
    rw [hR]; exact ha
  have HN := Lib.hid hN
  have HM := Lib.hid hM
  have HF := Lib.hid hF
  clear hN hM hF ha hR ht hA
  go_enter Try.func116, Try.ntmps116
  go_wp2_with fail
  obtain ⟨gA, gR, gS, gW⟩ := start2 w 24 a0 a1 a2 a3 _ rfl
  generalize (w.alloc (.cells #[.int .u64 (a0 : Nat), .int .u64 (a1 : Nat), .int .u64 (a2 : Nat), .int .u64 (a3 : Nat)] 24)).alloc (.cells #[.int .u64 0, .int .u64 0, .int .u64 0, .int .u64 0] 24) = X at *
  obtain ⟨x0, x1, x2, x3⟩ := gA.cells4
  try go_wp2_with fail
  clear x0 x1 x2 x3
  (with_reducible refine (HN.out _).mono ?_)
  rintro e w1 ⟨rfl, hb⟩
  have gA := gA.below hb gA.lt
  have kR := gR.below hb gR.lt
  have kW := gW.trans (hb.mono (by omega))
  have hz := hb.size
  clear gR gW
  obtain ⟨x0, x1, x2, x3⟩ := gA.cells4
  obtain ⟨y0, y1, y2, y3⟩ := kR.cells4
  obtain ⟨f0, f1, f2, f3⟩ := kR.free4
  cases t with
  | true =>
    go_wp2_with fail
    (with_reducible refine (HM.out trivial _).mono ?_)
    rintro e w2 ⟨s0, s1, s2, s3, rfl, hs, hb2⟩
    clear x0 x1 x2 x3 y0 y1 y2 y3 f0 f1 f2 f3
    have lR := kR.below hb2 kR.lt
    have lW := kW.trans (hb2.mono (by omega))
    obtain ⟨y0, y1, y2, y3⟩ := lR.cells4
    obtain ⟨f0, f1, f2, f3⟩ := lR.free4
    go_wp2_with fail
    have k4 := lR.put4 s0 s1 s2 s3
    have hB2 := below_put4 lW (f := w.heap.size + 1) (by omega) (.int .u64 (s0 : Int)) (.int .u64 (s1 : Int)) (.int .u64 (s2 : Int)) (.int .u64 (s3 : Int))
    clear y0 y1 y2 y3 f0 f1 f2 f3
    obtain ⟨z0, z1, z2, z3⟩ := k4.cells4
    exact bodyPost_ret (v := W4 s0 s1 s2 s3) (by simp [results, Try.results116, go_sem, z0, z1, z2, z3]) rfl ⟨s0, s1, s2, s3, rfl, hs, hB2⟩
  | false =>
    go_wp2_with fail
    have k4 := kR.put4 a0 a1 a2 a3
    have hB2 := below_put4 kW (f := w.heap.size + 1) (by omega) (.int .u64 (a0 : Int)) (.int .u64 (a1 : Int)) (.int .u64 (a2 : Int)) (.int .u64 (a3 : Int))
    clear x0 x1 x2 x3 y0 y1 y2 y3 f0 f1 f2 f3
    obtain ⟨z0, z1, z2, z3⟩ := k4.cells4
    exact bodyPost_ret (v := W4 a0 a1 a2 a3) (by simp [results, Try.results116, go_sem, z0, z1, z2, z3]) rfl ⟨a0, a1, a2, a3, rfl, HF.out trivial, hB2⟩
end Go.Proofs.Ytihffojljbgpcaa
