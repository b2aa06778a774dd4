/- The contracts of package word's Addmod and Mulmod. -/
import Derived.Test.YtihffojljbgpcaaWordDiv2
import Derived.Test.YtihffojljbgpcaaProduct
import Derived.Test.YtihffojljbgpcaaWordMath
import Derived.Deep.DeepCutAuto
import Derived.Deep.RegionWith
namespace Go.Proofs.Ytihffojljbgpcaa
open Go.RowKit

/-- A function that boxes three words and lays the place of its result. -/
theorem start4 (w : World) (t : TypeId) (a0 a1 a2 a3 b0 b1 b2 b3 c0 c1 c2 c3 : Nat) (X : World)
    (hX : X = (((w.alloc (.cells #[.int .u64 (a0 : Nat), .int .u64 (a1 : Nat), .int .u64 (a2 : Nat), .int .u64 (a3 : Nat)] t)).alloc (.cells #[.int .u64 (b0 : Nat), .int .u64 (b1 : Nat), .int .u64 (b2 : Nat), .int .u64 (b3 : Nat)] t)).alloc (.cells #[.int .u64 (c0 : Nat), .int .u64 (c1 : Nat), .int .u64 (c2 : Nat), .int .u64 (c3 : Nat)] t)).alloc (.cells #[.int .u64 0, .int .u64 0, .int .u64 0, .int .u64 0] t)) :
    Arr X w.heap.size t [a0, a1, a2, a3] ∧ Arr X (w.heap.size + 1) t [b0, b1, b2, b3] ∧ Arr X (w.heap.size + 1 + 1) t [c0, c1, c2, c3] ∧ Arr X (w.heap.size + 1 + 1 + 1) t [0, 0, 0, 0] ∧ X.heap.size = w.heap.size + 1 + 1 + 1 + 1 ∧ Below w.heap.size w X := by
  subst hX
  refine ⟨(((Arr.new4 w t a0 a1 a2 a3).alloc _).alloc _).alloc _, ?_, ?_, ?_, by simp, ((((Below.refl _ _).alloc (Nat.le_refl _) _).alloc (by simp) _).alloc (by simp; omega) _).alloc (by simp; omega) _⟩
  · have h := ((Arr.new4 (w.alloc (.cells #[.int .u64 (a0 : Nat), .int .u64 (a1 : Nat), .int .u64 (a2 : Nat), .int .u64 (a3 : Nat)] t)) t b0 b1 b2 b3).alloc (.cells #[.int .u64 (c0 : Nat), .int .u64 (c1 : Nat), .int .u64 (c2 : Nat), .int .u64 (c3 : Nat)] t)).alloc (.cells #[.int .u64 0, .int .u64 0, .int .u64 0, .int .u64 0] t)
    simpa using h
  · have h := (Arr.new4 ((w.alloc (.cells #[.int .u64 (a0 : Nat), .int .u64 (a1 : Nat), .int .u64 (a2 : Nat), .int .u64 (a3 : Nat)] t)).alloc (.cells #[.int .u64 (b0 : Nat), .int .u64 (b1 : Nat), .int .u64 (b2 : Nat), .int .u64 (b3 : Nat)] t)) t c0 c1 c2 c3).alloc (.cells #[.int .u64 0, .int .u64 0, .int .u64 0, .int .u64 0] t)
    simpa using h
  · have h := Arr.new4z (((w.alloc (.cells #[.int .u64 (a0 : Nat), .int .u64 (a1 : Nat), .int .u64 (a2 : Nat), .int .u64 (a3 : Nat)] t)).alloc (.cells #[.int .u64 (b0 : Nat), .int .u64 (b1 : Nat), .int .u64 (b2 : Nat), .int .u64 (b3 : Nat)] t)).alloc (.cells #[.int .u64 (c0 : Nat), .int .u64 (c1 : Nat), .int .u64 (c2 : Nat), .int .u64 (c3 : Nat)] t)) t
    simpa using h

set_option maxRecDepth 100000 in
set_option maxHeartbeats 3200000 in
theorem addmod_c {a0 a1 a2 a3 b0 b1 b2 b3 c0 c1 c2 c3 a b c : Nat} (ha : IsW a0 a1 a2 a3 a) (hb : IsW b0 b1 b2 b3 b) (hc : IsW c0 c1 c2 c3 c) (w : World) :
    Calls Try.prog 52 #[W4 a0 a1 a2 a3, W4 b0 b1 b2 b3, W4 c0 c1 c2 c3] w (RetW (if c = 0 then 0 else (a + b) % c) w) := by
  obtain ⟨R, hR⟩ : ∃ R, R = if c = 0 then 0 else (a + b) % c := ⟨_, rfl⟩
  rw [← hR]
  have HR := Lib.hid hR
  clear hR
  go_enter Try.func52, Try.ntmps52
  go_wp2_with fail
  obtain ⟨gA, gB, gC, gR, gS, gW⟩ := start4 w 24 a0 a1 a2 a3 b0 b1 b2 b3 c0 c1 c2 c3 _ rfl
  generalize (((w.alloc (.cells #[.int .u64 (a0 : Nat), .int .u64 (a1 : Nat), .int .u64 (a2 : Nat), .int .u64 (a3 : Nat)] 24)).alloc (.cells #[.int .u64 (b0 : Nat), .int .u64 (b1 : Nat), .int .u64 (b2 : Nat), .int .u64 (b3 : Nat)] 24)).alloc (.cells #[.int .u64 (c0 : Nat), .int .u64 (c1 : Nat), .int .u64 (c2 : Nat), .int .u64 (c3 : Nat)] 24)).alloc (.cells #[.int .u64 0, .int .u64 0, .int .u64 0, .int .u64 0] 24) = X at *
  refine (plus_c ha hb X).mono ?_
  rintro e w1 ⟨s0, s1, s2, s3, k, rfl, hs, hk, hb1⟩
  have hk1 : k ≤ 1 := by
    rw [hk]
    have h1 := ha.big
    have h2 := hb.big
    unfold Big at h1 h2
    omega
  have lk : Lim k := by unfold Lim; omega
  have hlv : Lims [s0, s1, s2, s3, k, 0, 0, 0] ∧ vl [s0, s1, s2, s3, k, 0, 0, 0] = a + b := by
    have hv := hs.vals
    have hl := hs.limsList
    refine ⟨fun x hx => ?_, ?_⟩
    · simp at hx
      rcases hx with h | h | h | h | h | h
      · subst h; exact hl _ (by simp)
      · subst h; exact hl _ (by simp)
      · subst h; exact hl _ (by simp)
      · subst h; exact hl _ (by simp)
      · subst h; exact lk
      · subst h; unfold Lim; omega
    · have e := Nat.mod_add_div (a + b) 115792089237316195423570985008687907853269984665640564039457584007913129639936
      rw [hv, ← hk] at e
      simp only [vl] at e ⊢
      omega
  have HLV := Lib.hid hlv
  clear hlv hs hk hk1 lk ha hb
  have kC := gC.below hb1 gC.lt
  have kR := gR.below hb1 gR.lt
  have kW := gW.trans (hb1.mono (by omega))
  have hlt := kR.lt
  go_upto_region 2 with (fail)
  have nS := Arr.new4 w1 24 s0 s1 s2 s3
  have mC := kC.alloc (.cells #[.int .u64 (s0 : Nat), .int .u64 (s1 : Nat), .int .u64 (s2 : Nat), .int .u64 (s3 : Nat)] 24)
  have mR := kR.alloc (.cells #[.int .u64 (s0 : Nat), .int .u64 (s1 : Nat), .int .u64 (s2 : Nat), .int .u64 (s3 : Nat)] 24)
  have mW := kW.alloc (by omega) (.cells #[.int .u64 (s0 : Nat), .int .u64 (s1 : Nat), .int .u64 (s2 : Nat), .int .u64 (s3 : Nat)] 24)
  obtain ⟨g7, hg7⟩ : ∃ g, g = w1.heap.size := ⟨_, rfl⟩
  rw [← hg7] at nS ⊢
  clear gA gB gC gR gW kC kR kW hb1
  generalize w1.alloc (.cells #[.int .u64 (s0 : Nat), .int .u64 (s1 : Nat), .int .u64 (s2 : Nat), .int .u64 (s3 : Nat)] 24) = Y at *
  clear hg7 hlt
  obtain ⟨x0, x1, x2, x3⟩ := nS.cells4
  obtain ⟨y0, y1, y2, y3⟩ := mC.cells4
  have hD := divide_c HLV.out.1 hc Y
  rw [HLV.out.2, ← HR.out] at hD
  have HD := Lib.hid hD
  clear hD hc
  go_wp2_with fail
  refine HD.out.mono ?_
  rintro e w2 ⟨q0, q1, q2, q3, q4, q5, q6, q7, r0, r1, r2, r3, rfl, lq, hq, hr, hb2⟩
  have k1 := mR.below hb2 mR.lt
  have kW2 := mW.trans (hb2.mono mW.size)
  clear x0 x1 x2 x3 y0 y1 y2 y3 hq lq mC mR nS HD
  go_upto_region 3 with (fail)
  have k2 := (k1.alloc (.cells #[.int .u64 (q0 : Nat), .int .u64 (q1 : Nat), .int .u64 (q2 : Nat), .int .u64 (q3 : Nat), .int .u64 (q4 : Nat), .int .u64 (q5 : Nat), .int .u64 (q6 : Nat), .int .u64 (q7 : Nat)] 94)).alloc (.cells #[.int .u64 (r0 : Nat), .int .u64 (r1 : Nat), .int .u64 (r2 : Nat), .int .u64 (r3 : Nat)] 24)
  have nR := Arr.new4 (w2.alloc (.cells #[.int .u64 (q0 : Nat), .int .u64 (q1 : Nat), .int .u64 (q2 : Nat), .int .u64 (q3 : Nat), .int .u64 (q4 : Nat), .int .u64 (q5 : Nat), .int .u64 (q6 : Nat), .int .u64 (q7 : Nat)] 94)) 24 r0 r1 r2 r3
  rw [show (w2.alloc (.cells #[.int .u64 (q0 : Nat), .int .u64 (q1 : Nat), .int .u64 (q2 : Nat), .int .u64 (q3 : Nat), .int .u64 (q4 : Nat), .int .u64 (q5 : Nat), .int .u64 (q6 : Nat), .int .u64 (q7 : Nat)] 94)).heap.size = w2.heap.size + 1 by simp] at nR
  have kW3 := (kW2.alloc kW2.size (.cells #[.int .u64 (q0 : Nat), .int .u64 (q1 : Nat), .int .u64 (q2 : Nat), .int .u64 (q3 : Nat), .int .u64 (q4 : Nat), .int .u64 (q5 : Nat), .int .u64 (q6 : Nat), .int .u64 (q7 : Nat)] 94)).alloc (by have := kW2.size; simp; omega) (.cells #[.int .u64 (r0 : Nat), .int .u64 (r1 : Nat), .int .u64 (r2 : Nat), .int .u64 (r3 : Nat)] 24)
  obtain ⟨g9, hg9⟩ : ∃ g, g = w2.heap.size := ⟨_, rfl⟩
  rw [← hg9] at nR ⊢
  have hlt := k1.lt
  rw [← hg9] at hlt
  generalize (w2.alloc (.cells #[.int .u64 (q0 : Nat), .int .u64 (q1 : Nat), .int .u64 (q2 : Nat), .int .u64 (q3 : Nat), .int .u64 (q4 : Nat), .int .u64 (q5 : Nat), .int .u64 (q6 : Nat), .int .u64 (q7 : Nat)] 94)).alloc (.cells #[.int .u64 (r0 : Nat), .int .u64 (r1 : Nat), .int .u64 (r2 : Nat), .int .u64 (r3 : Nat)] 24) = Z at *
  clear hg9 k1 kW2 hb2 hlt
  obtain ⟨x0, x1, x2, x3⟩ := nR.cells4
  obtain ⟨y0, y1, y2, y3⟩ := k2.cells4
  obtain ⟨f0, f1, f2, f3⟩ := k2.free4
  go_wp2_with fail
  have k4 := k2.put4 r0 r1 r2 r3
  have hB2 := below_put4 kW3 (f := w.heap.size + 1 + 1 + 1) (by omega) (.int .u64 (r0 : Int)) (.int .u64 (r1 : Int)) (.int .u64 (r2 : Int)) (.int .u64 (r3 : Int))
  clear x0 x1 x2 x3 y0 y1 y2 y3 f0 f1 f2 f3
  generalize (((Z.setCell ⟨w.heap.size + 1 + 1 + 1, 0, none⟩ (.int .u64 (r0 : Int))).setCell ⟨w.heap.size + 1 + 1 + 1, 1, none⟩ (.int .u64 (r1 : Int))).setCell ⟨w.heap.size + 1 + 1 + 1, 2, none⟩ (.int .u64 (r2 : Int))).setCell ⟨w.heap.size + 1 + 1 + 1, 3, none⟩ (.int .u64 (r3 : Int)) = V at *
  obtain ⟨z0, z1, z2, z3⟩ := k4.cells4
  exact bodyPost_ret (v := W4 r0 r1 r2 r3) (by simp [results, Try.results52, go_sem, z0, z1, z2, z3]) rfl ⟨r0, r1, r2, r3, rfl, hr, hB2⟩
end Go.Proofs.Ytihffojljbgpcaa
