/- The contracts of package word's Div and Mod, out of that of divide. -/
import Derived.Test.YtihffojljbgpcaaDivide
namespace Go.Proofs.Ytihffojljbgpcaa
open Go.RowKit

/-- What Div and Mod ask of divide. -/
def DivideSays (a0 a1 a2 a3 b0 b1 b2 b3 a b : Nat) : Prop := ∀ w, Calls Try.prog 113 #[.agg #[.int .u64 a0, .int .u64 a1, .int .u64 a2, .int .u64 a3, .int .u64 0, .int .u64 0, .int .u64 0, .int .u64 0], W4 b0 b1 b2 b3] w (RetDivide a b w)

theorem vl8 {q0 q1 q2 q3 q4 q5 q6 q7 n : Nat} (h : vl [q0, q1, q2, q3, q4, q5, q6, q7] = n) (hn : Big n) : vl [q0, q1, q2, q3] = n := by
  unfold Big at hn
  simp only [vl] at *
  omega

set_option maxRecDepth 100000 in
set_option maxHeartbeats 1600000 in
theorem div_of {a0 a1 a2 a3 b0 b1 b2 b3 a b : Nat} (ha : IsW a0 a1 a2 a3 a) (hD : DivideSays a0 a1 a2 a3 b0 b1 b2 b3 a b) (w : World) :
    Calls Try.prog 44 #[W4 a0 a1 a2 a3, W4 b0 b1 b2 b3] w (RetW (a / b) w) := by
  go_enter Try.func44, Try.ntmps44
  go_wp2_with fail
  obtain ⟨gA, gB, gR, gS, gW⟩ := start3 w 24 a0 a1 a2 a3 b0 b1 b2 b3 _ rfl
  generalize ((w.alloc (.cells #[.int .u64 (a0 : Nat), .int .u64 (a1 : Nat), .int .u64 (a2 : Nat), .int .u64 (a3 : Nat)] 24)).alloc (.cells #[.int .u64 (b0 : Nat), .int .u64 (b1 : Nat), .int .u64 (b2 : Nat), .int .u64 (b3 : Nat)] 24)).alloc (.cells #[.int .u64 0, .int .u64 0, .int .u64 0, .int .u64 0] 24) = X at *
  refine (hD _).mono ?_
  rintro e w2 ⟨q0, q1, q2, q3, q4, q5, q6, q7, r0, r1, r2, r3, rfl, lq, hq, hr, hb2⟩
  have HQ := Lib.hid hq
  clear hq
  have k1 := gR.below hb2 gR.lt
  have hs := k1.lt
  obtain ⟨z0, z1, z2, z3⟩ := k1.cells4
  obtain ⟨g0, g1, g2, g3⟩ := k1.free4
  go_wp2_with fail
  refine (low_c lq _).mono ?_
  rintro e w3 ⟨s0, s1, s2, s3, rfl, hsw, hb3⟩
  clear z0 z1 z2 z3 g0 g1 g2 g3
  have k2 := ((k1.alloc (.cells #[.int .u64 (q0 : Nat), .int .u64 (q1 : Nat), .int .u64 (q2 : Nat), .int .u64 (q3 : Nat), .int .u64 (q4 : Nat), .int .u64 (q5 : Nat), .int .u64 (q6 : Nat), .int .u64 (q7 : Nat)] 94)).alloc (.cells #[.int .u64 (r0 : Nat), .int .u64 (r1 : Nat), .int .u64 (r2 : Nat), .int .u64 (r3 : Nat)] 24))
  have k3 := k2.below hb3 k2.lt
  obtain ⟨z0, z1, z2, z3⟩ := k3.cells4
  obtain ⟨g0, g1, g2, g3⟩ := k3.free4
  go_wp2_with fail
  have hB : Below w.heap.size w w3 := by
    refine Below.trans ?_ (hb3.mono (by have := hb2.size; have := gS; simp; omega))
    exact (((gW.trans (hb2.mono (by omega))).alloc (by have := hb2.size; omega) _).alloc (by have := hb2.size; simp; omega) _)
  have k4 := k3.put4 s0 s1 s2 s3
  have hB2 := below_put4 hB (f := w.heap.size + 1 + 1) (by omega) (.int .u64 (s0 : Int)) (.int .u64 (s1 : Int)) (.int .u64 (s2 : Int)) (.int .u64 (s3 : Int))
  clear z0 z1 z2 z3 g0 g1 g2 g3
  generalize (((w3.setCell ⟨w.heap.size + 1 + 1, 0, none⟩ (.int .u64 (s0 : Int))).setCell ⟨w.heap.size + 1 + 1, 1, none⟩ (.int .u64 (s1 : Int))).setCell ⟨w.heap.size + 1 + 1, 2, none⟩ (.int .u64 (s2 : Int))).setCell ⟨w.heap.size + 1 + 1, 3, none⟩ (.int .u64 (s3 : Int)) = Y at *
  obtain ⟨z0, z1, z2, z3⟩ := k4.cells4
  exact bodyPost_ret (v := W4 s0 s1 s2 s3) (by simp [results, Try.results44, go_sem, z0, z1, z2, z3]) rfl
    ⟨s0, s1, s2, s3, rfl, hsw.eq (vl8 HQ.out (by have := ha.big; unfold Big at *; exact Nat.lt_of_le_of_lt (Nat.div_le_self _ _) this)), hB2⟩
end Go.Proofs.Ytihffojljbgpcaa
