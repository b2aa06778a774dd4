/- Contracts of package word's Add, Sub, Of, low and neg. -/
import Derived.Test.YtihffojljbgpcaaWordLeaf
import Derived.Test.YtihffojljbgpcaaWordMem
import Derived.Test.YtihffojljbgpcaaLimbs
namespace Go.Proofs.Ytihffojljbgpcaa
open Go.RowKit

set_option maxRecDepth 100000 in
set_option maxHeartbeats 1000000 in
theorem of_c (n : Nat) (hn : Lim n) (w : World) : Calls Try.prog 29 #[.int .u64 n] w (RetW n w) := by
  go_enter Try.func29, Try.ntmps29
  go_wp2_with fail
  exact bodyPost_ret (v := W4 n 0 0 0) (by simp [results, Try.results29, go_sem]) rfl ⟨n, 0, 0, 0, rfl, isW_small hn, (Below.refl _ _).alloc (Nat.le_refl _) _⟩

set_option maxRecDepth 100000 in
set_option maxHeartbeats 1000000 in
theorem add_c {a0 a1 a2 a3 b0 b1 b2 b3 a b : Nat} (ha : IsW a0 a1 a2 a3 a) (hb : IsW b0 b1 b2 b3 b) (w : World) :
    Calls Try.prog 38 #[W4 a0 a1 a2 a3, W4 b0 b1 b2 b3] w (RetW ((a + b) % 115792089237316195423570985008687907853269984665640564039457584007913129639936) w) := by
  go_enter Try.func38, Try.ntmps38
  go_wp2_with fail
  refine (plus_c ha hb _).mono ?_
  rintro e w1 ⟨s0, s1, s2, s3, k, rfl, hs, hk, hb1⟩
  clear hk
  obtain ⟨hc, hf⟩ := bcell hb1
  have hz := hb1.size
  have hz2 : w.heap.size + 1 + 1 < w1.heap.size := by simp at hz; omega
  go_wp2_with fail
  refine bodyPost_ret (v := W4 s0 s1 s2 s3) (by simp [results, Try.results38, go_sem, hc, hz2]) rfl ⟨s0, s1, s2, s3, rfl, hs, ?_⟩
  repeat (first | exact Below.refl _ _ | refine Below.setCell ?_ (by simp; try omega) _ | refine Below.alloc ?_ (by simp; try omega) _ | refine Below.trans ?_ (hb1.mono (by simp; try omega)))

set_option maxRecDepth 100000 in
set_option maxHeartbeats 1000000 in
theorem sub_c {a0 a1 a2 a3 b0 b1 b2 b3 a b : Nat} (ha : IsW a0 a1 a2 a3 a) (hb : IsW b0 b1 b2 b3 b) (w : World) :
    Calls Try.prog 40 #[W4 a0 a1 a2 a3, W4 b0 b1 b2 b3] w (RetW ((115792089237316195423570985008687907853269984665640564039457584007913129639936 + a - b) % 115792089237316195423570985008687907853269984665640564039457584007913129639936) w) := by
  obtain ⟨la0, la1, la2, la3⟩ := ha.lims
  obtain ⟨lb0, lb1, lb2, lb3⟩ := hb.lims
  go_enter Try.func40, Try.ntmps40
  go_wp2_with fail
  refine upon_sub0 _ _ _ la0 lb0 ?_
  intro s0 k0 A0 hk0 ls0
  go_wp2_with fail
  refine upon_sub _ _ _ hk0 _ la1 lb1 ?_
  intro s1 k1 A1 hk1 ls1
  go_wp2_with fail
  refine upon_sub _ _ _ hk1 _ la2 lb2 ?_
  intro s2 k2 A2 hk2 ls2
  go_wp2_with fail
  refine upon_sub _ _ _ hk2 _ la3 lb3 ?_
  intro s3 k3 A3 hk3 ls3
  go_wp2_with fail
  have r := sub4 ha hb A0 A1 A2 A3
  refine bodyPost_ret (v := W4 s0 s1 s2 s3) (by simp [results, Try.results40, go_sem]) rfl ⟨s0, s1, s2, s3, rfl, r, ?_⟩
  repeat (first | exact Below.refl _ _ | refine Below.setCell ?_ (by simp; try omega) _ | refine Below.alloc ?_ (by simp; try omega) _)

set_option maxRecDepth 100000 in
set_option maxHeartbeats 1000000 in
theorem low_c {n0 n1 n2 n3 n4 n5 n6 n7 : Nat} (h : Lims [n0, n1, n2, n3, n4, n5, n6, n7]) (w : World) :
    Calls Try.prog 108 #[.agg #[.int .u64 n0, .int .u64 n1, .int .u64 n2, .int .u64 n3, .int .u64 n4, .int .u64 n5, .int .u64 n6, .int .u64 n7]] w (RetW (vl [n0, n1, n2, n3]) w) := by
  go_enter Try.func108, Try.ntmps108
  go_wp2_with fail
  refine bodyPost_ret (v := W4 n0 n1 n2 n3) (by simp [results, Try.results108, go_sem]) rfl ⟨n0, n1, n2, n3, rfl, isW_val (fun x hx => h x (by simp at hx ⊢; omega)), ?_⟩
  repeat (first | exact Below.refl _ _ | refine Below.setCell ?_ (by simp; try omega) _ | refine Below.alloc ?_ (by simp; try omega) _)
end Go.Proofs.Ytihffojljbgpcaa
