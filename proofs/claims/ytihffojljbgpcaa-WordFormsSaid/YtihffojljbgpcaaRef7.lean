/- The contracts of package quarryref01's Not, Shl, Shr and Sar. -/
import Derived.Test.YtihffojljbgpcaaBits2
import Derived.Test.YtihffojljbgpcaaRef4
import Derived.Test.YtihffojljbgpcaaRShl
namespace Go.Proofs.Ytihffojljbgpcaa
open Go.RowKit

theorem farv_le (n : Nat) : farv n ≤ 256 := by unfold farv; split <;> omega
set_option maxRecDepth 100000 in
set_option maxHeartbeats 3200000 in
theorem shl1_c {n a : Nat} (hn : Big n) (ha : Big a) (w : World) : Calls Try.prog 69 #[W n, W a] w (RetW (shlv n a) w) := by
  obtain ⟨R, hR⟩ : ∃ R, R = shlv n a := ⟨_, rfl⟩
  rw [← hR]
  obtain ⟨k, hk⟩ : ∃ k, k = farv n := ⟨_, rfl⟩
  have lk : k ≤ 256 := by rw [hk]; exact farv_le n
  have k1 : ∀ w, Calls Try.prog 124 #[W n] w (RetV (.int .i64 (k : Nat)) w) := fun w => by rw [hk]; exact far_c hn w
  have r1 : R = (a * 2 ^ k) % 115792089237316195423570985008687907853269984665640564039457584007913129639936 := by
    rw [hR, hk]
    unfold shlv farv
    by_cases h : n < 256
    · rw [if_pos h, if_pos (by omega)]
    · rw [if_neg h]
      by_cases h2 : n ≤ 256
      · rw [if_pos h2, show n = 256 by omega, show (2 : Nat) ^ 256 = 115792089237316195423570985008687907853269984665640564039457584007913129639936 by decide, Nat.mul_mod_left]
      · rw [if_neg h2, show (2 : Nat) ^ 256 = 115792089237316195423570985008687907853269984665640564039457584007913129639936 by decide, Nat.mul_mod_left]
  have bR : Big R := by rw [r1]; exact big_mod _
  have K1 := Lib.hid k1
  have IA := Lib.hid (isW_lim ha)
  have LK := Lib.hid lk
  have HR := Lib.hid r1
  have BR := Lib.hid bR
  clear hR hk lk k1 r1 bR hn ha
  go_enter Try.func69, Try.ntmps69
  go_upto_region 1 with (fail)
  obtain ⟨gA, gB, gR, gS, gW⟩ := start3 w 24 (lim 0 n) (lim 1 n) (lim 2 n) (lim 3 n) (lim 0 a) (lim 1 a) (lim 2 a) (lim 3 a) _ rfl
  generalize ((w.alloc (.cells #[.int .u64 (lim 0 n : Nat), .int .u64 (lim 1 n : Nat), .int .u64 (lim 2 n : Nat), .int .u64 (lim 3 n : Nat)] 24)).alloc (.cells #[.int .u64 (lim 0 a : Nat), .int .u64 (lim 1 a : Nat), .int .u64 (lim 2 a : Nat), .int .u64 (lim 3 a : Nat)] 24)).alloc (.cells #[.int .u64 0, .int .u64 0, .int .u64 0, .int .u64 0] 24) = X at *
  clear gS
  go_wp2_with fail
  refine wp_region_rel 6 [(5, (.is (W a))), (6, .num (a) 8), (7, (.is (W n))), (8, (.is (.int .i64 (k : Nat)))), (9, .num (a * 2 ^ k) 17), (10, (.is (W (R))))] (by kernel_rfl) (by kernel_rfl) ?_ ?_
  · refine relOps_cons ?_ (relOps_cons ?_ (relOps_cons ?_ (relOps_cons ?_ (relOps_cons ?_ (relOps_cons ?_ relOps_nil)))))
    · intro w' hb'
      refine relAsk_out (by rfl) ?_
      refine relAsk_nil ?_
      refine relStep_go (by rfl) ?_
      obtain ⟨x0, x1, x2, x3⟩ := (gB.below hb' gB.lt).cells4
      clear gA gB gR
      go_simp
      exact rel_val rfl
    · intro w' hb'
      refine relAsk_in (by rfl) ?_
      intro v5 h5
      obtain rfl : v5 = (W a) := h5
      refine relAsk_nil ?_
      refine relStep_go (by rfl) ?_
      go_simp
      exact rel_call (rN_c IA.out _) (fun _ _ h => h)
    · intro w' hb'
      refine relAsk_out (by rfl) ?_
      refine relAsk_nil ?_
      refine relStep_go (by rfl) ?_
      obtain ⟨x0, x1, x2, x3⟩ := (gA.below hb' gA.lt).cells4
      clear gA gB gR
      go_simp
      exact rel_val rfl
    · intro w' hb'
      refine relAsk_in (by rfl) ?_
      intro v7 h7
      obtain rfl : v7 = (W n) := h7
      refine relAsk_nil ?_
      refine relStep_go (by rfl) ?_
      go_simp
      exact rel_callV (K1.out _) (fun _ => rfl)
    · intro w' hb'
      refine relAsk_in (by rfl) ?_
      intro v6 h6
      replace h6 : Num w' v6 (a) 8 := h6
      refine relAsk_in (by rfl) ?_
      intro v8 h8
      obtain rfl : v8 = (.int .i64 (k : Nat)) := h8
      refine relAsk_nil ?_
      refine relStep_go (by rfl) ?_
      go_simp
      exact rel_call (rshl_n _ h6 (by omega) k (by have := LK.out; omega)) (fun _ _ h => h.mono (by have := LK.out; omega))
    · intro w' hb'
      refine relAsk_in (by rfl) ?_
      intro v9 h9
      replace h9 : Num w' v9 (a * 2 ^ k) 17 := h9
      refine relAsk_nil ?_
      refine relStep_go (by rfl) ?_
      go_simp
      exact rel_callW (by have h := rW_n w' h9 (by omega); rw [← HR.out] at h; exact h) (fun _ => rfl)
  · intro w' hb'
    refine relAsk_in (by rfl) ?_
    intro v5 h5
    obtain rfl : v5 = (W a) := h5
    refine relAsk_in (by rfl) ?_
    intro v6 h6
    replace h6 : Num w' v6 (a) 8 := h6
    refine relAsk_in (by rfl) ?_
    intro v7 h7
    obtain rfl : v7 = (W n) := h7
    refine relAsk_in (by rfl) ?_
    intro v8 h8
    obtain rfl : v8 = (.int .i64 (k : Nat)) := h8
    refine relAsk_in (by rfl) ?_
    intro v9 h9
    replace h9 : Num w' v9 (a * 2 ^ k) 17 := h9
    refine relAsk_in (by rfl) ?_
    intro v10 h10
    obtain rfl : v10 = (W (R)) := h10
    refine relAsk_nil ?_
    have gR := gR.below hb' gR.lt
    have gW := gW.trans (hb'.mono gW.size)
    clear gA gB hb' h6 h9
    obtain ⟨y0, y1, y2, y3⟩ := gR.cells4
    obtain ⟨f0, f1, f2, f3⟩ := gR.free4
    go_wp2_with fail
    refine bodyPost_ret (v := W (R)) (by simp [results, Try.results69, go_sem, y0, y1, y2, y3]) rfl ⟨_, _, _, _, rfl, isW_lim (BR.out), ?_⟩
    repeat (first | exact gW | refine Below.setCell ?_ (by simp; try omega) _)
set_option maxRecDepth 100000 in
set_option maxHeartbeats 3200000 in
theorem shr1_c {n a : Nat} (hn : Big n) (ha : Big a) (w : World) : Calls Try.prog 71 #[W n, W a] w (RetW (shrv n a) w) := by
  obtain ⟨R, hR⟩ : ∃ R, R = shrv n a := ⟨_, rfl⟩
  rw [← hR]
  obtain ⟨k, hk⟩ : ∃ k, k = farv n := ⟨_, rfl⟩
  have lk : k ≤ 256 := by rw [hk]; exact farv_le n
  have k1 : ∀ w, Calls Try.prog 124 #[W n] w (RetV (.int .i64 (k : Nat)) w) := fun w => by rw [hk]; exact far_c hn w
  have r1 : R = (a / 2 ^ k) % 115792089237316195423570985008687907853269984665640564039457584007913129639936 := by
    rw [hR, hk]
    unfold shrv farv
    by_cases h : n < 256
    · rw [if_pos h, if_pos (by omega), Nat.mod_eq_of_lt (div_big ha)]
    · have h0 : a / 2 ^ 256 = 0 := Nat.div_eq_of_lt (by rw [show (2 : Nat) ^ 256 = 115792089237316195423570985008687907853269984665640564039457584007913129639936 by decide]; exact ha)
      rw [if_neg h]
      by_cases h2 : n ≤ 256
      · rw [if_pos h2, show n = 256 by omega, h0]
      · rw [if_neg h2, h0]
  have bR : Big R := by rw [r1]; exact big_mod _
  have K1 := Lib.hid k1
  have IA := Lib.hid (isW_lim ha)
  have LK := Lib.hid lk
  have HR := Lib.hid r1
  have BR := Lib.hid bR
  clear hR hk lk k1 r1 bR hn ha
  go_enter Try.func71, Try.ntmps71
  go_upto_region 1 with (fail)
  obtain ⟨gA, gB, gR, gS, gW⟩ := start3 w 24 (lim 0 n) (lim 1 n) (lim 2 n) (lim 3 n) (lim 0 a) (lim 1 a) (lim 2 a) (lim 3 a) _ rfl
  generalize ((w.alloc (.cells #[.int .u64 (lim 0 n : Nat), .int .u64 (lim 1 n : Nat), .int .u64 (lim 2 n : Nat), .int .u64 (lim 3 n : Nat)] 24)).alloc (.cells #[.int .u64 (lim 0 a : Nat), .int .u64 (lim 1 a : Nat), .int .u64 (lim 2 a : Nat), .int .u64 (lim 3 a : Nat)] 24)).alloc (.cells #[.int .u64 0, .int .u64 0, .int .u64 0, .int .u64 0] 24) = X at *
  clear gS
  go_wp2_with fail
  refine wp_region_rel 6 [(5, (.is (W a))), (6, .num (a) 8), (7, (.is (W n))), (8, (.is (.int .i64 (k : Nat)))), (9, .num (a / 2 ^ k) 8), (10, (.is (W (R))))] (by kernel_rfl) (by kernel_rfl) ?_ ?_
  · refine relOps_cons ?_ (relOps_cons ?_ (relOps_cons ?_ (relOps_cons ?_ (relOps_cons ?_ (relOps_cons ?_ relOps_nil)))))
    · intro w' hb'
      refine relAsk_out (by rfl) ?_
      refine relAsk_nil ?_
      refine relStep_go (by rfl) ?_
      obtain ⟨x0, x1, x2, x3⟩ := (gB.below hb' gB.lt).cells4
      clear gA gB gR
      go_simp
      exact rel_val rfl
    · intro w' hb'
      refine relAsk_in (by rfl) ?_
      intro v5 h5
      obtain rfl : v5 = (W a) := h5
      refine relAsk_nil ?_
      refine relStep_go (by rfl) ?_
      go_simp
      exact rel_call (rN_c IA.out _) (fun _ _ h => h)
    · intro w' hb'
      refine relAsk_out (by rfl) ?_
      refine relAsk_nil ?_
      refine relStep_go (by rfl) ?_
      obtain ⟨x0, x1, x2, x3⟩ := (gA.below hb' gA.lt).cells4
      clear gA gB gR
      go_simp
      exact rel_val rfl
    · intro w' hb'
      refine relAsk_in (by rfl) ?_
      intro v7 h7
      obtain rfl : v7 = (W n) := h7
      refine relAsk_nil ?_
      refine relStep_go (by rfl) ?_
      go_simp
      exact rel_callV (K1.out _) (fun _ => rfl)
    · intro w' hb'
      refine relAsk_in (by rfl) ?_
      intro v6 h6
      replace h6 : Num w' v6 (a) 8 := h6
      refine relAsk_in (by rfl) ?_
      intro v8 h8
      obtain rfl : v8 = (.int .i64 (k : Nat)) := h8
      refine relAsk_nil ?_
      refine relStep_go (by rfl) ?_
      go_simp
      exact rel_call (rshr_n _ h6 (by omega) k (by have := LK.out; omega)) (fun _ _ h => h.mono (by have := LK.out; omega))
    · intro w' hb'
      refine relAsk_in (by rfl) ?_
      intro v9 h9
      replace h9 : Num w' v9 (a / 2 ^ k) 8 := h9
      refine relAsk_nil ?_
      refine relStep_go (by rfl) ?_
      go_simp
      exact rel_callW (by have h := rW_n w' h9 (by omega); rw [← HR.out] at h; exact h) (fun _ => rfl)
  · intro w' hb'
    refine relAsk_in (by rfl) ?_
    intro v5 h5
    obtain rfl : v5 = (W a) := h5
    refine relAsk_in (by rfl) ?_
    intro v6 h6
    replace h6 : Num w' v6 (a) 8 := h6
    refine relAsk_in (by rfl) ?_
    intro v7 h7
    obtain rfl : v7 = (W n) := h7
    refine relAsk_in (by rfl) ?_
    intro v8 h8
    obtain rfl : v8 = (.int .i64 (k : Nat)) := h8
    refine relAsk_in (by rfl) ?_
    intro v9 h9
    replace h9 : Num w' v9 (a / 2 ^ k) 8 := h9
    refine relAsk_in (by rfl) ?_
    intro v10 h10
    obtain rfl : v10 = (W (R)) := h10
    refine relAsk_nil ?_
    have gR := gR.below hb' gR.lt
    have gW := gW.trans (hb'.mono gW.size)
    clear gA gB hb' h6 h9
    obtain ⟨y0, y1, y2, y3⟩ := gR.cells4
    obtain ⟨f0, f1, f2, f3⟩ := gR.free4
    go_wp2_with fail
    refine bodyPost_ret (v := W (R)) (by simp [results, Try.results71, go_sem, y0, y1, y2, y3]) rfl ⟨_, _, _, _, rfl, isW_lim (BR.out), ?_⟩
    repeat (first | exact gW | refine Below.setCell ?_ (by simp; try omega) _)
end Go.Proofs.Ytihffojljbgpcaa
