/- The contracts of package quarryref01's sums, differences and products. -/
import Derived.Test.YtihffojljbgpcaaRefW
import Derived.Test.YtihffojljbgpcaaRSub
import Derived.Test.YtihffojljbgpcaaFacts
namespace Go.Proofs.Ytihffojljbgpcaa
open Go.RowKit

set_option maxRecDepth 100000 in
set_option maxHeartbeats 3200000 in
theorem add1_c {a b : Nat} (ha : Big a) (hb : Big b) (w : World) : Calls Try.prog 39 #[W a, W b] w (RetW ((a + b) % 115792089237316195423570985008687907853269984665640564039457584007913129639936) w) := by
  have iA := isW_lim ha
  have iB := isW_lim hb
  go_enter Try.func39, Try.ntmps39
  go_wp2_with fail
  obtain ⟨gA, gB, gR, gS, gW⟩ := start3 w 24 (lim 0 a) (lim 1 a) (lim 2 a) (lim 3 a) (lim 0 b) (lim 1 b) (lim 2 b) (lim 3 b) _ rfl
  generalize ((w.alloc (.cells #[.int .u64 (lim 0 a : Nat), .int .u64 (lim 1 a : Nat), .int .u64 (lim 2 a : Nat), .int .u64 (lim 3 a : Nat)] 24)).alloc (.cells #[.int .u64 (lim 0 b : Nat), .int .u64 (lim 1 b : Nat), .int .u64 (lim 2 b : Nat), .int .u64 (lim 3 b : Nat)] 24)).alloc (.cells #[.int .u64 0, .int .u64 0, .int .u64 0, .int .u64 0] 24) = X at *
  refine wp_region_rel 6 [(5, (.is (W a))), (6, .num (a) 8), (7, (.is (W b))), (8, .num (b) 8), (9, .num (a + b) 9), (10, (.is (W ((a + b) % 115792089237316195423570985008687907853269984665640564039457584007913129639936))))] (by kernel_rfl) (by kernel_rfl) ?_ ?_
  · refine relOps_cons ?_ (relOps_cons ?_ (relOps_cons ?_ (relOps_cons ?_ (relOps_cons ?_ (relOps_cons ?_ relOps_nil)))))
    · intro w' hb'
      refine relAsk_out (by rfl) ?_
      refine relAsk_nil ?_
      refine relStep_go (by rfl) ?_
      obtain ⟨x0, x1, x2, x3⟩ := (gA.below hb' gA.lt).cells4
      go_simp
      exact rel_val rfl
    · intro w' hb'
      refine relAsk_in (by rfl) ?_
      intro v5 h5
      obtain rfl : v5 = (W a) := h5
      refine relAsk_nil ?_
      refine relStep_go (by rfl) ?_
      go_simp
      exact rel_call (rN_c iA _) (fun _ _ h => h)
    · intro w' hb'
      refine relAsk_out (by rfl) ?_
      refine relAsk_nil ?_
      refine relStep_go (by rfl) ?_
      obtain ⟨x0, x1, x2, x3⟩ := (gB.below hb' gB.lt).cells4
      go_simp
      exact rel_val rfl
    · intro w' hb'
      refine relAsk_in (by rfl) ?_
      intro v7 h7
      obtain rfl : v7 = (W b) := h7
      refine relAsk_nil ?_
      refine relStep_go (by rfl) ?_
      go_simp
      exact rel_call (rN_c iB _) (fun _ _ h => h)
    · intro w' hb'
      refine relAsk_in (by rfl) ?_
      intro v6 h6
      have h6 : Num w' v6 (a) 8 := h6
      refine relAsk_in (by rfl) ?_
      intro v8 h8
      have h8 : Num w' v8 (b) 8 := h8
      refine relAsk_nil ?_
      refine relStep_go (by rfl) ?_
      go_simp
      exact rel_call (radd_n _ h6 h8 (by omega) (by omega)) (fun _ _ h => h.mono (by omega))
    · intro w' hb'
      refine relAsk_in (by rfl) ?_
      intro v9 h9
      have h9 : Num w' v9 (a + b) 9 := h9
      refine relAsk_nil ?_
      refine relStep_go (by rfl) ?_
      go_simp
      exact rel_callW (rW_n _ h9 (by omega)) (fun _ => rfl)
  · intro w' hb'
    refine relAsk_in (by rfl) ?_
    intro v5 h5
    obtain rfl : v5 = (W a) := h5
    refine relAsk_in (by rfl) ?_
    intro v6 h6
    have h6 : Num w' v6 (a) 8 := h6
    refine relAsk_in (by rfl) ?_
    intro v7 h7
    obtain rfl : v7 = (W b) := h7
    refine relAsk_in (by rfl) ?_
    intro v8 h8
    have h8 : Num w' v8 (b) 8 := h8
    refine relAsk_in (by rfl) ?_
    intro v9 h9
    have h9 : Num w' v9 (a + b) 9 := h9
    refine relAsk_in (by rfl) ?_
    intro v10 h10
    obtain rfl : v10 = (W ((a + b) % 115792089237316195423570985008687907853269984665640564039457584007913129639936)) := h10
    refine relAsk_nil ?_
    have kR := gR.below hb' gR.lt
    have kW := gW.trans (hb'.mono gW.size)
    obtain ⟨y0, y1, y2, y3⟩ := kR.cells4
    obtain ⟨f0, f1, f2, f3⟩ := kR.free4
    clear gA gB gR iA iB hb'
    go_wp2_with fail
    refine bodyPost_ret (v := W ((a + b) % 115792089237316195423570985008687907853269984665640564039457584007913129639936)) (by simp [results, Try.results39, go_sem, y0, y1, y2, y3]) rfl ⟨_, _, _, _, rfl, isW_lim (big_mod _), ?_⟩
    repeat (first | exact kW | refine Below.setCell ?_ (by simp; try omega) _)
set_option maxRecDepth 100000 in
set_option maxHeartbeats 3200000 in
theorem mul1_c {a b : Nat} (ha : Big a) (hb : Big b) (w : World) : Calls Try.prog 43 #[W a, W b] w (RetW ((a * b) % 115792089237316195423570985008687907853269984665640564039457584007913129639936) w) := by
  have iA := isW_lim ha
  have iB := isW_lim hb
  go_enter Try.func43, Try.ntmps43
  go_wp2_with fail
  obtain ⟨gA, gB, gR, gS, gW⟩ := start3 w 24 (lim 0 a) (lim 1 a) (lim 2 a) (lim 3 a) (lim 0 b) (lim 1 b) (lim 2 b) (lim 3 b) _ rfl
  generalize ((w.alloc (.cells #[.int .u64 (lim 0 a : Nat), .int .u64 (lim 1 a : Nat), .int .u64 (lim 2 a : Nat), .int .u64 (lim 3 a : Nat)] 24)).alloc (.cells #[.int .u64 (lim 0 b : Nat), .int .u64 (lim 1 b : Nat), .int .u64 (lim 2 b : Nat), .int .u64 (lim 3 b : Nat)] 24)).alloc (.cells #[.int .u64 0, .int .u64 0, .int .u64 0, .int .u64 0] 24) = X at *
  refine wp_region_rel 6 [(5, (.is (W a))), (6, .num (a) 8), (7, (.is (W b))), (8, .num (b) 8), (9, .num (a * b) 16), (10, (.is (W ((a * b) % 115792089237316195423570985008687907853269984665640564039457584007913129639936))))] (by kernel_rfl) (by kernel_rfl) ?_ ?_
  · refine relOps_cons ?_ (relOps_cons ?_ (relOps_cons ?_ (relOps_cons ?_ (relOps_cons ?_ (relOps_cons ?_ relOps_nil)))))
    · intro w' hb'
      refine relAsk_out (by rfl) ?_
      refine relAsk_nil ?_
      refine relStep_go (by rfl) ?_
      obtain ⟨x0, x1, x2, x3⟩ := (gA.below hb' gA.lt).cells4
      go_simp
      exact rel_val rfl
    · intro w' hb'
      refine relAsk_in (by rfl) ?_
      intro v5 h5
      obtain rfl : v5 = (W a) := h5
      refine relAsk_nil ?_
      refine relStep_go (by rfl) ?_
      go_simp
      exact rel_call (rN_c iA _) (fun _ _ h => h)
    · intro w' hb'
      refine relAsk_out (by rfl) ?_
      refine relAsk_nil ?_
      refine relStep_go (by rfl) ?_
      obtain ⟨x0, x1, x2, x3⟩ := (gB.below hb' gB.lt).cells4
      go_simp
      exact rel_val rfl
    · intro w' hb'
      refine relAsk_in (by rfl) ?_
      intro v7 h7
      obtain rfl : v7 = (W b) := h7
      refine relAsk_nil ?_
      refine relStep_go (by rfl) ?_
      go_simp
      exact rel_call (rN_c iB _) (fun _ _ h => h)
    · intro w' hb'
      refine relAsk_in (by rfl) ?_
      intro v6 h6
      have h6 : Num w' v6 (a) 8 := h6
      refine relAsk_in (by rfl) ?_
      intro v8 h8
      have h8 : Num w' v8 (b) 8 := h8
      refine relAsk_nil ?_
      refine relStep_go (by rfl) ?_
      go_simp
      exact rel_call (rmul_n _ h6 h8 (by omega) (by omega)) (fun _ _ h => h.mono (by omega))
    · intro w' hb'
      refine relAsk_in (by rfl) ?_
      intro v9 h9
      have h9 : Num w' v9 (a * b) 16 := h9
      refine relAsk_nil ?_
      refine relStep_go (by rfl) ?_
      go_simp
      exact rel_callW (rW_n _ h9 (by omega)) (fun _ => rfl)
  · intro w' hb'
    refine relAsk_in (by rfl) ?_
    intro v5 h5
    obtain rfl : v5 = (W a) := h5
    refine relAsk_in (by rfl) ?_
    intro v6 h6
    have h6 : Num w' v6 (a) 8 := h6
    refine relAsk_in (by rfl) ?_
    intro v7 h7
    obtain rfl : v7 = (W b) := h7
    refine relAsk_in (by rfl) ?_
    intro v8 h8
    have h8 : Num w' v8 (b) 8 := h8
    refine relAsk_in (by rfl) ?_
    intro v9 h9
    have h9 : Num w' v9 (a * b) 16 := h9
    refine relAsk_in (by rfl) ?_
    intro v10 h10
    obtain rfl : v10 = (W ((a * b) % 115792089237316195423570985008687907853269984665640564039457584007913129639936)) := h10
    refine relAsk_nil ?_
    have kR := gR.below hb' gR.lt
    have kW := gW.trans (hb'.mono gW.size)
    obtain ⟨y0, y1, y2, y3⟩ := kR.cells4
    obtain ⟨f0, f1, f2, f3⟩ := kR.free4
    clear gA gB gR iA iB hb'
    go_wp2_with fail
    refine bodyPost_ret (v := W ((a * b) % 115792089237316195423570985008687907853269984665640564039457584007913129639936)) (by simp [results, Try.results43, go_sem, y0, y1, y2, y3]) rfl ⟨_, _, _, _, rfl, isW_lim (big_mod _), ?_⟩
    repeat (first | exact kW | refine Below.setCell ?_ (by simp; try omega) _)
set_option maxRecDepth 100000 in
set_option maxHeartbeats 3200000 in
theorem sub1_c {a b : Nat} (ha : Big a) (hb : Big b) (w : World) : Calls Try.prog 41 #[W a, W b] w (RetW ((115792089237316195423570985008687907853269984665640564039457584007913129639936 + a - b) % 115792089237316195423570985008687907853269984665640564039457584007913129639936) w) := by
  have iA := isW_lim ha
  have iB := isW_lim hb
  go_enter Try.func41, Try.ntmps41
  go_wp2_with fail
  obtain ⟨gA, gB, gR, gS, gW⟩ := start3 w 24 (lim 0 a) (lim 1 a) (lim 2 a) (lim 3 a) (lim 0 b) (lim 1 b) (lim 2 b) (lim 3 b) _ rfl
  generalize ((w.alloc (.cells #[.int .u64 (lim 0 a : Nat), .int .u64 (lim 1 a : Nat), .int .u64 (lim 2 a : Nat), .int .u64 (lim 3 a : Nat)] 24)).alloc (.cells #[.int .u64 (lim 0 b : Nat), .int .u64 (lim 1 b : Nat), .int .u64 (lim 2 b : Nat), .int .u64 (lim 3 b : Nat)] 24)).alloc (.cells #[.int .u64 0, .int .u64 0, .int .u64 0, .int .u64 0] 24) = X at *
  refine wp_region_rel 8 [(5, .num (115792089237316195423570985008687907853269984665640564039457584007913129639936) 10), (6, (.is (W a))), (7, .num (a) 8), (8, .num (115792089237316195423570985008687907853269984665640564039457584007913129639936 + a) 11), (9, (.is (W b))), (10, .num (b) 8), (11, .num (115792089237316195423570985008687907853269984665640564039457584007913129639936 + a - b) 11), (12, (.is (W ((115792089237316195423570985008687907853269984665640564039457584007913129639936 + a - b) % 115792089237316195423570985008687907853269984665640564039457584007913129639936))))] (by kernel_rfl) (by kernel_rfl) ?_ ?_
  · refine relOps_cons ?_ (relOps_cons ?_ (relOps_cons ?_ (relOps_cons ?_ (relOps_cons ?_ (relOps_cons ?_ (relOps_cons ?_ (relOps_cons ?_ relOps_nil)))))))
    · intro w' hb'
      refine relAsk_nil ?_
      refine relStep_go (by rfl) ?_
      go_simp
      exact rel_call (rtop_c _) (fun _ _ h => h)
    · intro w' hb'
      refine relAsk_out (by rfl) ?_
      refine relAsk_nil ?_
      refine relStep_go (by rfl) ?_
      obtain ⟨x0, x1, x2, x3⟩ := (gA.below hb' gA.lt).cells4
      go_simp
      exact rel_val rfl
    · intro w' hb'
      refine relAsk_in (by rfl) ?_
      intro v6 h6
      obtain rfl : v6 = (W a) := h6
      refine relAsk_nil ?_
      refine relStep_go (by rfl) ?_
      go_simp
      exact rel_call (rN_c iA _) (fun _ _ h => h)
    · intro w' hb'
      refine relAsk_in (by rfl) ?_
      intro v5 h5
      have h5 : Num w' v5 (115792089237316195423570985008687907853269984665640564039457584007913129639936) 10 := h5
      refine relAsk_in (by rfl) ?_
      intro v7 h7
      have h7 : Num w' v7 (a) 8 := h7
      refine relAsk_nil ?_
      refine relStep_go (by rfl) ?_
      go_simp
      exact rel_call (radd_n _ h5 h7 (by omega) (by omega)) (fun _ _ h => h.mono (by omega))
    · intro w' hb'
      refine relAsk_out (by rfl) ?_
      refine relAsk_nil ?_
      refine relStep_go (by rfl) ?_
      obtain ⟨x0, x1, x2, x3⟩ := (gB.below hb' gB.lt).cells4
      go_simp
      exact rel_val rfl
    · intro w' hb'
      refine relAsk_in (by rfl) ?_
      intro v9 h9
      obtain rfl : v9 = (W b) := h9
      refine relAsk_nil ?_
      refine relStep_go (by rfl) ?_
      go_simp
      exact rel_call (rN_c iB _) (fun _ _ h => h)
    · intro w' hb'
      refine relAsk_in (by rfl) ?_
      intro v8 h8
      have h8 : Num w' v8 (115792089237316195423570985008687907853269984665640564039457584007913129639936 + a) 11 := h8
      refine relAsk_in (by rfl) ?_
      intro v10 h10
      have h10 : Num w' v10 (b) 8 := h10
      refine relAsk_nil ?_
      refine relStep_go (by rfl) ?_
      go_simp
      exact rel_call (rsub_n _ h8 h10 (by omega) (by unfold Big at hb; omega)) (fun _ _ h => h.mono (by omega))
    · intro w' hb'
      refine relAsk_in (by rfl) ?_
      intro v11 h11
      have h11 : Num w' v11 (115792089237316195423570985008687907853269984665640564039457584007913129639936 + a - b) 11 := h11
      refine relAsk_nil ?_
      refine relStep_go (by rfl) ?_
      go_simp
      exact rel_callW (rW_n _ h11 (by omega)) (fun _ => rfl)
  · intro w' hb'
    refine relAsk_in (by rfl) ?_
    intro v5 h5
    have h5 : Num w' v5 (115792089237316195423570985008687907853269984665640564039457584007913129639936) 10 := h5
    refine relAsk_in (by rfl) ?_
    intro v6 h6
    obtain rfl : v6 = (W a) := h6
    refine relAsk_in (by rfl) ?_
    intro v7 h7
    have h7 : Num w' v7 (a) 8 := h7
    refine relAsk_in (by rfl) ?_
    intro v8 h8
    have h8 : Num w' v8 (115792089237316195423570985008687907853269984665640564039457584007913129639936 + a) 11 := h8
    refine relAsk_in (by rfl) ?_
    intro v9 h9
    obtain rfl : v9 = (W b) := h9
    refine relAsk_in (by rfl) ?_
    intro v10 h10
    have h10 : Num w' v10 (b) 8 := h10
    refine relAsk_in (by rfl) ?_
    intro v11 h11
    have h11 : Num w' v11 (115792089237316195423570985008687907853269984665640564039457584007913129639936 + a - b) 11 := h11
    refine relAsk_in (by rfl) ?_
    intro v12 h12
    obtain rfl : v12 = (W ((115792089237316195423570985008687907853269984665640564039457584007913129639936 + a - b) % 115792089237316195423570985008687907853269984665640564039457584007913129639936)) := h12
    refine relAsk_nil ?_
    have kR := gR.below hb' gR.lt
    have kW := gW.trans (hb'.mono gW.size)
    obtain ⟨y0, y1, y2, y3⟩ := kR.cells4
    obtain ⟨f0, f1, f2, f3⟩ := kR.free4
    clear gA gB gR iA iB hb'
    go_wp2_with fail
    refine bodyPost_ret (v := W ((115792089237316195423570985008687907853269984665640564039457584007913129639936 + a - b) % 115792089237316195423570985008687907853269984665640564039457584007913129639936)) (by simp [results, Try.results41, go_sem, y0, y1, y2, y3]) rfl ⟨_, _, _, _, rfl, isW_lim (big_mod _), ?_⟩
    repeat (first | exact kW | refine Below.setCell ?_ (by simp; try omega) _)
end Go.Proofs.Ytihffojljbgpcaa
