/- The contracts of package quarryref01's Addmod and Mulmod. -/
import Derived.Test.YtihffojljbgpcaaRef2
import Derived.Test.YtihffojljbgpcaaWordMod2
namespace Go.Proofs.Ytihffojljbgpcaa
open Go.RowKit

set_option maxRecDepth 100000 in
set_option maxHeartbeats 3200000 in
theorem addmod1_c {a b c : Nat} (ha : Big a) (hb : Big b) (hc : Big c) (w : World) : Calls Try.prog 53 #[W a, W b, W c] w (RetW (if c = 0 then c else (a + b) % c % 115792089237316195423570985008687907853269984665640564039457584007913129639936) w) := by
  by_cases hb0 : c = 0
  · have hz := fun w => zero1_true hb0 w
    have he : (if c = 0 then c else (a + b) % c % 115792089237316195423570985008687907853269984665640564039457584007913129639936) = c := by rw [if_pos hb0]
    rw [he]
    have HZ := Lib.hid hz
    clear hz he hb0
    have iA := isW_lim ha
    have iB := isW_lim hb
    have iC := isW_lim hc
    go_enter Try.func53, Try.ntmps53
    go_wp2_with fail
    obtain ⟨gA, gB, gC, gR, gS, gW⟩ := start4 w 24 (lim 0 a) (lim 1 a) (lim 2 a) (lim 3 a) (lim 0 b) (lim 1 b) (lim 2 b) (lim 3 b) (lim 0 c) (lim 1 c) (lim 2 c) (lim 3 c) _ rfl
    generalize (((w.alloc (.cells #[.int .u64 (lim 0 a : Nat), .int .u64 (lim 1 a : Nat), .int .u64 (lim 2 a : Nat), .int .u64 (lim 3 a : Nat)] 24)).alloc (.cells #[.int .u64 (lim 0 b : Nat), .int .u64 (lim 1 b : Nat), .int .u64 (lim 2 b : Nat), .int .u64 (lim 3 b : Nat)] 24)).alloc (.cells #[.int .u64 (lim 0 c : Nat), .int .u64 (lim 1 c : Nat), .int .u64 (lim 2 c : Nat), .int .u64 (lim 3 c : Nat)] 24)).alloc (.cells #[.int .u64 0, .int .u64 0, .int .u64 0, .int .u64 0] 24) = X at *
    obtain ⟨x0, x1, x2, x3⟩ := gC.cells4
    go_wp2_with fail
    clear x0 x1 x2 x3
    (with_reducible refine (HZ.out _).mono ?_)
    rintro e w' ⟨rfl, hb'⟩
    obtain ⟨x0, x1, x2, x3⟩ := (gC.below hb' gC.lt).cells4
    have kR := gR.below hb' gR.lt
    have kW := gW.trans (hb'.mono gW.size)
    obtain ⟨y0, y1, y2, y3⟩ := kR.cells4
    obtain ⟨f0, f1, f2, f3⟩ := kR.free4
    clear gA gB gC gR hb'
    go_wp2_with fail
    refine bodyPost_ret (v := W c) (by simp [results, Try.results53, go_sem, y0, y1, y2, y3]) rfl ⟨_, _, _, _, rfl, iC, ?_⟩
    repeat (first | exact kW | refine Below.setCell ?_ (by simp; try omega) _)
  · have hz := fun w => zero1_false hc hb0 w
    have he : (if c = 0 then c else (a + b) % c % 115792089237316195423570985008687907853269984665640564039457584007913129639936) = ((a + b) % c % 115792089237316195423570985008687907853269984665640564039457584007913129639936) := by rw [if_neg hb0]
    have hbp : 0 < c := Nat.pos_of_ne_zero hb0
    rw [he]
    have HZ := Lib.hid hz
    have HB0 := Lib.hid hbp
    clear hz he hb0 hbp
    have iA := isW_lim ha
    have iB := isW_lim hb
    have iC := isW_lim hc
    go_enter Try.func53, Try.ntmps53
    go_wp2_with fail
    obtain ⟨gA, gB, gC, gR, gS, gW⟩ := start4 w 24 (lim 0 a) (lim 1 a) (lim 2 a) (lim 3 a) (lim 0 b) (lim 1 b) (lim 2 b) (lim 3 b) (lim 0 c) (lim 1 c) (lim 2 c) (lim 3 c) _ rfl
    generalize (((w.alloc (.cells #[.int .u64 (lim 0 a : Nat), .int .u64 (lim 1 a : Nat), .int .u64 (lim 2 a : Nat), .int .u64 (lim 3 a : Nat)] 24)).alloc (.cells #[.int .u64 (lim 0 b : Nat), .int .u64 (lim 1 b : Nat), .int .u64 (lim 2 b : Nat), .int .u64 (lim 3 b : Nat)] 24)).alloc (.cells #[.int .u64 (lim 0 c : Nat), .int .u64 (lim 1 c : Nat), .int .u64 (lim 2 c : Nat), .int .u64 (lim 3 c : Nat)] 24)).alloc (.cells #[.int .u64 0, .int .u64 0, .int .u64 0, .int .u64 0] 24) = X at *
    obtain ⟨x0, x1, x2, x3⟩ := gC.cells4
    go_wp2_with fail
    clear x0 x1 x2 x3
    (with_reducible refine (HZ.out _).mono ?_)
    rintro e wz ⟨rfl, hbz⟩
    have gA := gA.below hbz gA.lt
    have gB := gB.below hbz gB.lt
    have gC := gC.below hbz gC.lt
    have gR := gR.below hbz gR.lt
    have gW := gW.trans (hbz.mono gW.size)
    clear hbz gS
    go_wp2_with fail
    refine wp_region_rel 9 [(10, (.is (W a))), (11, .num (a) 8), (12, (.is (W b))), (13, .num (b) 8), (14, .num (a + b) 9), (15, (.is (W c))), (16, .num (c) 8), (17, .num ((a + b) % c) 8), (18, (.is (W ((a + b) % c % 115792089237316195423570985008687907853269984665640564039457584007913129639936))))] (by kernel_rfl) (by kernel_rfl) ?_ ?_
    · refine relOps_cons ?_ (relOps_cons ?_ (relOps_cons ?_ (relOps_cons ?_ (relOps_cons ?_ (relOps_cons ?_ (relOps_cons ?_ (relOps_cons ?_ (relOps_cons ?_ relOps_nil))))))))
      · intro w' hb'
        refine relAsk_out (by rfl) ?_
        refine relAsk_nil ?_
        refine relStep_go (by rfl) ?_
        obtain ⟨x0, x1, x2, x3⟩ := (gA.below hb' gA.lt).cells4
        go_simp
        exact rel_val rfl
      · intro w' hb'
        refine relAsk_in (by rfl) ?_
        intro v10 h10
        obtain rfl : v10 = (W a) := h10
        refine relAsk_nil ?_
        refine relStep_go (by rfl) ?_
        go_simp
        exact rel_call (rN_c iA _) (fun _ _ h => h)
      · intro w' hb'
        refine relAsk_out (by rfl) ?_
        refine relAsk_nil ?_
        refine relStep_go (by rfl) ?_
        obtain ⟨x0, x1, x2, x3⟩ := (gB.below hb' gB.lt).cells4
        go_simp
        exact rel_val rfl
      · intro w' hb'
        refine relAsk_in (by rfl) ?_
        intro v12 h12
        obtain rfl : v12 = (W b) := h12
        refine relAsk_nil ?_
        refine relStep_go (by rfl) ?_
        go_simp
        exact rel_call (rN_c iB _) (fun _ _ h => h)
      · intro w' hb'
        refine relAsk_in (by rfl) ?_
        intro v11 h11
        have h11 : Num w' v11 (a) 8 := h11
        refine relAsk_in (by rfl) ?_
        intro v13 h13
        have h13 : Num w' v13 (b) 8 := h13
        refine relAsk_nil ?_
        refine relStep_go (by rfl) ?_
        go_simp
        exact rel_call (radd_n _ h11 h13 (by omega) (by omega)) (fun _ _ h => h.mono (by omega))
      · intro w' hb'
        refine relAsk_out (by rfl) ?_
        refine relAsk_nil ?_
        refine relStep_go (by rfl) ?_
        obtain ⟨x0, x1, x2, x3⟩ := (gC.below hb' gC.lt).cells4
        go_simp
        exact rel_val rfl
      · intro w' hb'
        refine relAsk_in (by rfl) ?_
        intro v15 h15
        obtain rfl : v15 = (W c) := h15
        refine relAsk_nil ?_
        refine relStep_go (by rfl) ?_
        go_simp
        exact rel_call (rN_c iC _) (fun _ _ h => h)
      · intro w' hb'
        refine relAsk_in (by rfl) ?_
        intro v14 h14
        have h14 : Num w' v14 (a + b) 9 := h14
        refine relAsk_in (by rfl) ?_
        intro v16 h16
        have h16 : Num w' v16 (c) 8 := h16
        refine relAsk_nil ?_
        refine relStep_go (by rfl) ?_
        go_simp
        exact rel_call (rmod_n _ h14 h16 (by omega) (by omega) HB0.out) (fun _ _ h => h.mono (by omega))
      · intro w' hb'
        refine relAsk_in (by rfl) ?_
        intro v17 h17
        have h17 : Num w' v17 ((a + b) % c) 8 := h17
        refine relAsk_nil ?_
        refine relStep_go (by rfl) ?_
        go_simp
        exact rel_callW (rW_n _ h17 (by omega)) (fun _ => rfl)
    · intro w' hb'
      refine relAsk_in (by rfl) ?_
      intro v10 h10
      obtain rfl : v10 = (W a) := h10
      refine relAsk_in (by rfl) ?_
      intro v11 h11
      have h11 : Num w' v11 (a) 8 := h11
      refine relAsk_in (by rfl) ?_
      intro v12 h12
      obtain rfl : v12 = (W b) := h12
      refine relAsk_in (by rfl) ?_
      intro v13 h13
      have h13 : Num w' v13 (b) 8 := h13
      refine relAsk_in (by rfl) ?_
      intro v14 h14
      have h14 : Num w' v14 (a + b) 9 := h14
      refine relAsk_in (by rfl) ?_
      intro v15 h15
      obtain rfl : v15 = (W c) := h15
      refine relAsk_in (by rfl) ?_
      intro v16 h16
      have h16 : Num w' v16 (c) 8 := h16
      refine relAsk_in (by rfl) ?_
      intro v17 h17
      have h17 : Num w' v17 ((a + b) % c) 8 := h17
      refine relAsk_in (by rfl) ?_
      intro v18 h18
      obtain rfl : v18 = (W ((a + b) % c % 115792089237316195423570985008687907853269984665640564039457584007913129639936)) := h18
      refine relAsk_nil ?_
      have kR := gR.below hb' gR.lt
      have kW := gW.trans (hb'.mono gW.size)
      obtain ⟨y0, y1, y2, y3⟩ := kR.cells4
      obtain ⟨f0, f1, f2, f3⟩ := kR.free4
      clear gA gB gC gR iA iB iC hb'
      go_wp2_with fail
      refine bodyPost_ret (v := W ((a + b) % c % 115792089237316195423570985008687907853269984665640564039457584007913129639936)) (by simp [results, Try.results53, go_sem, y0, y1, y2, y3]) rfl ⟨_, _, _, _, rfl, isW_lim (big_mod _), ?_⟩
      repeat (first | exact kW | refine Below.setCell ?_ (by simp; try omega) _)
set_option maxRecDepth 100000 in
set_option maxHeartbeats 3200000 in
theorem mulmod1_c {a b c : Nat} (ha : Big a) (hb : Big b) (hc : Big c) (w : World) : Calls Try.prog 55 #[W a, W b, W c] w (RetW (if c = 0 then c else (a * b) % c % 115792089237316195423570985008687907853269984665640564039457584007913129639936) w) := by
  by_cases hb0 : c = 0
  · have hz := fun w => zero1_true hb0 w
    have he : (if c = 0 then c else (a * b) % c % 115792089237316195423570985008687907853269984665640564039457584007913129639936) = c := by rw [if_pos hb0]
    rw [he]
    have HZ := Lib.hid hz
    clear hz he hb0
    have iA := isW_lim ha
    have iB := isW_lim hb
    have iC := isW_lim hc
    go_enter Try.func55, Try.ntmps55
    go_wp2_with fail
    obtain ⟨gA, gB, gC, gR, gS, gW⟩ := start4 w 24 (lim 0 a) (lim 1 a) (lim 2 a) (lim 3 a) (lim 0 b) (lim 1 b) (lim 2 b) (lim 3 b) (lim 0 c) (lim 1 c) (lim 2 c) (lim 3 c) _ rfl
    generalize (((w.alloc (.cells #[.int .u64 (lim 0 a : Nat), .int .u64 (lim 1 a : Nat), .int .u64 (lim 2 a : Nat), .int .u64 (lim 3 a : Nat)] 24)).alloc (.cells #[.int .u64 (lim 0 b : Nat), .int .u64 (lim 1 b : Nat), .int .u64 (lim 2 b : Nat), .int .u64 (lim 3 b : Nat)] 24)).alloc (.cells #[.int .u64 (lim 0 c : Nat), .int .u64 (lim 1 c : Nat), .int .u64 (lim 2 c : Nat), .int .u64 (lim 3 c : Nat)] 24)).alloc (.cells #[.int .u64 0, .int .u64 0, .int .u64 0, .int .u64 0] 24) = X at *
    obtain ⟨x0, x1, x2, x3⟩ := gC.cells4
    go_wp2_with fail
    clear x0 x1 x2 x3
    (with_reducible refine (HZ.out _).mono ?_)
    rintro e w' ⟨rfl, hb'⟩
    obtain ⟨x0, x1, x2, x3⟩ := (gC.below hb' gC.lt).cells4
    have kR := gR.below hb' gR.lt
    have kW := gW.trans (hb'.mono gW.size)
    obtain ⟨y0, y1, y2, y3⟩ := kR.cells4
    obtain ⟨f0, f1, f2, f3⟩ := kR.free4
    clear gA gB gC gR hb'
    go_wp2_with fail
    refine bodyPost_ret (v := W c) (by simp [results, Try.results55, go_sem, y0, y1, y2, y3]) rfl ⟨_, _, _, _, rfl, iC, ?_⟩
    repeat (first | exact kW | refine Below.setCell ?_ (by simp; try omega) _)
  · have hz := fun w => zero1_false hc hb0 w
    have he : (if c = 0 then c else (a * b) % c % 115792089237316195423570985008687907853269984665640564039457584007913129639936) = ((a * b) % c % 115792089237316195423570985008687907853269984665640564039457584007913129639936) := by rw [if_neg hb0]
    have hbp : 0 < c := Nat.pos_of_ne_zero hb0
    rw [he]
    have HZ := Lib.hid hz
    have HB0 := Lib.hid hbp
    clear hz he hb0 hbp
    have iA := isW_lim ha
    have iB := isW_lim hb
    have iC := isW_lim hc
    go_enter Try.func55, Try.ntmps55
    go_wp2_with fail
    obtain ⟨gA, gB, gC, gR, gS, gW⟩ := start4 w 24 (lim 0 a) (lim 1 a) (lim 2 a) (lim 3 a) (lim 0 b) (lim 1 b) (lim 2 b) (lim 3 b) (lim 0 c) (lim 1 c) (lim 2 c) (lim 3 c) _ rfl
    generalize (((w.alloc (.cells #[.int .u64 (lim 0 a : Nat), .int .u64 (lim 1 a : Nat), .int .u64 (lim 2 a : Nat), .int .u64 (lim 3 a : Nat)] 24)).alloc (.cells #[.int .u64 (lim 0 b : Nat), .int .u64 (lim 1 b : Nat), .int .u64 (lim 2 b : Nat), .int .u64 (lim 3 b : Nat)] 24)).alloc (.cells #[.int .u64 (lim 0 c : Nat), .int .u64 (lim 1 c : Nat), .int .u64 (lim 2 c : Nat), .int .u64 (lim 3 c : Nat)] 24)).alloc (.cells #[.int .u64 0, .int .u64 0, .int .u64 0, .int .u64 0] 24) = X at *
    obtain ⟨x0, x1, x2, x3⟩ := gC.cells4
    go_wp2_with fail
    clear x0 x1 x2 x3
    (with_reducible refine (HZ.out _).mono ?_)
    rintro e wz ⟨rfl, hbz⟩
    have gA := gA.below hbz gA.lt
    have gB := gB.below hbz gB.lt
    have gC := gC.below hbz gC.lt
    have gR := gR.below hbz gR.lt
    have gW := gW.trans (hbz.mono gW.size)
    clear hbz gS
    go_wp2_with fail
    refine wp_region_rel 9 [(10, (.is (W a))), (11, .num (a) 8), (12, (.is (W b))), (13, .num (b) 8), (14, .num (a * b) 16), (15, (.is (W c))), (16, .num (c) 8), (17, .num ((a * b) % c) 8), (18, (.is (W ((a * b) % c % 115792089237316195423570985008687907853269984665640564039457584007913129639936))))] (by kernel_rfl) (by kernel_rfl) ?_ ?_
    · refine relOps_cons ?_ (relOps_cons ?_ (relOps_cons ?_ (relOps_cons ?_ (relOps_cons ?_ (relOps_cons ?_ (relOps_cons ?_ (relOps_cons ?_ (relOps_cons ?_ relOps_nil))))))))
      · intro w' hb'
        refine relAsk_out (by rfl) ?_
        refine relAsk_nil ?_
        refine relStep_go (by rfl) ?_
        obtain ⟨x0, x1, x2, x3⟩ := (gA.below hb' gA.lt).cells4
        go_simp
        exact rel_val rfl
      · intro w' hb'
        refine relAsk_in (by rfl) ?_
        intro v10 h10
        obtain rfl : v10 = (W a) := h10
        refine relAsk_nil ?_
        refine relStep_go (by rfl) ?_
        go_simp
        exact rel_call (rN_c iA _) (fun _ _ h => h)
      · intro w' hb'
        refine relAsk_out (by rfl) ?_
        refine relAsk_nil ?_
        refine relStep_go (by rfl) ?_
        obtain ⟨x0, x1, x2, x3⟩ := (gB.below hb' gB.lt).cells4
        go_simp
        exact rel_val rfl
      · intro w' hb'
        refine relAsk_in (by rfl) ?_
        intro v12 h12
        obtain rfl : v12 = (W b) := h12
        refine relAsk_nil ?_
        refine relStep_go (by rfl) ?_
        go_simp
        exact rel_call (rN_c iB _) (fun _ _ h => h)
      · intro w' hb'
        refine relAsk_in (by rfl) ?_
        intro v11 h11
        have h11 : Num w' v11 (a) 8 := h11
        refine relAsk_in (by rfl) ?_
        intro v13 h13
        have h13 : Num w' v13 (b) 8 := h13
        refine relAsk_nil ?_
        refine relStep_go (by rfl) ?_
        go_simp
        exact rel_call (rmul_n _ h11 h13 (by omega) (by omega)) (fun _ _ h => h.mono (by omega))
      · intro w' hb'
        refine relAsk_out (by rfl) ?_
        refine relAsk_nil ?_
        refine relStep_go (by rfl) ?_
        obtain ⟨x0, x1, x2, x3⟩ := (gC.below hb' gC.lt).cells4
        go_simp
        exact rel_val rfl
      · intro w' hb'
        refine relAsk_in (by rfl) ?_
        intro v15 h15
        obtain rfl : v15 = (W c) := h15
        refine relAsk_nil ?_
        refine relStep_go (by rfl) ?_
        go_simp
        exact rel_call (rN_c iC _) (fun _ _ h => h)
      · intro w' hb'
        refine relAsk_in (by rfl) ?_
        intro v14 h14
        have h14 : Num w' v14 (a * b) 16 := h14
        refine relAsk_in (by rfl) ?_
        intro v16 h16
        have h16 : Num w' v16 (c) 8 := h16
        refine relAsk_nil ?_
        refine relStep_go (by rfl) ?_
        go_simp
        exact rel_call (rmod_n _ h14 h16 (by omega) (by omega) HB0.out) (fun _ _ h => h.mono (by omega))
      · intro w' hb'
        refine relAsk_in (by rfl) ?_
        intro v17 h17
        have h17 : Num w' v17 ((a * b) % c) 8 := h17
        refine relAsk_nil ?_
        refine relStep_go (by rfl) ?_
        go_simp
        exact rel_callW (rW_n _ h17 (by omega)) (fun _ => rfl)
    · intro w' hb'
      refine relAsk_in (by rfl) ?_
      intro v10 h10
      obtain rfl : v10 = (W a) := h10
      refine relAsk_in (by rfl) ?_
      intro v11 h11
      have h11 : Num w' v11 (a) 8 := h11
      refine relAsk_in (by rfl) ?_
      intro v12 h12
      obtain rfl : v12 = (W b) := h12
      refine relAsk_in (by rfl) ?_
      intro v13 h13
      have h13 : Num w' v13 (b) 8 := h13
      refine relAsk_in (by rfl) ?_
      intro v14 h14
      have h14 : Num w' v14 (a * b) 16 := h14
      refine relAsk_in (by rfl) ?_
      intro v15 h15
      obtain rfl : v15 = (W c) := h15
      refine relAsk_in (by rfl) ?_
      intro v16 h16
      have h16 : Num w' v16 (c) 8 := h16
      refine relAsk_in (by rfl) ?_
      intro v17 h17
      have h17 : Num w' v17 ((a * b) % c) 8 := h17
      refine relAsk_in (by rfl) ?_
      intro v18 h18
      obtain rfl : v18 = (W ((a * b) % c % 115792089237316195423570985008687907853269984665640564039457584007913129639936)) := h18
      refine relAsk_nil ?_
      have kR := gR.below hb' gR.lt
      have kW := gW.trans (hb'.mono gW.size)
      obtain ⟨y0, y1, y2, y3⟩ := kR.cells4
      obtain ⟨f0, f1, f2, f3⟩ := kR.free4
      clear gA gB gC gR iA iB iC hb'
      go_wp2_with fail
      refine bodyPost_ret (v := W ((a * b) % c % 115792089237316195423570985008687907853269984665640564039457584007913129639936)) (by simp [results, Try.results55, go_sem, y0, y1, y2, y3]) rfl ⟨_, _, _, _, rfl, isW_lim (big_mod _), ?_⟩
      repeat (first | exact kW | refine Below.setCell ?_ (by simp; try omega) _)
end Go.Proofs.Ytihffojljbgpcaa
