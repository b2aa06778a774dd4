/- The contracts of package quarryref01's zero, Minus, quotients, rests and powers. -/
import Derived.Test.YtihffojljbgpcaaRefW
import Derived.Test.YtihffojljbgpcaaRSub
import Derived.Test.YtihffojljbgpcaaRAdd
import Derived.Test.YtihffojljbgpcaaRMul
import Derived.Test.YtihffojljbgpcaaFacts
import Derived.Test.YtihffojljbgpcaaEqArr
namespace Go.Proofs.Ytihffojljbgpcaa
open Go.RowKit

theorem eq_zero_true {b : Nat} (h : b = 0) (w : World) : (Op.equalIn 10000 24 (W b) (.agg #[.int .u64 0, .int .u64 0, .int .u64 0, .int .u64 0])).run Try.prog w = .ok true w := by
  have k := eqIn (lim 0 b) (lim 1 b) (lim 2 b) (lim 3 b) 0 0 0 0 w
  rw [show decide (lim 0 b = 0 ∧ lim 1 b = 0 ∧ lim 2 b = 0 ∧ lim 3 b = 0) = true by rw [h]; simp [lim]] at k
  exact k
theorem eq_zero_false {b : Nat} (hb : Big b) (h : b ≠ 0) (w : World) : (Op.equalIn 10000 24 (W b) (.agg #[.int .u64 0, .int .u64 0, .int .u64 0, .int .u64 0])).run Try.prog w = .ok false w := by
  have k := eqIn (lim 0 b) (lim 1 b) (lim 2 b) (lim 3 b) 0 0 0 0 w
  rw [show decide (lim 0 b = 0 ∧ lim 1 b = 0 ∧ lim 2 b = 0 ∧ lim 3 b = 0) = false by
    refine decide_eq_false fun ⟨h0, h1, h2, h3⟩ => h ?_
    have := (isW_lim hb).2.2.2.2
    rw [h0, h1, h2, h3] at this
    simpa using this] at k
  exact k
set_option maxRecDepth 100000 in
set_option maxHeartbeats 1600000 in
theorem zero1_true {b : Nat} (h : b = 0) (w : World) : Calls Try.prog 114 #[W b] w (RetV (.bool true) w) := by
  have z := eq_zero_true h
  clear h
  go_enter Try.func114, Try.ntmps114
  go_wp2_with fail
  go_ret
  exact ⟨rfl, (Below.refl _ _).alloc (Nat.le_refl _) _⟩
set_option maxRecDepth 100000 in
set_option maxHeartbeats 1600000 in
theorem zero1_false {b : Nat} (hb : Big b) (h : b ≠ 0) (w : World) : Calls Try.prog 114 #[W b] w (RetV (.bool false) w) := by
  have z := eq_zero_false hb h
  clear h
  go_enter Try.func114, Try.ntmps114
  go_wp2_with fail
  go_ret
  exact ⟨rfl, (Below.refl _ _).alloc (Nat.le_refl _) _⟩
set_option maxRecDepth 100000 in
set_option maxHeartbeats 3200000 in
theorem mod1_c {a b : Nat} (ha : Big a) (hb : Big b) (w : World) : Calls Try.prog 47 #[W a, W b] w (RetW (if b = 0 then b else a % b % 115792089237316195423570985008687907853269984665640564039457584007913129639936) w) := by
  by_cases hb0 : b = 0
  · have hz := fun w => zero1_true hb0 w
    have he : (if b = 0 then b else a % b % 115792089237316195423570985008687907853269984665640564039457584007913129639936) = b := by rw [if_pos hb0]
    rw [he]
    have HZ := Lib.hid hz
    clear hz he hb0
    have iA := isW_lim ha
    have iB := isW_lim hb
    go_enter Try.func47, Try.ntmps47
    go_wp2_with fail
    obtain ⟨gA, gB, gR, gS, gW⟩ := start3 w 24 (lim 0 a) (lim 1 a) (lim 2 a) (lim 3 a) (lim 0 b) (lim 1 b) (lim 2 b) (lim 3 b) _ rfl
    generalize ((w.alloc (.cells #[.int .u64 (lim 0 a : Nat), .int .u64 (lim 1 a : Nat), .int .u64 (lim 2 a : Nat), .int .u64 (lim 3 a : Nat)] 24)).alloc (.cells #[.int .u64 (lim 0 b : Nat), .int .u64 (lim 1 b : Nat), .int .u64 (lim 2 b : Nat), .int .u64 (lim 3 b : Nat)] 24)).alloc (.cells #[.int .u64 0, .int .u64 0, .int .u64 0, .int .u64 0] 24) = X at *
    obtain ⟨x0, x1, x2, x3⟩ := gB.cells4
    go_wp2_with fail
    clear x0 x1 x2 x3
    (with_reducible refine (HZ.out _).mono ?_)
    rintro e w' ⟨rfl, hb'⟩
    have hb' := hb'
    obtain ⟨x0, x1, x2, x3⟩ := (gB.below hb' gB.lt).cells4
    have kR := gR.below hb' gR.lt
    have kW := gW.trans (hb'.mono gW.size)
    obtain ⟨y0, y1, y2, y3⟩ := kR.cells4
    obtain ⟨f0, f1, f2, f3⟩ := kR.free4
    clear gA gB gR hb'
    go_wp2_with fail
    refine bodyPost_ret (v := W b) (by simp [results, Try.results47, go_sem, y0, y1, y2, y3]) rfl ⟨_, _, _, _, rfl, iB, ?_⟩
    repeat (first | exact kW | refine Below.setCell ?_ (by simp; try omega) _)
  · have hz := fun w => zero1_false hb hb0 w
    have he : (if b = 0 then b else a % b % 115792089237316195423570985008687907853269984665640564039457584007913129639936) = (a % b % 115792089237316195423570985008687907853269984665640564039457584007913129639936) := by rw [if_neg hb0]
    have hbp : 0 < b := Nat.pos_of_ne_zero hb0
    rw [he]
    have HZ := Lib.hid hz
    have HB0 := Lib.hid hbp
    clear hz he hb0 hbp
    have iA := isW_lim ha
    have iB := isW_lim hb
    go_enter Try.func47, Try.ntmps47
    go_wp2_with fail
    obtain ⟨gA, gB, gR, gS, gW⟩ := start3 w 24 (lim 0 a) (lim 1 a) (lim 2 a) (lim 3 a) (lim 0 b) (lim 1 b) (lim 2 b) (lim 3 b) _ rfl
    generalize ((w.alloc (.cells #[.int .u64 (lim 0 a : Nat), .int .u64 (lim 1 a : Nat), .int .u64 (lim 2 a : Nat), .int .u64 (lim 3 a : Nat)] 24)).alloc (.cells #[.int .u64 (lim 0 b : Nat), .int .u64 (lim 1 b : Nat), .int .u64 (lim 2 b : Nat), .int .u64 (lim 3 b : Nat)] 24)).alloc (.cells #[.int .u64 0, .int .u64 0, .int .u64 0, .int .u64 0] 24) = X at *
    obtain ⟨x0, x1, x2, x3⟩ := gB.cells4
    go_wp2_with fail
    clear x0 x1 x2 x3
    (with_reducible refine (HZ.out _).mono ?_)
    rintro e wz ⟨rfl, hbz⟩
    have gA := gA.below hbz gA.lt
    have gB := gB.below hbz gB.lt
    have gR := gR.below hbz gR.lt
    have gW := gW.trans (hbz.mono gW.size)
    clear hbz gS
    go_wp2_with fail
    refine wp_region_rel 6 [(8, (.is (W a))), (9, .num (a) 8), (10, (.is (W b))), (11, .num (b) 8), (12, .num (a % b) 8), (13, (.is (W (a % b % 115792089237316195423570985008687907853269984665640564039457584007913129639936))))] (by kernel_rfl) (by kernel_rfl) ?_ ?_
    · refine relOps_cons ?_ (relOps_cons ?_ (relOps_cons ?_ (relOps_cons ?_ (relOps_cons ?_ (relOps_cons ?_ relOps_nil)))))
      · intro w' hb'
        refine relAsk_out (by rfl) ?_
        refine relAsk_nil ?_
        refine relStep_go (by rfl) ?_
        obtain ⟨x0, x1, x2, x3⟩ := (gA.below hb' gA.lt).cells4
        go_simp
        exact rel_val rfl
      · intro w' hb'
        refine relAsk_in (by rfl) ?_
        intro v8 h8
        obtain rfl : v8 = (W a) := h8
        refine relAsk_nil ?_
        refine relStep_go (by rfl) ?_
        go_simp
        exact rel_call (rN_c iA _) (fun _ _ h => h)
      · intro w' hb'
        refine relAsk_out (by rfl) ?_
        refine relAsk_nil ?_
        refine relStep_go (by rfl) ?_
        obtain ⟨x0, x1, x2, x3⟩ := (gB.below hb' gB.lt).cells4
        go_simp
        exact rel_val rfl
      · intro w' hb'
        refine relAsk_in (by rfl) ?_
        intro v10 h10
        obtain rfl : v10 = (W b) := h10
        refine relAsk_nil ?_
        refine relStep_go (by rfl) ?_
        go_simp
        exact rel_call (rN_c iB _) (fun _ _ h => h)
      · intro w' hb'
        refine relAsk_in (by rfl) ?_
        intro v9 h9
        have h9 : Num w' v9 (a) 8 := h9
        refine relAsk_in (by rfl) ?_
        intro v11 h11
        have h11 : Num w' v11 (b) 8 := h11
        refine relAsk_nil ?_
        refine relStep_go (by rfl) ?_
        go_simp
        exact rel_call (rmod_n _ h9 h11 (by omega) (by omega) HB0.out) (fun _ _ h => h.mono (by omega))
      · intro w' hb'
        refine relAsk_in (by rfl) ?_
        intro v12 h12
        have h12 : Num w' v12 (a % b) 8 := h12
        refine relAsk_nil ?_
        refine relStep_go (by rfl) ?_
        go_simp
        exact rel_callW (rW_n _ h12 (by omega)) (fun _ => rfl)
    · intro w' hb'
      refine relAsk_in (by rfl) ?_
      intro v8 h8
      obtain rfl : v8 = (W a) := h8
      refine relAsk_in (by rfl) ?_
      intro v9 h9
      have h9 : Num w' v9 (a) 8 := h9
      refine relAsk_in (by rfl) ?_
      intro v10 h10
      obtain rfl : v10 = (W b) := h10
      refine relAsk_in (by rfl) ?_
      intro v11 h11
      have h11 : Num w' v11 (b) 8 := h11
      refine relAsk_in (by rfl) ?_
      intro v12 h12
      have h12 : Num w' v12 (a % b) 8 := h12
      refine relAsk_in (by rfl) ?_
      intro v13 h13
      obtain rfl : v13 = (W (a % b % 115792089237316195423570985008687907853269984665640564039457584007913129639936)) := h13
      refine relAsk_nil ?_
      have kR := gR.below hb' gR.lt
      have kW := gW.trans (hb'.mono gW.size)
      obtain ⟨y0, y1, y2, y3⟩ := kR.cells4
      obtain ⟨f0, f1, f2, f3⟩ := kR.free4
      clear gA gB gR iA iB hb'
      go_wp2_with fail
      refine bodyPost_ret (v := W (a % b % 115792089237316195423570985008687907853269984665640564039457584007913129639936)) (by simp [results, Try.results47, go_sem, y0, y1, y2, y3]) rfl ⟨_, _, _, _, rfl, isW_lim (big_mod _), ?_⟩
      repeat (first | exact kW | refine Below.setCell ?_ (by simp; try omega) _)
set_option maxRecDepth 100000 in
set_option maxHeartbeats 3200000 in
theorem div1_c {a b : Nat} (ha : Big a) (hb : Big b) (w : World) : Calls Try.prog 45 #[W a, W b] w (RetW (if b = 0 then b else a / b % 115792089237316195423570985008687907853269984665640564039457584007913129639936) w) := by
  by_cases hb0 : b = 0
  · have hz := fun w => zero1_true hb0 w
    have he : (if b = 0 then b else a / b % 115792089237316195423570985008687907853269984665640564039457584007913129639936) = b := by rw [if_pos hb0]
    rw [he]
    have HZ := Lib.hid hz
    clear hz he hb0
    have iA := isW_lim ha
    have iB := isW_lim hb
    go_enter Try.func45, Try.ntmps45
    go_wp2_with fail
    obtain ⟨gA, gB, gR, gS, gW⟩ := start3 w 24 (lim 0 a) (lim 1 a) (lim 2 a) (lim 3 a) (lim 0 b) (lim 1 b) (lim 2 b) (lim 3 b) _ rfl
    generalize ((w.alloc (.cells #[.int .u64 (lim 0 a : Nat), .int .u64 (lim 1 a : Nat), .int .u64 (lim 2 a : Nat), .int .u64 (lim 3 a : Nat)] 24)).alloc (.cells #[.int .u64 (lim 0 b : Nat), .int .u64 (lim 1 b : Nat), .int .u64 (lim 2 b : Nat), .int .u64 (lim 3 b : Nat)] 24)).alloc (.cells #[.int .u64 0, .int .u64 0, .int .u64 0, .int .u64 0] 24) = X at *
    obtain ⟨x0, x1, x2, x3⟩ := gB.cells4
    go_wp2_with fail
    clear x0 x1 x2 x3
    (with_reducible refine (HZ.out _).mono ?_)
    rintro e w' ⟨rfl, hb'⟩
    have hb' := hb'
    obtain ⟨x0, x1, x2, x3⟩ := (gB.below hb' gB.lt).cells4
    have kR := gR.below hb' gR.lt
    have kW := gW.trans (hb'.mono gW.size)
    obtain ⟨y0, y1, y2, y3⟩ := kR.cells4
    obtain ⟨f0, f1, f2, f3⟩ := kR.free4
    clear gA gB gR hb'
    go_wp2_with fail
    refine bodyPost_ret (v := W b) (by simp [results, Try.results45, go_sem, y0, y1, y2, y3]) rfl ⟨_, _, _, _, rfl, iB, ?_⟩
    repeat (first | exact kW | refine Below.setCell ?_ (by simp; try omega) _)
  · have hz := fun w => zero1_false hb hb0 w
    have he : (if b = 0 then b else a / b % 115792089237316195423570985008687907853269984665640564039457584007913129639936) = (a / b % 115792089237316195423570985008687907853269984665640564039457584007913129639936) := by rw [if_neg hb0]
    have hbp : 0 < b := Nat.pos_of_ne_zero hb0
    rw [he]
    have HZ := Lib.hid hz
    have HB0 := Lib.hid hbp
    clear hz he hb0 hbp
    have iA := isW_lim ha
    have iB := isW_lim hb
    go_enter Try.func45, Try.ntmps45
    go_wp2_with fail
    obtain ⟨gA, gB, gR, gS, gW⟩ := start3 w 24 (lim 0 a) (lim 1 a) (lim 2 a) (lim 3 a) (lim 0 b) (lim 1 b) (lim 2 b) (lim 3 b) _ rfl
    generalize ((w.alloc (.cells #[.int .u64 (lim 0 a : Nat), .int .u64 (lim 1 a : Nat), .int .u64 (lim 2 a : Nat), .int .u64 (lim 3 a : Nat)] 24)).alloc (.cells #[.int .u64 (lim 0 b : Nat), .int .u64 (lim 1 b : Nat), .int .u64 (lim 2 b : Nat), .int .u64 (lim 3 b : Nat)] 24)).alloc (.cells #[.int .u64 0, .int .u64 0, .int .u64 0, .int .u64 0] 24) = X at *
    obtain ⟨x0, x1, x2, x3⟩ := gB.cells4
    go_wp2_with fail
    clear x0 x1 x2 x3
    (with_reducible refine (HZ.out _).mono ?_)
    rintro e wz ⟨rfl, hbz⟩
    have gA := gA.below hbz gA.lt
    have gB := gB.below hbz gB.lt
    have gR := gR.below hbz gR.lt
    have gW := gW.trans (hbz.mono gW.size)
    clear hbz gS
    go_wp2_with fail
    refine wp_region_rel 10 [(11, (.is (W a))), (12, .num (a) 8), (13, (.is (W b))), (14, .num (b) 8), (15, .two (a / b) (a % b) 8 8), (10, .two (a / b) (a % b) 8 8), (16, .num (a / b) 8), (17, .num (a % b) 8), (5, .num (a / b) 8), (6, .num (a % b) 8)] (by kernel_rfl) (by kernel_rfl) ?_ ?_
    · refine relOps_cons ?_ (relOps_cons ?_ (relOps_cons ?_ (relOps_cons ?_ (relOps_cons ?_ (relOps_cons ?_ (relOps_cons ?_ (relOps_cons ?_ (relOps_cons ?_ (relOps_cons ?_ relOps_nil)))))))))
      · intro w' hb'
        refine relAsk_out (by rfl) ?_
        refine relAsk_nil ?_
        refine relStep_go (by rfl) ?_
        obtain ⟨x0, x1, x2, x3⟩ := (gA.below hb' gA.lt).cells4
        go_simp
        exact rel_val rfl
      · intro w' hb'
        refine relAsk_in (by rfl) ?_
        intro v11 h11
        obtain rfl : v11 = (W a) := h11
        refine relAsk_nil ?_
        refine relStep_go (by rfl) ?_
        go_simp
        exact rel_call (rN_c iA _) (fun _ _ h => h)
      · intro w' hb'
        refine relAsk_out (by rfl) ?_
        refine relAsk_nil ?_
        refine relStep_go (by rfl) ?_
        obtain ⟨x0, x1, x2, x3⟩ := (gB.below hb' gB.lt).cells4
        go_simp
        exact rel_val rfl
      · intro w' hb'
        refine relAsk_in (by rfl) ?_
        intro v13 h13
        obtain rfl : v13 = (W b) := h13
        refine relAsk_nil ?_
        refine relStep_go (by rfl) ?_
        go_simp
        exact rel_call (rN_c iB _) (fun _ _ h => h)
      · intro w' hb'
        refine relAsk_in (by rfl) ?_
        intro v12 h12
        have h12 : Num w' v12 (a) 8 := h12
        refine relAsk_in (by rfl) ?_
        intro v14 h14
        have h14 : Num w' v14 (b) 8 := h14
        refine relAsk_nil ?_
        refine relStep_go (by rfl) ?_
        go_simp
        exact rel_call2 (rdiv_n _ h12 h14 (by omega) (by omega) HB0.out) (fun _ _ h => h)
      · intro w' hb'
        refine relAsk_in (by rfl) ?_
        intro v15 h15
        have h15 : Two w' v15 (a / b) (a % b) 8 8 := h15
        refine relAsk_nil ?_
        refine relStep_go (by rfl) ?_
        go_simp
        exact rel_val h15
      · intro w' hb'
        refine relAsk_in (by rfl) ?_
        intro v10 h10
        have h10 : Two w' v10 (a / b) (a % b) 8 8 := h10
        refine relAsk_nil ?_
        refine relStep_go (by rfl) ?_
        obtain ⟨x, y, rfl, hx, hy⟩ := h10
        go_simp
        exact rel_val hx
      · intro w' hb'
        refine relAsk_in (by rfl) ?_
        intro v10 h10
        have h10 : Two w' v10 (a / b) (a % b) 8 8 := h10
        refine relAsk_nil ?_
        refine relStep_go (by rfl) ?_
        obtain ⟨x, y, rfl, hx, hy⟩ := h10
        go_simp
        exact rel_val hy
      · intro w' hb'
        refine relAsk_in (by rfl) ?_
        intro v16 h16
        have h16 : Num w' v16 (a / b) 8 := h16
        refine relAsk_nil ?_
        refine relStep_go (by rfl) ?_
        go_simp
        exact rel_val h16
      · intro w' hb'
        refine relAsk_in (by rfl) ?_
        intro v17 h17
        have h17 : Num w' v17 (a % b) 8 := h17
        refine relAsk_nil ?_
        refine relStep_go (by rfl) ?_
        go_simp
        exact rel_val h17
    · intro w' hb'
      refine relAsk_in (by rfl) ?_
      intro v11 h11
      obtain rfl : v11 = (W a) := h11
      refine relAsk_in (by rfl) ?_
      intro v12 h12
      have h12 : Num w' v12 (a) 8 := h12
      refine relAsk_in (by rfl) ?_
      intro v13 h13
      obtain rfl : v13 = (W b) := h13
      refine relAsk_in (by rfl) ?_
      intro v14 h14
      have h14 : Num w' v14 (b) 8 := h14
      refine relAsk_in (by rfl) ?_
      intro v15 h15
      have h15 : Two w' v15 (a / b) (a % b) 8 8 := h15
      refine relAsk_in (by rfl) ?_
      intro v10 h10
      have h10 : Two w' v10 (a / b) (a % b) 8 8 := h10
      refine relAsk_in (by rfl) ?_
      intro v16 h16
      have h16 : Num w' v16 (a / b) 8 := h16
      refine relAsk_in (by rfl) ?_
      intro v17 h17
      have h17 : Num w' v17 (a % b) 8 := h17
      refine relAsk_in (by rfl) ?_
      intro v5 h5
      have h5 : Num w' v5 (a / b) 8 := h5
      refine relAsk_in (by rfl) ?_
      intro v6 h6
      have h6 : Num w' v6 (a % b) 8 := h6
      refine relAsk_nil ?_
      refine wpList_nil ?_
      go_wp2_with fail
      (with_reducible refine (rW_n _ h5 (by omega)).mono ?_)
      rintro e w'' hw
      obtain ⟨rfl, hbw⟩ := hw.val
      have kR := (gR.below hb' gR.lt).below hbw (gR.below hb' gR.lt).lt
      have kW := (gW.trans (hb'.mono gW.size)).trans (hbw.mono (gW.trans (hb'.mono gW.size)).size)
      obtain ⟨y0, y1, y2, y3⟩ := kR.cells4
      obtain ⟨f0, f1, f2, f3⟩ := kR.free4
      clear gA gB gR iA iB hb' hbw hw
      go_wp2_with fail
      refine bodyPost_ret (v := W (a / b % 115792089237316195423570985008687907853269984665640564039457584007913129639936)) (by simp [results, Try.results45, go_sem, y0, y1, y2, y3]) rfl ⟨_, _, _, _, rfl, isW_lim (big_mod _), ?_⟩
      repeat (first | exact kW | refine Below.setCell ?_ (by simp; try omega) _)
set_option maxRecDepth 100000 in
set_option maxHeartbeats 3200000 in
theorem exp1_c {a b p : Nat} (ha : Big a) (hb : Big b) (hp : p = a ^ b % 115792089237316195423570985008687907853269984665640564039457584007913129639936) (w : World) : Calls Try.prog 57 #[W a, W b] w (RetW (p % 115792089237316195423570985008687907853269984665640564039457584007913129639936) w) := by
  have HP := Lib.hid hp
  clear hp
  have iA := isW_lim ha
  have iB := isW_lim hb
  go_enter Try.func57, Try.ntmps57
  go_wp2_with fail
  obtain ⟨gA, gB, gR, gS, gW⟩ := start3 w 24 (lim 0 a) (lim 1 a) (lim 2 a) (lim 3 a) (lim 0 b) (lim 1 b) (lim 2 b) (lim 3 b) _ rfl
  generalize ((w.alloc (.cells #[.int .u64 (lim 0 a : Nat), .int .u64 (lim 1 a : Nat), .int .u64 (lim 2 a : Nat), .int .u64 (lim 3 a : Nat)] 24)).alloc (.cells #[.int .u64 (lim 0 b : Nat), .int .u64 (lim 1 b : Nat), .int .u64 (lim 2 b : Nat), .int .u64 (lim 3 b : Nat)] 24)).alloc (.cells #[.int .u64 0, .int .u64 0, .int .u64 0, .int .u64 0] 24) = X at *
  refine wp_region_rel 7 [(5, (.is (W a))), (6, .num (a) 8), (7, (.is (W b))), (8, .num (b) 8), (9, .num (115792089237316195423570985008687907853269984665640564039457584007913129639936) 10), (10, .num (p) 10), (11, (.is (W (p % 115792089237316195423570985008687907853269984665640564039457584007913129639936))))] (by kernel_rfl) (by kernel_rfl) ?_ ?_
  · refine relOps_cons ?_ (relOps_cons ?_ (relOps_cons ?_ (relOps_cons ?_ (relOps_cons ?_ (relOps_cons ?_ (relOps_cons ?_ relOps_nil))))))
    · intro w' hb'
      refine relAsk_out (by rfl) ?_
      refine relAsk_nil ?_
      refine relStep_go (by rfl) ?_
      obtain ⟨x0, x1, x2, x3⟩ := (gA.below hb' gA.lt).cells4
      go_simp
      exact rel_val rfl
    · intro w' hb'
      refine relAsk_in (by rfl) ?_
      intro v5 h5
      obtain rfl : v5 = (W a) := h5
      refine relAsk_nil ?_
      refine relStep_go (by rfl) ?_
      go_simp
      exact rel_call (rN_c iA _) (fun _ _ h => h)
    · intro w' hb'
      refine relAsk_out (by rfl) ?_
      refine relAsk_nil ?_
      refine relStep_go (by rfl) ?_
      obtain ⟨x0, x1, x2, x3⟩ := (gB.below hb' gB.lt).cells4
      go_simp
      exact rel_val rfl
    · intro w' hb'
      refine relAsk_in (by rfl) ?_
      intro v7 h7
      obtain rfl : v7 = (W b) := h7
      refine relAsk_nil ?_
      refine relStep_go (by rfl) ?_
      go_simp
      exact rel_call (rN_c iB _) (fun _ _ h => h)
    · intro w' hb'
      refine relAsk_nil ?_
      refine relStep_go (by rfl) ?_
      go_simp
      exact rel_call (rtop_c _) (fun _ _ h => h)
    · intro w' hb'
      refine relAsk_in (by rfl) ?_
      intro v6 h6
      have h6 : Num w' v6 (a) 8 := h6
      refine relAsk_in (by rfl) ?_
      intro v8 h8
      have h8 : Num w' v8 (b) 8 := h8
      refine relAsk_in (by rfl) ?_
      intro v9 h9
      have h9 : Num w' v9 (115792089237316195423570985008687907853269984665640564039457584007913129639936) 10 := h9
      refine relAsk_nil ?_
      refine relStep_go (by rfl) ?_
      have hE := rexp_n _ h6 h8 h9 (by omega) (by omega) (by omega) (by omega)
      rw [← HP.out] at hE
      go_simp
      exact rel_call hE (fun _ _ h => h)
    · intro w' hb'
      refine relAsk_in (by rfl) ?_
      intro v10 h10
      have h10 : Num w' v10 (p) 10 := h10
      refine relAsk_nil ?_
      refine relStep_go (by rfl) ?_
      go_simp
      exact rel_callW (rW_n _ h10 (by omega)) (fun _ => rfl)
  · intro w' hb'
    refine relAsk_in (by rfl) ?_
    intro v5 h5
    obtain rfl : v5 = (W a) := h5
    refine relAsk_in (by rfl) ?_
    intro v6 h6
    have h6 : Num w' v6 (a) 8 := h6
    refine relAsk_in (by rfl) ?_
    intro v7 h7
    obtain rfl : v7 = (W b) := h7
    refine relAsk_in (by rfl) ?_
    intro v8 h8
    have h8 : Num w' v8 (b) 8 := h8
    refine relAsk_in (by rfl) ?_
    intro v9 h9
    have h9 : Num w' v9 (115792089237316195423570985008687907853269984665640564039457584007913129639936) 10 := h9
    refine relAsk_in (by rfl) ?_
    intro v10 h10
    have h10 : Num w' v10 (p) 10 := h10
    refine relAsk_in (by rfl) ?_
    intro v11 h11
    obtain rfl : v11 = (W (p % 115792089237316195423570985008687907853269984665640564039457584007913129639936)) := h11
    refine relAsk_nil ?_
    have kR := gR.below hb' gR.lt
    have kW := gW.trans (hb'.mono gW.size)
    obtain ⟨y0, y1, y2, y3⟩ := kR.cells4
    obtain ⟨f0, f1, f2, f3⟩ := kR.free4
    clear gA gB gR iA iB hb'
    go_wp2_with fail
    refine bodyPost_ret (v := W (p % 115792089237316195423570985008687907853269984665640564039457584007913129639936)) (by simp [results, Try.results57, go_sem, y0, y1, y2, y3]) rfl ⟨_, _, _, _, rfl, isW_lim (big_mod _), ?_⟩
    repeat (first | exact kW | refine Below.setCell ?_ (by simp; try omega) _)
set_option maxRecDepth 100000 in
set_option maxHeartbeats 3200000 in
theorem wide1_c {a b p q : Nat} (ha : Big a) (hb : Big b) (hp : p = a * b / 115792089237316195423570985008687907853269984665640564039457584007913129639936) (hq : q = a * b % 115792089237316195423570985008687907853269984665640564039457584007913129639936) (w : World) : Calls Try.prog 37 #[W a, W b] w (RetV (.tuple #[W (p % 115792089237316195423570985008687907853269984665640564039457584007913129639936), W (q % 115792089237316195423570985008687907853269984665640564039457584007913129639936)]) w) := by
  have HP := Lib.hid hp
  have HQ := Lib.hid hq
  clear hp hq
  have iA := isW_lim ha
  have iB := isW_lim hb
  go_enter Try.func37, Try.ntmps37
  go_wp2_with fail
  obtain ⟨gA, gB, gR, gS, gW⟩ := start3 w 24 (lim 0 a) (lim 1 a) (lim 2 a) (lim 3 a) (lim 0 b) (lim 1 b) (lim 2 b) (lim 3 b) _ rfl
  generalize ((w.alloc (.cells #[.int .u64 (lim 0 a : Nat), .int .u64 (lim 1 a : Nat), .int .u64 (lim 2 a : Nat), .int .u64 (lim 3 a : Nat)] 24)).alloc (.cells #[.int .u64 (lim 0 b : Nat), .int .u64 (lim 1 b : Nat), .int .u64 (lim 2 b : Nat), .int .u64 (lim 3 b : Nat)] 24)).alloc (.cells #[.int .u64 0, .int .u64 0, .int .u64 0, .int .u64 0] 24) = X at *
  have gS2 := Arr.new4z X 24
  have gA := gA.alloc (.cells #[.int .u64 0, .int .u64 0, .int .u64 0, .int .u64 0] 24)
  have gB := gB.alloc (.cells #[.int .u64 0, .int .u64 0, .int .u64 0, .int .u64 0] 24)
  have gR := gR.alloc (.cells #[.int .u64 0, .int .u64 0, .int .u64 0, .int .u64 0] 24)
  have gW := gW.alloc (by omega) (.cells #[.int .u64 0, .int .u64 0, .int .u64 0, .int .u64 0] 24)
  rw [gS] at gS2
  generalize X.alloc (.cells #[.int .u64 0, .int .u64 0, .int .u64 0, .int .u64 0] 24) = Y at *
  refine wp_region_rel 12 [(9, (.is (W a))), (10, .num (a) 8), (11, (.is (W b))), (12, .num (b) 8), (13, .num (a * b) 16), (14, .num (115792089237316195423570985008687907853269984665640564039457584007913129639936) 10), (15, .two (p) (q) 16 10), (8, .two (p) (q) 16 10), (16, .num (p) 16), (17, .num (q) 10), (6, .num (p) 16), (7, .num (q) 10)] (by kernel_rfl) (by kernel_rfl) ?_ ?_
  · refine relOps_cons ?_ (relOps_cons ?_ (relOps_cons ?_ (relOps_cons ?_ (relOps_cons ?_ (relOps_cons ?_ (relOps_cons ?_ (relOps_cons ?_ (relOps_cons ?_ (relOps_cons ?_ (relOps_cons ?_ (relOps_cons ?_ relOps_nil)))))))))))
    · intro w' hb'
      refine relAsk_out (by rfl) ?_
      refine relAsk_nil ?_
      refine relStep_go (by rfl) ?_
      obtain ⟨x0, x1, x2, x3⟩ := (gA.below hb' gA.lt).cells4
      go_simp
      exact rel_val rfl
    · intro w' hb'
      refine relAsk_in (by rfl) ?_
      intro v9 h9
      obtain rfl : v9 = (W a) := h9
      refine relAsk_nil ?_
      refine relStep_go (by rfl) ?_
      go_simp
      exact rel_call (rN_c iA _) (fun _ _ h => h)
    · intro w' hb'
      refine relAsk_out (by rfl) ?_
      refine relAsk_nil ?_
      refine relStep_go (by rfl) ?_
      obtain ⟨x0, x1, x2, x3⟩ := (gB.below hb' gB.lt).cells4
      go_simp
      exact rel_val rfl
    · intro w' hb'
      refine relAsk_in (by rfl) ?_
      intro v11 h11
      obtain rfl : v11 = (W b) := h11
      refine relAsk_nil ?_
      refine relStep_go (by rfl) ?_
      go_simp
      exact rel_call (rN_c iB _) (fun _ _ h => h)
    · intro w' hb'
      refine relAsk_in (by rfl) ?_
      intro v10 h10
      have h10 : Num w' v10 (a) 8 := h10
      refine relAsk_in (by rfl) ?_
      intro v12 h12
      have h12 : Num w' v12 (b) 8 := h12
      refine relAsk_nil ?_
      refine relStep_go (by rfl) ?_
      go_simp
      exact rel_call (rmul_n _ h10 h12 (by omega) (by omega)) (fun _ _ h => h.mono (by omega))
    · intro w' hb'
      refine relAsk_nil ?_
      refine relStep_go (by rfl) ?_
      go_simp
      exact rel_call (rtop_c _) (fun _ _ h => h)
    · intro w' hb'
      refine relAsk_in (by rfl) ?_
      intro v13 h13
      have h13 : Num w' v13 (a * b) 16 := h13
      refine relAsk_in (by rfl) ?_
      intro v14 h14
      have h14 : Num w' v14 (115792089237316195423570985008687907853269984665640564039457584007913129639936) 10 := h14
      refine relAsk_nil ?_
      refine relStep_go (by rfl) ?_
      have hE := rdiv_n _ h13 h14 (by omega) (by omega) (by omega)
      rw [← HP.out, ← HQ.out] at hE
      go_simp
      exact rel_call2 hE (fun _ _ h => h)
    · intro w' hb'
      refine relAsk_in (by rfl) ?_
      intro v15 h15
      have h15 : Two w' v15 (p) (q) 16 10 := h15
      refine relAsk_nil ?_
      refine relStep_go (by rfl) ?_
      go_simp
      exact rel_val h15
    · intro w' hb'
      refine relAsk_in (by rfl) ?_
      intro v8 h8
      have h8 : Two w' v8 (p) (q) 16 10 := h8
      refine relAsk_nil ?_
      refine relStep_go (by rfl) ?_
      obtain ⟨x, y, rfl, hx, hy⟩ := h8
      go_simp
      exact rel_val hx
    · intro w' hb'
      refine relAsk_in (by rfl) ?_
      intro v8 h8
      have h8 : Two w' v8 (p) (q) 16 10 := h8
      refine relAsk_nil ?_
      refine relStep_go (by rfl) ?_
      obtain ⟨x, y, rfl, hx, hy⟩ := h8
      go_simp
      exact rel_val hy
    · intro w' hb'
      refine relAsk_in (by rfl) ?_
      intro v16 h16
      have h16 : Num w' v16 (p) 16 := h16
      refine relAsk_nil ?_
      refine relStep_go (by rfl) ?_
      go_simp
      exact rel_val h16
    · intro w' hb'
      refine relAsk_in (by rfl) ?_
      intro v17 h17
      have h17 : Num w' v17 (q) 10 := h17
      refine relAsk_nil ?_
      refine relStep_go (by rfl) ?_
      go_simp
      exact rel_val h17
  · intro w' hb'
    refine relAsk_in (by rfl) ?_
    intro v9 h9
    obtain rfl : v9 = (W a) := h9
    refine relAsk_in (by rfl) ?_
    intro v10 h10
    have h10 : Num w' v10 (a) 8 := h10
    refine relAsk_in (by rfl) ?_
    intro v11 h11
    obtain rfl : v11 = (W b) := h11
    refine relAsk_in (by rfl) ?_
    intro v12 h12
    have h12 : Num w' v12 (b) 8 := h12
    refine relAsk_in (by rfl) ?_
    intro v13 h13
    have h13 : Num w' v13 (a * b) 16 := h13
    refine relAsk_in (by rfl) ?_
    intro v14 h14
    have h14 : Num w' v14 (115792089237316195423570985008687907853269984665640564039457584007913129639936) 10 := h14
    refine relAsk_in (by rfl) ?_
    intro v15 h15
    have h15 : Two w' v15 (p) (q) 16 10 := h15
    refine relAsk_in (by rfl) ?_
    intro v8 h8
    have h8 : Two w' v8 (p) (q) 16 10 := h8
    refine relAsk_in (by rfl) ?_
    intro v16 h16
    have h16 : Num w' v16 (p) 16 := h16
    refine relAsk_in (by rfl) ?_
    intro v17 h17
    have h17 : Num w' v17 (q) 10 := h17
    refine relAsk_in (by rfl) ?_
    intro v6 h6
    have h6 : Num w' v6 (p) 16 := h6
    refine relAsk_in (by rfl) ?_
    intro v7 h7
    have h7 : Num w' v7 (q) 10 := h7
    refine relAsk_nil ?_
    refine wpList_nil ?_
    go_wp2_with fail
    (with_reducible refine (rW_n _ h6 (by omega)).mono ?_)
    rintro e w1 hw1
    obtain ⟨rfl, hbw1⟩ := hw1.val
    have h7' := h7.below hbw1
    go_wp2_with fail
    (with_reducible refine (rW_n _ h7' (by omega)).mono ?_)
    rintro e w2 hw2
    obtain ⟨rfl, hbw2⟩ := hw2.val
    have k1 := gW.trans (hb'.mono gW.size)
    have k2 := k1.trans (hbw1.mono k1.size)
    have kW := k2.trans (hbw2.mono k2.size)
    have r1 := gR.below hb' gR.lt
    have r2 := r1.below hbw1 r1.lt
    have kR := r2.below hbw2 r2.lt
    have s1 := gS2.below hb' gS2.lt
    have s2 := s1.below hbw1 s1.lt
    have kS := s2.below hbw2 s2.lt
    obtain ⟨y0, y1, y2, y3⟩ := kR.cells4
    obtain ⟨f0, f1, f2, f3⟩ := kR.free4
    obtain ⟨z0, z1, z2, z3⟩ := kS.cells4
    obtain ⟨g0, g1, g2, g3⟩ := kS.free4
    clear gA gB gR gS2 iA iB hb' hbw1 hbw2 hw1 hw2 h7' k1 k2 r1 r2 s1 s2
    go_wp2_with fail
    have oB := below_put4 (below_put4 kW (f := w.heap.size + 1 + 1) (by omega) (.int .u64 ((lim 0 (p % 115792089237316195423570985008687907853269984665640564039457584007913129639936) : Nat) : Int)) (.int .u64 ((lim 1 (p % 115792089237316195423570985008687907853269984665640564039457584007913129639936) : Nat) : Int)) (.int .u64 ((lim 2 (p % 115792089237316195423570985008687907853269984665640564039457584007913129639936) : Nat) : Int)) (.int .u64 ((lim 3 (p % 115792089237316195423570985008687907853269984665640564039457584007913129639936) : Nat) : Int))) (f := w.heap.size + 1 + 1 + 1) (by omega) (.int .u64 ((lim 0 (q % 115792089237316195423570985008687907853269984665640564039457584007913129639936) : Nat) : Int)) (.int .u64 ((lim 1 (q % 115792089237316195423570985008687907853269984665640564039457584007913129639936) : Nat) : Int)) (.int .u64 ((lim 2 (q % 115792089237316195423570985008687907853269984665640564039457584007913129639936) : Nat) : Int)) (.int .u64 ((lim 3 (q % 115792089237316195423570985008687907853269984665640564039457584007913129639936) : Nat) : Int))
    have oR := (kR.put4 (lim 0 (p % 115792089237316195423570985008687907853269984665640564039457584007913129639936)) (lim 1 (p % 115792089237316195423570985008687907853269984665640564039457584007913129639936)) (lim 2 (p % 115792089237316195423570985008687907853269984665640564039457584007913129639936)) (lim 3 (p % 115792089237316195423570985008687907853269984665640564039457584007913129639936))).far4 (f := w.heap.size + 1 + 1 + 1) (by omega) (.int .u64 ((lim 0 (q % 115792089237316195423570985008687907853269984665640564039457584007913129639936) : Nat) : Int)) (.int .u64 ((lim 1 (q % 115792089237316195423570985008687907853269984665640564039457584007913129639936) : Nat) : Int)) (.int .u64 ((lim 2 (q % 115792089237316195423570985008687907853269984665640564039457584007913129639936) : Nat) : Int)) (.int .u64 ((lim 3 (q % 115792089237316195423570985008687907853269984665640564039457584007913129639936) : Nat) : Int))
    have oS := (kS.far4 (f := w.heap.size + 1 + 1) (by omega) (.int .u64 ((lim 0 (p % 115792089237316195423570985008687907853269984665640564039457584007913129639936) : Nat) : Int)) (.int .u64 ((lim 1 (p % 115792089237316195423570985008687907853269984665640564039457584007913129639936) : Nat) : Int)) (.int .u64 ((lim 2 (p % 115792089237316195423570985008687907853269984665640564039457584007913129639936) : Nat) : Int)) (.int .u64 ((lim 3 (p % 115792089237316195423570985008687907853269984665640564039457584007913129639936) : Nat) : Int))).put4 (lim 0 (q % 115792089237316195423570985008687907853269984665640564039457584007913129639936)) (lim 1 (q % 115792089237316195423570985008687907853269984665640564039457584007913129639936)) (lim 2 (q % 115792089237316195423570985008687907853269984665640564039457584007913129639936)) (lim 3 (q % 115792089237316195423570985008687907853269984665640564039457584007913129639936))
    clear y0 y1 y2 y3 f0 f1 f2 f3 z0 z1 z2 z3 g0 g1 g2 g3 kR kS kW
    generalize ((((((((w2.setCell ⟨w.heap.size + 1 + 1, 0, none⟩ (.int .u64 ((lim 0 (p % 115792089237316195423570985008687907853269984665640564039457584007913129639936) : Nat) : Int))).setCell ⟨w.heap.size + 1 + 1, 1, none⟩ (.int .u64 ((lim 1 (p % 115792089237316195423570985008687907853269984665640564039457584007913129639936) : Nat) : Int))).setCell ⟨w.heap.size + 1 + 1, 2, none⟩ (.int .u64 ((lim 2 (p % 115792089237316195423570985008687907853269984665640564039457584007913129639936) : Nat) : Int))).setCell ⟨w.heap.size + 1 + 1, 3, none⟩ (.int .u64 ((lim 3 (p % 115792089237316195423570985008687907853269984665640564039457584007913129639936) : Nat) : Int))).setCell ⟨w.heap.size + 1 + 1 + 1, 0, none⟩ (.int .u64 ((lim 0 (q % 115792089237316195423570985008687907853269984665640564039457584007913129639936) : Nat) : Int))).setCell ⟨w.heap.size + 1 + 1 + 1, 1, none⟩ (.int .u64 ((lim 1 (q % 115792089237316195423570985008687907853269984665640564039457584007913129639936) : Nat) : Int))).setCell ⟨w.heap.size + 1 + 1 + 1, 2, none⟩ (.int .u64 ((lim 2 (q % 115792089237316195423570985008687907853269984665640564039457584007913129639936) : Nat) : Int))).setCell ⟨w.heap.size + 1 + 1 + 1, 3, none⟩ (.int .u64 ((lim 3 (q % 115792089237316195423570985008687907853269984665640564039457584007913129639936) : Nat) : Int))) = V at *
    obtain ⟨y0, y1, y2, y3⟩ := oR.cells4
    obtain ⟨z0, z1, z2, z3⟩ := oS.cells4
    exact bodyPost_ret (v := .tuple #[W (p % 115792089237316195423570985008687907853269984665640564039457584007913129639936), W (q % 115792089237316195423570985008687907853269984665640564039457584007913129639936)]) (by simp [results, Try.results37, go_sem, y0, y1, y2, y3, z0, z1, z2, z3]) rfl ⟨rfl, oB⟩
set_option maxRecDepth 100000 in
set_option maxHeartbeats 3200000 in
theorem minus1_true {a : Nat} (ha : Big a) (h : 57896044618658097711785492504343953926634992332820282019728792003956564819968 ≤ a) (w : World) : Calls Try.prog 106 #[W a] w (RetV (.bool true) w) := by
  have l3 := lim_lt 3 a
  obtain ⟨x, ex⟩ : ∃ x, x = lim 3 a / 9223372036854775808 := ⟨_, rfl⟩
  have hx : x = 1 := by
    have := (isW_lim ha).2.2.2.2
    have l0 := lim_lt 0 a
    have l1 := lim_lt 1 a
    have l2 := lim_lt 2 a
    unfold Lim at *
    generalize lim 3 a = a3 at *
    generalize lim 2 a = a2 at *
    generalize lim 1 a = a1 at *
    generalize lim 0 a = a0 at *
    unfold Big at ha
    omega
  have vx : ((lim 3 a : Nat) : Int) / 9223372036854775808 = 1 := by rw [hx] at ex; omega
  have gA := Arr.new4 w 24 (lim 0 a) (lim 1 a) (lim 2 a) (lim 3 a)
  obtain ⟨c0, c1, c2, c3⟩ := gA.cells4
  have hB : Hid (Below w.heap.size w (w.alloc (.cells #[.int .u64 (lim 0 a : Nat), .int .u64 (lim 1 a : Nat), .int .u64 (lim 2 a : Nat), .int .u64 (lim 3 a : Nat)] 24))) := (Below.refl _ _).alloc (Nat.le_refl _) _
  clear ex hx h ha l3 gA
  go_enter Try.func106, Try.ntmps106
  go_wp2_with fail
  go_ret
  exact ⟨rfl, hB.out⟩
set_option maxRecDepth 100000 in
set_option maxHeartbeats 3200000 in
theorem minus1_false {a : Nat} (ha : Big a) (h : a < 57896044618658097711785492504343953926634992332820282019728792003956564819968) (w : World) : Calls Try.prog 106 #[W a] w (RetV (.bool false) w) := by
  have l3 := lim_lt 3 a
  obtain ⟨x, ex⟩ : ∃ x, x = lim 3 a / 9223372036854775808 := ⟨_, rfl⟩
  have hx : x = 0 := by
    have := (isW_lim ha).2.2.2.2
    have l0 := lim_lt 0 a
    have l1 := lim_lt 1 a
    have l2 := lim_lt 2 a
    unfold Lim at *
    generalize lim 3 a = a3 at *
    generalize lim 2 a = a2 at *
    generalize lim 1 a = a1 at *
    generalize lim 0 a = a0 at *
    unfold Big at ha
    omega
  have vx : ((lim 3 a : Nat) : Int) / 9223372036854775808 = 0 := by rw [hx] at ex; omega
  have gA := Arr.new4 w 24 (lim 0 a) (lim 1 a) (lim 2 a) (lim 3 a)
  obtain ⟨c0, c1, c2, c3⟩ := gA.cells4
  have hB : Hid (Below w.heap.size w (w.alloc (.cells #[.int .u64 (lim 0 a : Nat), .int .u64 (lim 1 a : Nat), .int .u64 (lim 2 a : Nat), .int .u64 (lim 3 a : Nat)] 24))) := (Below.refl _ _).alloc (Nat.le_refl _) _
  clear ex hx h ha l3 gA
  go_enter Try.func106, Try.ntmps106
  go_wp2_with fail
  go_ret
  exact ⟨rfl, hB.out⟩
end Go.Proofs.Ytihffojljbgpcaa
