/- The contract of package quarryref01's Smod. -/
import Derived.Test.YtihffojljbgpcaaRef4
namespace Go.Proofs.Ytihffojljbgpcaa
open Go.RowKit

set_option maxRecDepth 100000 in
set_option maxHeartbeats 25600000 in
theorem smod1_c {a b q : Nat} (ha : Big a) (hb : Big b) (hq : q = if siz b = 0 then 0 else siz a % siz b) (w : World) : Calls Try.prog 51 #[W a, W b] w (RetW (sig (sgn a) q) w) := by
  by_cases hb0 : b = 0
  · have hz := fun w => zero1_true hb0 w
    have he : sig (sgn a) q = b := by
      subst hb0
      rw [show q = 0 by rw [hq]; simp [siz], sig_zero]
    rw [he]
    have iB := isW_lim hb
    have HZ := Lib.hid hz
    clear hz he hb0 hq
    go_enter Try.func51, Try.ntmps51
    go_wp2_with fail
    obtain ⟨gA, gB, gR, gS, gW⟩ := start3 w 24 (lim 0 a) (lim 1 a) (lim 2 a) (lim 3 a) (lim 0 b) (lim 1 b) (lim 2 b) (lim 3 b) _ rfl
    generalize ((w.alloc (.cells #[.int .u64 (lim 0 a : Nat), .int .u64 (lim 1 a : Nat), .int .u64 (lim 2 a : Nat), .int .u64 (lim 3 a : Nat)] 24)).alloc (.cells #[.int .u64 (lim 0 b : Nat), .int .u64 (lim 1 b : Nat), .int .u64 (lim 2 b : Nat), .int .u64 (lim 3 b : Nat)] 24)).alloc (.cells #[.int .u64 0, .int .u64 0, .int .u64 0, .int .u64 0] 24) = X at *
    obtain ⟨x0, x1, x2, x3⟩ := gB.cells4
    go_wp2_with fail
    clear x0 x1 x2 x3
    (with_reducible refine (HZ.out _).mono ?_)
    rintro e w' ⟨rfl, hb'⟩
    have hb' := hb'
    obtain ⟨x0, x1, x2, x3⟩ := (gB.below hb' gB.lt).cells4
    have kR := gR.below hb' gR.lt
    have kW := gW.trans (hb'.mono gW.size)
    obtain ⟨y0, y1, y2, y3⟩ := kR.cells4
    obtain ⟨f0, f1, f2, f3⟩ := kR.free4
    clear gA gB gR hb'
    go_wp2_with fail
    refine bodyPost_ret (v := W b) (by simp [results, Try.results51, go_sem, y0, y1, y2, y3]) rfl ⟨_, _, _, _, rfl, iB, ?_⟩
    repeat (first | exact kW | refine Below.setCell ?_ (by simp; try omega) _)
  · have hz := fun w => zero1_false hb hb0 w
    have hsb := siz_pos hb hb0
    have hBQ : Big q := by rw [hq]; exact mod0_big (siz_big ha)
    have hQM : q % 115792089237316195423570985008687907853269984665640564039457584007913129639936 = q := Nat.mod_eq_of_lt hBQ
    obtain ⟨t, ht⟩ : ∃ t, t = (sgn a) := ⟨_, rfl⟩
    rw [← ht]
    have HZ := Lib.hid hz
    have HSB := Lib.hid hsb
    have BQ := Lib.hid hBQ
    have QM := Lib.hid hQM
    have HT := Lib.hid ht
    have HQ := Lib.hid hq
    have HA := Lib.hid ha
    have HBB := Lib.hid hb
    clear hz hb0 hsb hBQ hQM ht hq ha hb
    go_enter Try.func51, Try.ntmps51
    go_wp2_with fail
    obtain ⟨gA, gB, gR, gS, gW⟩ := start3 w 24 (lim 0 a) (lim 1 a) (lim 2 a) (lim 3 a) (lim 0 b) (lim 1 b) (lim 2 b) (lim 3 b) _ rfl
    generalize ((w.alloc (.cells #[.int .u64 (lim 0 a : Nat), .int .u64 (lim 1 a : Nat), .int .u64 (lim 2 a : Nat), .int .u64 (lim 3 a : Nat)] 24)).alloc (.cells #[.int .u64 (lim 0 b : Nat), .int .u64 (lim 1 b : Nat), .int .u64 (lim 2 b : Nat), .int .u64 (lim 3 b : Nat)] 24)).alloc (.cells #[.int .u64 0, .int .u64 0, .int .u64 0, .int .u64 0] 24) = X at *
    obtain ⟨x0, x1, x2, x3⟩ := gB.cells4
    go_wp2_with fail
    clear x0 x1 x2 x3
    (with_reducible refine (HZ.out _).mono ?_)
    rintro e wz ⟨rfl, hbz⟩
    have gA := gA.below hbz gA.lt
    have gB := gB.below hbz gB.lt
    have gR := gR.below hbz gR.lt
    have gW := gW.trans (hbz.mono gW.size)
    clear hbz gS
    go_wp2_with fail
    refine wp_region_rel 6 [(9, (.is (W a))), (10, .num (siz a) 10), (11, (.is (W b))), (12, .num (siz b) 10), (13, .num (q) 10), (5, .num (q) 10)] (by kernel_rfl) (by kernel_rfl) ?_ ?_
    · refine relOps_cons ?_ (relOps_cons ?_ (relOps_cons ?_ (relOps_cons ?_ (relOps_cons ?_ (relOps_cons ?_ relOps_nil)))))
      · intro w' hb'
        refine relAsk_out (by rfl) ?_
        refine relAsk_nil ?_
        refine relStep_go (by rfl) ?_
        obtain ⟨x0, x1, x2, x3⟩ := (gA.below hb' gA.lt).cells4
        go_simp
        exact rel_val rfl
      · intro w' hb'
        refine relAsk_in (by rfl) ?_
        intro v9 h9
        obtain rfl : v9 = (W a) := h9
        refine relAsk_nil ?_
        refine relStep_go (by rfl) ?_
        go_simp
        exact rel_call (abs1_c HA.out _) (fun _ _ h => h)
      · intro w' hb'
        refine relAsk_out (by rfl) ?_
        refine relAsk_nil ?_
        refine relStep_go (by rfl) ?_
        obtain ⟨x0, x1, x2, x3⟩ := (gB.below hb' gB.lt).cells4
        go_simp
        exact rel_val rfl
      · intro w' hb'
        refine relAsk_in (by rfl) ?_
        intro v11 h11
        obtain rfl : v11 = (W b) := h11
        refine relAsk_nil ?_
        refine relStep_go (by rfl) ?_
        go_simp
        exact rel_call (abs1_c HBB.out _) (fun _ _ h => h)
      · intro w' hb'
        refine relAsk_in (by rfl) ?_
        intro v10 h10
        replace h10 : Num w' v10 (siz a) 10 := h10
        refine relAsk_in (by rfl) ?_
        intro v12 h12
        replace h12 : Num w' v12 (siz b) 10 := h12
        refine relAsk_nil ?_
        refine relStep_go (by rfl) ?_
        have hE := rmod_n _ h10 h12 (by omega) (by omega) HSB.out
        rw [show siz a % siz b = q by rw [HQ.out, if_neg (Nat.ne_of_gt HSB.out)]] at hE
        go_simp
        exact rel_call hE (fun _ _ h => h)
      · intro w' hb'
        refine relAsk_in (by rfl) ?_
        intro v13 h13
        replace h13 : Num w' v13 (q) 10 := h13
        refine relAsk_nil ?_
        refine relStep_go (by rfl) ?_
        go_simp
        exact rel_val h13
    · intro w' hb'
      refine relAsk_in (by rfl) ?_
      intro v9 h9
      obtain rfl : v9 = (W a) := h9
      refine relAsk_in (by rfl) ?_
      intro v10 h10
      replace h10 : Num w' v10 (siz a) 10 := h10
      refine relAsk_in (by rfl) ?_
      intro v11 h11
      obtain rfl : v11 = (W b) := h11
      refine relAsk_in (by rfl) ?_
      intro v12 h12
      replace h12 : Num w' v12 (siz b) 10 := h12
      refine relAsk_in (by rfl) ?_
      intro v13 h13
      replace h13 : Num w' v13 (q) 10 := h13
      refine relAsk_in (by rfl) ?_
      intro v5 h5
      replace h5 : Num w' v5 (q) 10 := h5
      refine relAsk_nil ?_
      refine wpList_nil ?_
      have gA := gA.below hb' gA.lt
      have gR := gR.below hb' gR.lt
      have gW := gW.trans (hb'.mono gW.size)
      have hM : ∀ w, Calls Try.prog 106 #[.agg #[.int .u64 (lim 0 a : Nat), .int .u64 (lim 1 a : Nat), .int .u64 (lim 2 a : Nat), .int .u64 (lim 3 a : Nat)]] w (RetV (.bool t) w) := fun w => by rw [HT.out]; exact minus_W HA.out w
      have HM := Lib.hid hM
      clear hb' hM HT h13 h12 h10 gB
      obtain ⟨x0, x1, x2, x3⟩ := gA.cells4
      go_wp2_with fail
      clear x0 x1 x2 x3
      (with_reducible refine (HM.out _).mono ?_)
      rintro e w1 ⟨rfl, hb1⟩
      have h5 := h5.below hb1
      have gR := gR.below hb1 gR.lt
      have gW := gW.trans (hb1.mono gW.size)
      clear hb1 gA
      cases t with
      | true =>
        go_wp2_with fail
        (with_reducible refine (neg1_c _ h5 (by omega) BQ.out).mono ?_)
        rintro e w2 hw
        obtain ⟨rfl, hb2⟩ := hw.val
        have kR := gR.below hb2 gR.lt
        have kW := gW.trans (hb2.mono gW.size)
        clear gR hw hb2
        obtain ⟨y0, y1, y2, y3⟩ := kR.cells4
        obtain ⟨f0, f1, f2, f3⟩ := kR.free4
        have iS := isW_lim (show Big (sig true q) from sig_big BQ.out)
        go_wp2_with fail
        refine bodyPost_ret (v := W (sig true q)) (by simp [results, Try.results51, go_sem, y0, y1, y2, y3]) rfl ⟨_, _, _, _, rfl, iS, ?_⟩
        repeat (first | exact kW | refine Below.setCell ?_ (by simp; try omega) _)
      | false =>
        go_wp2_with fail
        (with_reducible refine (rW_n _ h5 (by omega)).mono ?_)
        rintro e w2 hw
        rw [QM.out] at hw
        obtain ⟨rfl, hb2⟩ := hw.val
        have kR := gR.below hb2 gR.lt
        have kW := gW.trans (hb2.mono gW.size)
        clear gR hw hb2
        obtain ⟨y0, y1, y2, y3⟩ := kR.cells4
        obtain ⟨f0, f1, f2, f3⟩ := kR.free4
        have iQ := isW_lim BQ.out
        go_wp2_with fail
        refine bodyPost_ret (v := W q) (by simp [results, Try.results51, go_sem, y0, y1, y2, y3]) rfl ⟨_, _, _, _, rfl, iQ, ?_⟩
        repeat (first | exact kW | refine Below.setCell ?_ (by simp; try omega) _)
end Go.Proofs.Ytihffojljbgpcaa
