/- The contract of package quarryref01's Sdiv. -/
import Derived.Test.YtihffojljbgpcaaRef4
import Derived.Test.YtihffojljbgpcaaOps
namespace Go.Proofs.Ytihffojljbgpcaa
open Go.RowKit

set_option maxRecDepth 100000 in
set_option maxHeartbeats 25600000 in
theorem sdiv1_c {a b q : Nat} (ha : Big a) (hb : Big b) (hq : q = siz a / siz b) (w : World) : Calls Try.prog 49 #[W a, W b] w (RetW (sig (sgn a != sgn b) q) w) := by
  by_cases hb0 : b = 0
  · have hz := fun w => zero1_true hb0 w
    have he : sig (sgn a != sgn b) q = b := by
      subst hb0
      rw [show q = 0 by rw [hq]; simp [siz], sig_zero]
    rw [he]
    have iB := isW_lim hb
    have HZ := Lib.hid hz
    clear hz he hb0 hq
    go_enter Try.func49, Try.ntmps49
    go_wp2_with fail
    obtain ⟨gA, gB, gR, gS, gW⟩ := start3 w 24 (lim 0 a) (lim 1 a) (lim 2 a) (lim 3 a) (lim 0 b) (lim 1 b) (lim 2 b) (lim 3 b) _ rfl
    generalize ((w.alloc (.cells #[.int .u64 (lim 0 a : Nat), .int .u64 (lim 1 a : Nat), .int .u64 (lim 2 a : Nat), .int .u64 (lim 3 a : Nat)] 24)).alloc (.cells #[.int .u64 (lim 0 b : Nat), .int .u64 (lim 1 b : Nat), .int .u64 (lim 2 b : Nat), .int .u64 (lim 3 b : Nat)] 24)).alloc (.cells #[.int .u64 0, .int .u64 0, .int .u64 0, .int .u64 0] 24) = X at *
    obtain ⟨x0, x1, x2, x3⟩ := gB.cells4
    go_wp2_with fail
    clear x0 x1 x2 x3
    (with_reducible refine (HZ.out _).mono ?_)
    rintro e w' ⟨rfl, hb'⟩
    have hb' := hb'
    obtain ⟨x0, x1, x2, x3⟩ := (gB.below hb' gB.lt).cells4
    have kR := gR.below hb' gR.lt
    have kW := gW.trans (hb'.mono gW.size)
    obtain ⟨y0, y1, y2, y3⟩ := kR.cells4
    obtain ⟨f0, f1, f2, f3⟩ := kR.free4
    clear gA gB gR hb'
    go_wp2_with fail
    refine bodyPost_ret (v := W b) (by simp [results, Try.results49, go_sem, y0, y1, y2, y3]) rfl ⟨_, _, _, _, rfl, iB, ?_⟩
    repeat (first | exact kW | refine Below.setCell ?_ (by simp; try omega) _)
  · have hz := fun w => zero1_false hb hb0 w
    have hsb := siz_pos hb hb0
    have hBQ : Big q := by rw [hq]; exact Nat.lt_of_le_of_lt (Nat.div_le_self _ _) (siz_big ha)
    have hQM : q % 115792089237316195423570985008687907853269984665640564039457584007913129639936 = q := Nat.mod_eq_of_lt hBQ
    obtain ⟨r, hr⟩ : ∃ r, r = siz a % siz b := ⟨_, rfl⟩
    have HR := Lib.hid hr
    clear hr
    obtain ⟨t, ht⟩ : ∃ t, t = (sgn a != sgn b) := ⟨_, rfl⟩
    rw [← ht]
    have HZ := Lib.hid hz
    have HSB := Lib.hid hsb
    have BQ := Lib.hid hBQ
    have QM := Lib.hid hQM
    have HT := Lib.hid ht
    have HQ := Lib.hid hq
    have HA := Lib.hid ha
    have HBB := Lib.hid hb
    clear hz hb0 hsb hBQ hQM ht hq ha hb
    go_enter Try.func49, Try.ntmps49
    go_wp2_with fail
    obtain ⟨gA, gB, gR, gS, gW⟩ := start3 w 24 (lim 0 a) (lim 1 a) (lim 2 a) (lim 3 a) (lim 0 b) (lim 1 b) (lim 2 b) (lim 3 b) _ rfl
    generalize ((w.alloc (.cells #[.int .u64 (lim 0 a : Nat), .int .u64 (lim 1 a : Nat), .int .u64 (lim 2 a : Nat), .int .u64 (lim 3 a : Nat)] 24)).alloc (.cells #[.int .u64 (lim 0 b : Nat), .int .u64 (lim 1 b : Nat), .int .u64 (lim 2 b : Nat), .int .u64 (lim 3 b : Nat)] 24)).alloc (.cells #[.int .u64 0, .int .u64 0, .int .u64 0, .int .u64 0] 24) = X at *
    obtain ⟨x0, x1, x2, x3⟩ := gB.cells4
    go_wp2_with fail
    clear x0 x1 x2 x3
    (with_reducible refine (HZ.out _).mono ?_)
    rintro e wz ⟨rfl, hbz⟩
    have gA := gA.below hbz gA.lt
    have gB := gB.below hbz gB.lt
    have gR := gR.below hbz gR.lt
    have gW := gW.trans (hbz.mono gW.size)
    clear hbz gS
    go_wp2_with fail
    refine wp_region_rel 10 [(11, (.is (W a))), (12, .num (siz a) 10), (13, (.is (W b))), (14, .num (siz b) 10), (15, .two (q) (r) 10 10), (10, .two (q) (r) 10 10), (16, .num (q) 10), (17, .num (r) 10), (5, .num (q) 10), (6, .num (r) 10)] (by kernel_rfl) (by kernel_rfl) ?_ ?_
    · refine relOps_cons ?_ (relOps_cons ?_ (relOps_cons ?_ (relOps_cons ?_ (relOps_cons ?_ (relOps_cons ?_ (relOps_cons ?_ (relOps_cons ?_ (relOps_cons ?_ (relOps_cons ?_ relOps_nil)))))))))
      · intro w' hb'
        refine relAsk_out (by rfl) ?_
        refine relAsk_nil ?_
        refine relStep_go (by rfl) ?_
        obtain ⟨x0, x1, x2, x3⟩ := (gA.below hb' gA.lt).cells4
        go_simp
        exact rel_val rfl
      · intro w' hb'
        refine relAsk_in (by rfl) ?_
        intro v11 h11
        obtain rfl : v11 = (W a) := h11
        refine relAsk_nil ?_
        refine relStep_go (by rfl) ?_
        go_simp
        exact rel_call (abs1_c HA.out _) (fun _ _ h => h)
      · intro w' hb'
        refine relAsk_out (by rfl) ?_
        refine relAsk_nil ?_
        refine relStep_go (by rfl) ?_
        obtain ⟨x0, x1, x2, x3⟩ := (gB.below hb' gB.lt).cells4
        go_simp
        exact rel_val rfl
      · intro w' hb'
        refine relAsk_in (by rfl) ?_
        intro v13 h13
        obtain rfl : v13 = (W b) := h13
        refine relAsk_nil ?_
        refine relStep_go (by rfl) ?_
        go_simp
        exact rel_call (abs1_c HBB.out _) (fun _ _ h => h)
      · intro w' hb'
        refine relAsk_in (by rfl) ?_
        intro v12 h12
        replace h12 : Num w' v12 (siz a) 10 := h12
        refine relAsk_in (by rfl) ?_
        intro v14 h14
        replace h14 : Num w' v14 (siz b) 10 := h14
        refine relAsk_nil ?_
        refine relStep_go (by rfl) ?_
        have hE := rdiv_n _ h12 h14 (by omega) (by omega) HSB.out
        rw [← HQ.out, ← HR.out] at hE
        go_simp
        exact rel_call2 hE (fun _ _ h => h)
      · intro w' hb'
        refine relAsk_in (by rfl) ?_
        intro v15 h15
        replace h15 : Two w' v15 (q) (r) 10 10 := h15
        refine relAsk_nil ?_
        refine relStep_go (by rfl) ?_
        go_simp
        exact rel_val h15
      · intro w' hb'
        refine relAsk_in (by rfl) ?_
        intro v10 h10
        replace h10 : Two w' v10 (q) (r) 10 10 := h10
        refine relAsk_nil ?_
        refine relStep_go (by rfl) ?_
        obtain ⟨x, y, rfl, hx, hy⟩ := h10
        go_simp
        exact rel_val hx
      · intro w' hb'
        refine relAsk_in (by rfl) ?_
        intro v10 h10
        replace h10 : Two w' v10 (q) (r) 10 10 := h10
        refine relAsk_nil ?_
        refine relStep_go (by rfl) ?_
        obtain ⟨x, y, rfl, hx, hy⟩ := h10
        go_simp
        exact rel_val hy
      · intro w' hb'
        refine relAsk_in (by rfl) ?_
        intro v16 h16
        replace h16 : Num w' v16 (q) 10 := h16
        refine relAsk_nil ?_
        refine relStep_go (by rfl) ?_
        go_simp
        exact rel_val h16
      · intro w' hb'
        refine relAsk_in (by rfl) ?_
        intro v17 h17
        replace h17 : Num w' v17 (r) 10 := h17
        refine relAsk_nil ?_
        refine relStep_go (by rfl) ?_
        go_simp
        exact rel_val h17
    · intro w' hb'
      refine relAsk_in (by rfl) ?_
      intro v11 h11
      obtain rfl : v11 = (W a) := h11
      refine relAsk_in (by rfl) ?_
      intro v12 h12
      replace h12 : Num w' v12 (siz a) 10 := h12
      refine relAsk_in (by rfl) ?_
      intro v13 h13
      obtain rfl : v13 = (W b) := h13
      refine relAsk_in (by rfl) ?_
      intro v14 h14
      replace h14 : Num w' v14 (siz b) 10 := h14
      refine relAsk_in (by rfl) ?_
      intro v15 h15
      replace h15 : Two w' v15 (q) (r) 10 10 := h15
      refine relAsk_in (by rfl) ?_
      intro v10 h10
      replace h10 : Two w' v10 (q) (r) 10 10 := h10
      refine relAsk_in (by rfl) ?_
      intro v16 h16
      replace h16 : Num w' v16 (q) 10 := h16
      refine relAsk_in (by rfl) ?_
      intro v17 h17
      replace h17 : Num w' v17 (r) 10 := h17
      refine relAsk_in (by rfl) ?_
      intro v5 h5
      replace h5 : Num w' v5 (q) 10 := h5
      refine relAsk_in (by rfl) ?_
      intro v6 h6
      replace h6 : Num w' v6 (r) 10 := h6
      refine relAsk_nil ?_
      refine wpList_nil ?_
      have gA := gA.below hb' gA.lt
      have gB := gB.below hb' gB.lt
      have gR := gR.below hb' gR.lt
      have gW := gW.trans (hb'.mono gW.size)
      obtain ⟨u, hu⟩ : ∃ u, u = sgn a := ⟨_, rfl⟩
      obtain ⟨v, hv⟩ : ∃ v, v = sgn b := ⟨_, rfl⟩
      have hU : ∀ w, Calls Try.prog 106 #[W a] w (RetV (.bool u) w) := fun w => by rw [hu]; exact minus_W HA.out w
      have hV : ∀ w, Calls Try.prog 106 #[W b] w (RetV (.bool v) w) := fun w => by rw [hv]; exact minus_W HBB.out w
      have HU := Lib.hid hU
      have HV := Lib.hid hV
      rw [← hu, ← hv] at HT
      clear hu hv hU hV hb' h15 h10 h16 h17 h14 h12
      go_simp
      go_wp2_with fail
      refine wp_region_see 5 [18, 19, 20, 21, 22] [(18, .is (W a)), (19, .is (.bool u)), (20, .is (W b)), (21, .is (.bool v)), (22, .is (.bool (u != v)))] (by kernel_rfl) (by kernel_rfl) (by rfl) ?_ ?_
      · refine seeOps_cons ?_ (seeOps_cons ?_ (seeOps_cons ?_ (seeOps_cons ?_ (seeOps_cons ?_ seeOps_nil))))
        · intro w' hb' fr hout hin
          have e2 : fr.tmps.getD 2 undef = .pointer (some ⟨w.heap.size, 0, none⟩) := hout 2 (by decide)
          clear hout hin
          exact op_load (n := a) (.tmp 2) rfl e2 ((gA.below hb' gA.lt).cells4) (wanted_none rfl) rfl
        · intro w' hb' fr hout hin
          have h18 : fr.tmps.getD 18 undef = W a := hin 18 (by decide) (by decide)
          clear hout hin
          exact relStep_callV 106 #[W a] (wanted_none rfl) (HU.out _) (fun _ => rfl) (by have hh := h18; go_simp)
        · intro w' hb' fr hout hin
          have e3 : fr.tmps.getD 3 undef = .pointer (some ⟨w.heap.size + 1, 0, none⟩) := hout 3 (by decide)
          clear hout hin
          exact op_load (n := b) (.tmp 3) rfl e3 ((gB.below hb' gB.lt).cells4) (wanted_none rfl) rfl
        · intro w' hb' fr hout hin
          have h20 : fr.tmps.getD 20 undef = W b := hin 20 (by decide) (by decide)
          clear hout hin
          exact relStep_callV 106 #[W b] (wanted_none rfl) (HV.out _) (fun _ => rfl) (by have hh := h20; go_simp)
        · intro w' hb' fr hout hin
          have h19 : fr.tmps.getD 19 undef = .bool u := hin 19 (by decide) (by decide)
          have h21 : fr.tmps.getD 21 undef = .bool v := hin 21 (by decide) (by decide)
          clear hout hin
          exact op_neB (.tmp 19) (.tmp 21) _ rfl h19 h21 (wanted_none rfl) rfl
      · intro w' hb'
        refine relAsk_in (by rfl) ?_
        intro v18 h18
        obtain rfl : v18 = W a := h18
        refine relAsk_in (by rfl) ?_
        intro v19 h19
        obtain rfl : v19 = .bool u := h19
        refine relAsk_in (by rfl) ?_
        intro v20 h20
        obtain rfl : v20 = W b := h20
        refine relAsk_in (by rfl) ?_
        intro v21 h21
        obtain rfl : v21 = .bool v := h21
        refine relAsk_in (by rfl) ?_
        intro v22 h22
        obtain rfl : v22 = .bool (u != v) := h22
        refine relAsk_nil ?_
        refine wpList_nil ?_
        go_simp
        have h5 := h5.below hb'
        have gR := gR.below hb' gR.lt
        have gW := gW.trans (hb'.mono gW.size)
        have HT2 := HT.out
        rw [← HT2]
        clear hb' HU HV HT HT2 gA gB h6
        cases t with
        | true =>
          go_wp2_with fail
          (with_reducible refine (neg1_c _ h5 (by omega) BQ.out).mono ?_)
          rintro e w2 hw
          obtain ⟨rfl, hb2⟩ := hw.val
          have kR := gR.below hb2 gR.lt
          have kW := gW.trans (hb2.mono gW.size)
          clear gR hw hb2
          obtain ⟨y0, y1, y2, y3⟩ := kR.cells4
          obtain ⟨f0, f1, f2, f3⟩ := kR.free4
          have iS := isW_lim (show Big (sig true q) from sig_big BQ.out)
          go_wp2_with fail
          refine bodyPost_ret (v := W (sig true q)) (by simp [results, Try.results49, go_sem, y0, y1, y2, y3]) rfl ⟨_, _, _, _, rfl, iS, ?_⟩
          repeat (first | exact kW | refine Below.setCell ?_ (by simp; try omega) _)
        | false =>
          go_wp2_with fail
          (with_reducible refine (rW_n _ h5 (by omega)).mono ?_)
          rintro e w2 hw
          rw [QM.out] at hw
          obtain ⟨rfl, hb2⟩ := hw.val
          have kR := gR.below hb2 gR.lt
          have kW := gW.trans (hb2.mono gW.size)
          clear gR hw hb2
          obtain ⟨y0, y1, y2, y3⟩ := kR.cells4
          obtain ⟨f0, f1, f2, f3⟩ := kR.free4
          have iQ := isW_lim BQ.out
          go_wp2_with fail
          refine bodyPost_ret (v := W q) (by simp [results, Try.results49, go_sem, y0, y1, y2, y3]) rfl ⟨_, _, _, _, rfl, iQ, ?_⟩
          repeat (first | exact kW | refine Below.setCell ?_ (by simp; try omega) _)
end Go.Proofs.Ytihffojljbgpcaa
