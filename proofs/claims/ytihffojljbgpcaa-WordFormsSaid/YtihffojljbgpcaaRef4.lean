/- The contracts of package quarryref01's abs, neg, Sdiv and Smod. -/
import Derived.Test.YtihffojljbgpcaaRef2
import Derived.Test.YtihffojljbgpcaaSigned2
namespace Go.Proofs.Ytihffojljbgpcaa
open Go.RowKit

theorem minus_W {a : Nat} (h : Big a) (w : World) : Calls Try.prog 106 #[W a] w (RetV (.bool (sgn a)) w) := by
  unfold sgn
  by_cases hl : 57896044618658097711785492504343953926634992332820282019728792003956564819968 ≤ a
  · rw [decide_eq_true hl]; exact minus1_true h hl w
  · rw [decide_eq_false hl]; exact minus1_false h (by omega) w
theorem siz_true {a : Nat} (h : sgn a = true) : siz a = 115792089237316195423570985008687907853269984665640564039457584007913129639936 - a := by
  unfold siz; rw [if_pos (of_decide_eq_true h)]
theorem siz_false {a : Nat} (h : sgn a = false) : siz a = a := by
  unfold siz; rw [if_neg (of_decide_eq_false h)]
theorem siz_pos {a : Nat} (h : Big a) (h0 : a ≠ 0) : 0 < siz a := by
  unfold Big at h
  unfold siz
  split <;> omega
theorem sig_zero (t : Bool) : sig t 0 = 0 := by
  unfold sig
  split <;> rfl
theorem sig_big {t : Bool} {q : Nat} (h : Big q) : Big (sig t q) := by
  unfold sig
  split
  · exact big_mod _
  · exact h
set_option maxRecDepth 100000 in
set_option maxHeartbeats 3200000 in
theorem abs1_c {a : Nat} (ha : Big a) (w : World) : Calls Try.prog 119 #[W a] w (RetR (fun w' v => Num w' v (siz a) 10) w) := by
  have iA := Lib.hid (isW_lim ha)
  have HA := Lib.hid ha
  obtain ⟨t, ht⟩ : ∃ t, t = sgn a := ⟨_, rfl⟩
  have hM : ∀ w, Calls Try.prog 106 #[.agg #[.int .u64 (lim 0 a : Nat), .int .u64 (lim 1 a : Nat), .int .u64 (lim 2 a : Nat), .int .u64 (lim 3 a : Nat)]] w (RetV (.bool t) w) := fun w => by rw [ht]; exact minus_W ha w
  have hN : ∀ w, Calls Try.prog 103 #[.agg #[.int .u64 (lim 0 a : Nat), .int .u64 (lim 1 a : Nat), .int .u64 (lim 2 a : Nat), .int .u64 (lim 3 a : Nat)]] w (RetR (fun w' v => Num w' v a 8) w) := fun w => rN_c (isW_lim ha) w
  have HM := Lib.hid hM
  have HN := Lib.hid hN
  have gA := Arr.new4 w 24 (lim 0 a) (lim 1 a) (lim 2 a) (lim 3 a)
  have gW := (Below.refl w.heap.size w).alloc (Nat.le_refl _) (.cells #[.int .u64 (lim 0 a : Nat), .int .u64 (lim 1 a : Nat), .int .u64 (lim 2 a : Nat), .int .u64 (lim 3 a : Nat)] 24)
  clear hM hN ha
  have S1 := fun h => @siz_true a (ht.symm.trans h)
  have S2 := fun h => @siz_false a (ht.symm.trans h)
  have HS1 := Lib.hid S1
  have HS2 := Lib.hid S2
  clear S1 S2 ht
  go_enter Try.func119, Try.ntmps119
  go_upto_region 1 with (fail)
  generalize w.alloc (.cells #[.int .u64 (lim 0 a : Nat), .int .u64 (lim 1 a : Nat), .int .u64 (lim 2 a : Nat), .int .u64 (lim 3 a : Nat)] 24) = X at *
  obtain ⟨x0, x1, x2, x3⟩ := gA.cells4
  go_wp2_with fail
  (with_reducible refine (HM.out _).mono ?_)
  rintro e w1 ⟨rfl, hb1⟩
  have gA := gA.below hb1 gA.lt
  have gW := gW.trans (hb1.mono gW.size)
  clear x0 x1 x2 x3 hb1
  cases t with
  | true =>
    go_wp2_with fail
    refine wp_region_rel 5 [(5, .num (115792089237316195423570985008687907853269984665640564039457584007913129639936) 10), (6, (.is (W a))), (7, .num (a) 8), (8, .num (115792089237316195423570985008687907853269984665640564039457584007913129639936 - a) 10), (2, .num (115792089237316195423570985008687907853269984665640564039457584007913129639936 - a) 10)] (by kernel_rfl) (by kernel_rfl) ?_ ?_
    · refine relOps_cons ?_ (relOps_cons ?_ (relOps_cons ?_ (relOps_cons ?_ (relOps_cons ?_ relOps_nil))))
      · intro w' hb'
        refine relAsk_nil ?_
        refine relStep_go (by rfl) ?_
        go_simp
        exact rel_call (rtop_c _) (fun _ _ h => h)
      · intro w' hb'
        refine relAsk_out (by rfl) ?_
        refine relAsk_nil ?_
        refine relStep_go (by rfl) ?_
        obtain ⟨x0, x1, x2, x3⟩ := (gA.below hb' gA.lt).cells4
        go_simp
        exact rel_val rfl
      · intro w' hb'
        refine relAsk_in (by rfl) ?_
        intro v6 h6
        obtain rfl : v6 = (W a) := h6
        refine relAsk_nil ?_
        refine relStep_go (by rfl) ?_
        go_simp
        exact rel_call (rN_c iA.out _) (fun _ _ h => h)
      · intro w' hb'
        refine relAsk_in (by rfl) ?_
        intro v5 h5
        replace h5 : Num w' v5 (115792089237316195423570985008687907853269984665640564039457584007913129639936) 10 := h5
        refine relAsk_in (by rfl) ?_
        intro v7 h7
        replace h7 : Num w' v7 (a) 8 := h7
        refine relAsk_nil ?_
        refine relStep_go (by rfl) ?_
        go_simp
        exact rel_call (rsub_n _ h5 h7 (by omega) (by have := HA.out; unfold Big at this; omega)) (fun _ _ h => h.mono (by omega))
      · intro w' hb'
        refine relAsk_in (by rfl) ?_
        intro v8 h8
        replace h8 : Num w' v8 (115792089237316195423570985008687907853269984665640564039457584007913129639936 - a) 10 := h8
        refine relAsk_nil ?_
        refine relStep_go (by rfl) ?_
        go_simp
        exact rel_val h8
    · intro w' hb'
      refine relAsk_in (by rfl) ?_
      intro v5 h5
      replace h5 : Num w' v5 (115792089237316195423570985008687907853269984665640564039457584007913129639936) 10 := h5
      refine relAsk_in (by rfl) ?_
      intro v6 h6
      obtain rfl : v6 = (W a) := h6
      refine relAsk_in (by rfl) ?_
      intro v7 h7
      replace h7 : Num w' v7 (a) 8 := h7
      refine relAsk_in (by rfl) ?_
      intro v8 h8
      replace h8 : Num w' v8 (115792089237316195423570985008687907853269984665640564039457584007913129639936 - a) 10 := h8
      refine relAsk_in (by rfl) ?_
      intro v2 h2
      replace h2 : Num w' v2 (115792089237316195423570985008687907853269984665640564039457584007913129639936 - a) 10 := h2
      refine relAsk_nil ?_
      refine wpList_nil ?_
      have kW := gW.trans (hb'.mono gW.size)
      go_wp2_with fail
      go_ret
      exact ⟨_, rfl, by rw [HS1.out (by simp)]; exact h2, kW⟩
  | false =>
    obtain ⟨x0, x1, x2, x3⟩ := gA.cells4
    go_wp2_with fail
    (with_reducible refine (HN.out _).mono ?_)
    rintro e w2 ⟨v, rfl, hv, hb2⟩
    have kW := gW.trans (hb2.mono gW.size)
    clear x0 x1 x2 x3 gA gW hb2
    go_wp2_with fail
    go_ret
    exact ⟨_, rfl, by rw [HS2.out (by simp)]; exact hv.mono (by omega), kW⟩
set_option maxRecDepth 100000 in
set_option maxHeartbeats 3200000 in
theorem neg1_c {u : Value} {q L : Nat} (w : World) (h : Num w u q L) (hL : L ≤ 1048576) (hq : Big q) : Calls Try.prog 120 #[u] w (RetW (sig true q) w) := by
  have gR := Arr.new4z w 24
  have gW := (Below.refl w.heap.size w).alloc (Nat.le_refl _) (.cells #[.int .u64 0, .int .u64 0, .int .u64 0, .int .u64 0] 24)
  have hu := h.below ((Below.refl w.heap.size w).alloc (Nat.le_refl _) (.cells #[.int .u64 0, .int .u64 0, .int .u64 0, .int .u64 0] 24))
  have hQ : q % 115792089237316195423570985008687907853269984665640564039457584007913129639936 = q := Nat.mod_eq_of_lt hq
  have hS : sig true q = (115792089237316195423570985008687907853269984665640564039457584007913129639936 - q) % 115792089237316195423570985008687907853269984665640564039457584007913129639936 := rfl
  have HQ := Lib.hid hQ
  have HS := Lib.hid hS
  have HB := Lib.hid hq
  clear h hQ hS hq
  go_enter Try.func120, Try.ntmps120
  go_upto_region 1 with (fail)
  generalize w.alloc (.cells #[.int .u64 0, .int .u64 0, .int .u64 0, .int .u64 0] 24) = X at *
  go_wp2_with fail
  (with_reducible refine (rtop_c _).mono ?_)
  rintro e w1 ⟨v1, rfl, h1, hb1⟩
  have hu := hu.below hb1
  have gR := gR.below hb1 gR.lt
  have gW := gW.trans (hb1.mono gW.size)
  clear hb1
  go_wp2_with fail
  (with_reducible refine (rtop_c _).mono ?_)
  rintro e w2 ⟨v2, rfl, h2, hb2⟩
  have hu := hu.below hb2
  have h1 := h1.below hb2
  have gR := gR.below hb2 gR.lt
  have gW := gW.trans (hb2.mono gW.size)
  clear hb2
  go_wp2_with fail
  (with_reducible refine (rmod_n _ hu h2 hL (by omega) (by omega)).mono ?_)
  rintro e w3 ⟨v3, rfl, h3, hb3⟩
  have h1 := h1.below hb3
  have gR := gR.below hb3 gR.lt
  have gW := gW.trans (hb3.mono gW.size)
  rw [HQ.out] at h3
  clear hb3 hu h2
  go_wp2_with fail
  (with_reducible refine (rsub_n _ h1 h3 (by omega) (by have := HB.out; unfold Big at this; omega)).mono ?_)
  rintro e w4 ⟨v4, rfl, h4, hb4⟩
  have gR := gR.below hb4 gR.lt
  have gW := gW.trans (hb4.mono gW.size)
  clear hb4 h1 h3
  go_wp2_with fail
  (with_reducible refine (rW_n _ h4 (by omega)).mono ?_)
  rintro e w5 hw5
  rw [← HS.out] at hw5
  obtain ⟨rfl, hb5⟩ := hw5.val
  have kR := gR.below hb5 gR.lt
  have kW := gW.trans (hb5.mono gW.size)
  obtain ⟨y0, y1, y2, y3⟩ := kR.cells4
  obtain ⟨f0, f1, f2, f3⟩ := kR.free4
  clear gR gW hb5 hw5 h4
  have iS := isW_lim (show Big (sig true q) from sig_big HB.out)
  go_wp2_with fail
  refine bodyPost_ret (v := W (sig true q)) (by simp [results, Try.results120, go_sem, y0, y1, y2, y3]) rfl ⟨_, _, _, _, rfl, iS, ?_⟩
  repeat (first | exact kW | refine Below.setCell ?_ (by simp; try omega) _)
end Go.Proofs.Ytihffojljbgpcaa
