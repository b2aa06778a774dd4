/- The contracts of package quarryref01's Not, Sar and Bitwise. -/
import Derived.Test.YtihffojljbgpcaaRef7
namespace Go.Proofs.Ytihffojljbgpcaa
open Go.RowKit

theorem num_one (w : World) : Num (w.alloc (.cells #[Value.int .u32 1] 56)) (.slice (some ⟨w.heap.size, 0, none⟩) 1 1) 1 1 :=
  ⟨_, _, [1], rfl, (Row.new (k := .u32) w 56 [1]).rd0, ⟨Ds.mk (by omega) Ds.nil, by simp [dv], fun _ => by simp⟩, by simp⟩
set_option maxRecDepth 100000 in
set_option maxHeartbeats 3200000 in
theorem not1_c {a : Nat} (ha : Big a) (w : World) : Calls Try.prog 63 #[W a] w (RetW (notv a) w) := by
  have hm : notv a % 115792089237316195423570985008687907853269984665640564039457584007913129639936 = notv a := Nat.mod_eq_of_lt (notv_big a)
  have HM := Lib.hid hm
  have HA := Lib.hid ha
  have IA := Lib.hid (isW_lim ha)
  clear hm ha
  go_enter Try.func63, Try.ntmps63
  go_upto_region 1 with (fail)
  obtain ⟨gA, gR, gS, gW⟩ := start2 w 24 (lim 0 a) (lim 1 a) (lim 2 a) (lim 3 a) _ rfl
  generalize (w.alloc (.cells #[.int .u64 (lim 0 a : Nat), .int .u64 (lim 1 a : Nat), .int .u64 (lim 2 a : Nat), .int .u64 (lim 3 a : Nat)] 24)).alloc (.cells #[.int .u64 0, .int .u64 0, .int .u64 0, .int .u64 0] 24) = X at *
  clear gS
  go_wp2_with fail
  refine wp_region_rel 7 [(3, .num (115792089237316195423570985008687907853269984665640564039457584007913129639936) 10), (4, .num (1) 1), (5, .num (115792089237316195423570985008687907853269984665640564039457584007913129639935) 10), (6, (.is (W a))), (7, .num (a) 8), (8, .num (notv a) 10), (9, (.is (W (notv a))))] (by kernel_rfl) (by kernel_rfl) ?_ ?_
  · refine relOps_cons ?_ (relOps_cons ?_ (relOps_cons ?_ (relOps_cons ?_ (relOps_cons ?_ (relOps_cons ?_ (relOps_cons ?_ relOps_nil))))))
    · intro w' hb'
      refine relAsk_nil ?_
      refine relStep_go (by rfl) ?_
      go_simp
      exact rel_call (rtop_c _) (fun _ _ h => h)
    · intro w' hb'
      refine relAsk_nil ?_
      refine relStep_go (by rfl) ?_
      go_simp
      exact ⟨(Below.refl _ _).alloc (Nat.le_refl _) _, num_one w'⟩
    · intro w' hb'
      refine relAsk_in (by rfl) ?_
      intro v3 h3
      replace h3 : Num w' v3 (115792089237316195423570985008687907853269984665640564039457584007913129639936) 10 := h3
      refine relAsk_in (by rfl) ?_
      intro v4 h4
      replace h4 : Num w' v4 (1) 1 := h4
      refine relAsk_nil ?_
      refine relStep_go (by rfl) ?_
      go_simp
      exact rel_call (rsub_n _ h3 h4 (by omega) (by omega)) (fun _ _ h => h)
    · intro w' hb'
      refine relAsk_out (by rfl) ?_
      refine relAsk_nil ?_
      refine relStep_go (by rfl) ?_
      obtain ⟨x0, x1, x2, x3⟩ := (gA.below hb' gA.lt).cells4
      clear gA gR
      go_simp
      exact rel_val rfl
    · intro w' hb'
      refine relAsk_in (by rfl) ?_
      intro v6 h6
      obtain rfl : v6 = (W a) := h6
      refine relAsk_nil ?_
      refine relStep_go (by rfl) ?_
      go_simp
      exact rel_call (rN_c IA.out _) (fun _ _ h => h)
    · intro w' hb'
      refine relAsk_in (by rfl) ?_
      intro v5 h5
      replace h5 : Num w' v5 (115792089237316195423570985008687907853269984665640564039457584007913129639935) 10 := h5
      refine relAsk_in (by rfl) ?_
      intro v7 h7
      replace h7 : Num w' v7 (a) 8 := h7
      refine relAsk_nil ?_
      refine relStep_go (by rfl) ?_
      go_simp
      exact rel_call (rsub_n _ h5 h7 (by omega) (by have := HA.out; unfold Big at this; omega)) (fun _ _ h => h)
    · intro w' hb'
      refine relAsk_in (by rfl) ?_
      intro v8 h8
      replace h8 : Num w' v8 (notv a) 10 := h8
      refine relAsk_nil ?_
      refine relStep_go (by rfl) ?_
      go_simp
      exact rel_callW (by have h := rW_n w' h8 (by omega); rw [HM.out] at h; exact h) (fun _ => rfl)
  · intro w' hb'
    refine relAsk_in (by rfl) ?_
    intro v3 h3
    replace h3 : Num w' v3 (115792089237316195423570985008687907853269984665640564039457584007913129639936) 10 := h3
    refine relAsk_in (by rfl) ?_
    intro v4 h4
    replace h4 : Num w' v4 (1) 1 := h4
    refine relAsk_in (by rfl) ?_
    intro v5 h5
    replace h5 : Num w' v5 (115792089237316195423570985008687907853269984665640564039457584007913129639935) 10 := h5
    refine relAsk_in (by rfl) ?_
    intro v6 h6
    obtain rfl : v6 = (W a) := h6
    refine relAsk_in (by rfl) ?_
    intro v7 h7
    replace h7 : Num w' v7 (a) 8 := h7
    refine relAsk_in (by rfl) ?_
    intro v8 h8
    replace h8 : Num w' v8 (notv a) 10 := h8
    refine relAsk_in (by rfl) ?_
    intro v9 h9
    obtain rfl : v9 = (W (notv a)) := h9
    refine relAsk_nil ?_
    have gR := gR.below hb' gR.lt
    have gW := gW.trans (hb'.mono gW.size)
    clear gA hb' h3 h4 h5 h7 h8
    obtain ⟨y0, y1, y2, y3⟩ := gR.cells4
    obtain ⟨f0, f1, f2, f3⟩ := gR.free4
    go_wp2_with fail
    refine bodyPost_ret (v := W (notv a)) (by simp [results, Try.results63, go_sem, y0, y1, y2, y3]) rfl ⟨_, _, _, _, rfl, isW_lim (notv_big a), ?_⟩
    repeat (first | exact gW | refine Below.setCell ?_ (by simp; try omega) _)
set_option maxRecDepth 100000 in
set_option maxHeartbeats 3200000 in
theorem sar1_c {n a : Nat} (hn : Big n) (ha : Big a) (w : World) : Calls Try.prog 73 #[W n, W a] w (RetW (sarv n a) w) := by
  obtain ⟨t, ht⟩ : ∃ t, t = sgn a := ⟨_, rfl⟩
  have k1 : ∀ w, Calls Try.prog 106 #[.agg #[.int .u64 (lim 0 a : Nat), .int .u64 (lim 1 a : Nat), .int .u64 (lim 2 a : Nat), .int .u64 (lim 3 a : Nat)]] w (RetV (.bool t) w) := fun w => by rw [ht]; exact minus_W ha w
  have K1 := Lib.hid k1
  unfold sarv
  rw [← ht]
  clear k1 ht
  cases t with
  | true =>
    rw [if_pos rfl]
    obtain ⟨b, hb⟩ : ∃ b, b = notv a := ⟨_, rfl⟩
    rw [← hb]
    obtain ⟨c, hc⟩ : ∃ c, c = shrv n b := ⟨_, rfl⟩
    rw [← hc]
    obtain ⟨d, hd⟩ : ∃ d, d = notv c := ⟨_, rfl⟩
    rw [← hd]
    have bB : Big b := by rw [hb]; exact notv_big _
    have bC : Big c := by rw [hc]; exact shrv_big n bB
    have bD : Big d := by rw [hd]; exact notv_big _
    have k2 : ∀ w, Calls Try.prog 63 #[W a] w (RetW b w) := fun w => by rw [hb]; exact not1_c ha w
    have k3 : ∀ w, Calls Try.prog 71 #[W n, W b] w (RetW c w) := fun w => by rw [hc]; exact shr1_c hn bB w
    have k4 : ∀ w, Calls Try.prog 63 #[W c] w (RetW d w) := fun w => by rw [hd]; exact not1_c bC w
    have K2 := Lib.hid k2
    have K3 := Lib.hid k3
    have K4 := Lib.hid k4
    have BD := Lib.hid bD
    clear k2 k3 k4 bB bC bD hb hc hd hn ha
    go_enter Try.func73, Try.ntmps73
    go_upto_region 1 with (fail)
    obtain ⟨gA, gB, gR, gS, gW⟩ := start3 w 24 (lim 0 n) (lim 1 n) (lim 2 n) (lim 3 n) (lim 0 a) (lim 1 a) (lim 2 a) (lim 3 a) _ rfl
    generalize ((w.alloc (.cells #[.int .u64 (lim 0 n : Nat), .int .u64 (lim 1 n : Nat), .int .u64 (lim 2 n : Nat), .int .u64 (lim 3 n : Nat)] 24)).alloc (.cells #[.int .u64 (lim 0 a : Nat), .int .u64 (lim 1 a : Nat), .int .u64 (lim 2 a : Nat), .int .u64 (lim 3 a : Nat)] 24)).alloc (.cells #[.int .u64 0, .int .u64 0, .int .u64 0, .int .u64 0] 24) = X at *
    clear gS
    obtain ⟨x0, x1, x2, x3⟩ := gB.cells4
    go_wp2_with fail
    (with_reducible refine (K1.out _).mono ?_)
    rintro e w1 ⟨rfl, hb1⟩
    have gA := gA.below hb1 gA.lt
    have gB := gB.below hb1 gB.lt
    have gR := gR.below hb1 gR.lt
    have gW := gW.trans (hb1.mono gW.size)
    clear hb1
    clear x0 x1 x2 x3
    go_wp2_with fail
    refine wp_region_rel 5 [(11, (.is (W n))), (12, (.is (W a))), (13, (.is (W (b)))), (14, (.is (W (c)))), (15, (.is (W (d))))] (by kernel_rfl) (by kernel_rfl) ?_ ?_
    · refine relOps_cons ?_ (relOps_cons ?_ (relOps_cons ?_ (relOps_cons ?_ (relOps_cons ?_ relOps_nil))))
      · intro w' hb'
        refine relAsk_out (by rfl) ?_
        refine relAsk_nil ?_
        refine relStep_go (by rfl) ?_
        obtain ⟨x0, x1, x2, x3⟩ := (gA.below hb' gA.lt).cells4
        clear gA gB gR
        go_simp
        exact rel_val rfl
      · intro w' hb'
        refine relAsk_out (by rfl) ?_
        refine relAsk_nil ?_
        refine relStep_go (by rfl) ?_
        obtain ⟨x0, x1, x2, x3⟩ := (gB.below hb' gB.lt).cells4
        clear gA gB gR
        go_simp
        exact rel_val rfl
      · intro w' hb'
        refine relAsk_in (by rfl) ?_
        intro v12 h12
        obtain rfl : v12 = (W a) := h12
        refine relAsk_nil ?_
        refine relStep_go (by rfl) ?_
        go_simp
        exact rel_callW (K2.out _) (fun _ => rfl)
      · intro w' hb'
        refine relAsk_in (by rfl) ?_
        intro v11 h11
        obtain rfl : v11 = (W n) := h11
        refine relAsk_in (by rfl) ?_
        intro v13 h13
        obtain rfl : v13 = (W (b)) := h13
        refine relAsk_nil ?_
        refine relStep_go (by rfl) ?_
        go_simp
        exact rel_callW (K3.out _) (fun _ => rfl)
      · intro w' hb'
        refine relAsk_in (by rfl) ?_
        intro v14 h14
        obtain rfl : v14 = (W (c)) := h14
        refine relAsk_nil ?_
        refine relStep_go (by rfl) ?_
        go_simp
        exact rel_callW (K4.out _) (fun _ => rfl)
    · intro w' hb'
      refine relAsk_in (by rfl) ?_
      intro v11 h11
      obtain rfl : v11 = (W n) := h11
      refine relAsk_in (by rfl) ?_
      intro v12 h12
      obtain rfl : v12 = (W a) := h12
      refine relAsk_in (by rfl) ?_
      intro v13 h13
      obtain rfl : v13 = (W (b)) := h13
      refine relAsk_in (by rfl) ?_
      intro v14 h14
      obtain rfl : v14 = (W (c)) := h14
      refine relAsk_in (by rfl) ?_
      intro v15 h15
      obtain rfl : v15 = (W (d)) := h15
      refine relAsk_nil ?_
      have gR := gR.below hb' gR.lt
      have gW := gW.trans (hb'.mono gW.size)
      clear gA gB hb'
      obtain ⟨y0, y1, y2, y3⟩ := gR.cells4
      obtain ⟨f0, f1, f2, f3⟩ := gR.free4
      go_wp2_with fail
      refine bodyPost_ret (v := W (d)) (by simp [results, Try.results73, go_sem, y0, y1, y2, y3]) rfl ⟨_, _, _, _, rfl, isW_lim (BD.out), ?_⟩
      repeat (first | exact gW | refine Below.setCell ?_ (by simp; try omega) _)
  | false =>
    rw [if_neg (by decide)]
    obtain ⟨c, hc⟩ : ∃ c, c = shrv n a := ⟨_, rfl⟩
    rw [← hc]
    have bC : Big c := by rw [hc]; exact shrv_big n ha
    have k3 : ∀ w, Calls Try.prog 71 #[.agg #[.int .u64 (lim 0 n : Nat), .int .u64 (lim 1 n : Nat), .int .u64 (lim 2 n : Nat), .int .u64 (lim 3 n : Nat)], .agg #[.int .u64 (lim 0 a : Nat), .int .u64 (lim 1 a : Nat), .int .u64 (lim 2 a : Nat), .int .u64 (lim 3 a : Nat)]] w (RetW c w) := fun w => by rw [hc]; exact shr1_c hn ha w
    have K3 := Lib.hid k3
    have BC := Lib.hid bC
    clear k3 bC hc hn ha
    go_enter Try.func73, Try.ntmps73
    go_upto_region 1 with (fail)
    obtain ⟨gA, gB, gR, gS, gW⟩ := start3 w 24 (lim 0 n) (lim 1 n) (lim 2 n) (lim 3 n) (lim 0 a) (lim 1 a) (lim 2 a) (lim 3 a) _ rfl
    generalize ((w.alloc (.cells #[.int .u64 (lim 0 n : Nat), .int .u64 (lim 1 n : Nat), .int .u64 (lim 2 n : Nat), .int .u64 (lim 3 n : Nat)] 24)).alloc (.cells #[.int .u64 (lim 0 a : Nat), .int .u64 (lim 1 a : Nat), .int .u64 (lim 2 a : Nat), .int .u64 (lim 3 a : Nat)] 24)).alloc (.cells #[.int .u64 0, .int .u64 0, .int .u64 0, .int .u64 0] 24) = X at *
    clear gS
    obtain ⟨x0, x1, x2, x3⟩ := gB.cells4
    go_wp2_with fail
    (with_reducible refine (K1.out _).mono ?_)
    rintro e w1 ⟨rfl, hb1⟩
    have gA := gA.below hb1 gA.lt
    have gB := gB.below hb1 gB.lt
    have gR := gR.below hb1 gR.lt
    have gW := gW.trans (hb1.mono gW.size)
    clear hb1
    clear x0 x1 x2 x3
    obtain ⟨x0, x1, x2, x3⟩ := gA.cells4
    obtain ⟨z0, z1, z2, z3⟩ := gB.cells4
    go_wp2_with fail
    (with_reducible refine (K3.out _).mono ?_)
    rintro e w2 hw
    obtain ⟨rfl, hb1⟩ := hw.val
    have gR := gR.below hb1 gR.lt
    have gW := gW.trans (hb1.mono gW.size)
    clear hb1 hw
    clear x0 x1 x2 x3 z0 z1 z2 z3
    obtain ⟨y0, y1, y2, y3⟩ := gR.cells4
    obtain ⟨f0, f1, f2, f3⟩ := gR.free4
    go_wp2_with fail
    refine bodyPost_ret (v := W (c)) (by simp [results, Try.results73, go_sem, y0, y1, y2, y3]) rfl ⟨_, _, _, _, rfl, isW_lim (BC.out), ?_⟩
    repeat (first | exact gW | refine Below.setCell ?_ (by simp; try omega) _)

/-- Limbs below m are g of the two limbs. -/
def LwInv (g : Nat → Nat → Nat) (xs ys : List Nat) (m : Nat) (cs : List Nat) : Prop := ∀ j, j < m → cs.getD j 0 = g (xs.getD j 0) (ys.getD j 0)
theorem lw_step {g : Nat → Nat → Nat} {xs ys cs : List Nat} {m z : Nat} (h : LwInv g xs ys m cs) (hm : m < cs.length) (hz : z = g (xs.getD m 0) (ys.getD m 0)) : LwInv g xs ys (m + 1) (cs.set m z) := fun j hj => by
  by_cases e : m = j
  · subst e; rw [getD_set_self hm]; exact hz
  · rw [getD_set_ne e]; exact h j (by omega)
set_option maxRecDepth 100000 in
set_option maxHeartbeats 3200000 in
theorem and1_c {a b : Nat} (w : World) : Calls Try.prog 59 #[W a, W b, .int .i64 0] w (RetW (lw (fun x y => x &&& y) a b) w) := by
  have lA : Lims [lim 0 a, lim 1 a, lim 2 a, lim 3 a] := Lims.four (lim_lt 0 a) (lim_lt 1 a) (lim_lt 2 a) (lim_lt 3 a)
  have lB : Lims [lim 0 b, lim 1 b, lim 2 b, lim 3 b] := Lims.four (lim_lt 0 b) (lim_lt 1 b) (lim_lt 2 b) (lim_lt 3 b)
  have LA := Lib.hid lA
  have LB := Lib.hid lB
  clear lA lB
  go_enter Try.func59, Try.ntmps59
  go_upto_region 1 with (fail)
  obtain ⟨gA, gB, gR, gS, gW⟩ := start3 w 24 (lim 0 a) (lim 1 a) (lim 2 a) (lim 3 a) (lim 0 b) (lim 1 b) (lim 2 b) (lim 3 b) _ rfl
  generalize ((w.alloc (.cells #[.int .u64 (lim 0 a : Nat), .int .u64 (lim 1 a : Nat), .int .u64 (lim 2 a : Nat), .int .u64 (lim 3 a : Nat)] 24)).alloc (.cells #[.int .u64 (lim 0 b : Nat), .int .u64 (lim 1 b : Nat), .int .u64 (lim 2 b : Nat), .int .u64 (lim 3 b : Nat)] 24)).alloc (.cells #[.int .u64 0, .int .u64 0, .int .u64 0, .int .u64 0] 24) = X at *
  have gC := Arr.new4z X 24
  have gA := gA.alloc (.cells #[.int .u64 0, .int .u64 0, .int .u64 0, .int .u64 0] 24)
  have gB := gB.alloc (.cells #[.int .u64 0, .int .u64 0, .int .u64 0, .int .u64 0] 24)
  have gR := gR.alloc (.cells #[.int .u64 0, .int .u64 0, .int .u64 0, .int .u64 0] 24)
  have gW := gW.alloc (by omega) (.cells #[.int .u64 0, .int .u64 0, .int .u64 0, .int .u64 0] 24)
  have hC : X.heap.size = w.heap.size + 1 + 1 + 1 := gS
  go_upto_region 2 with (fail)
  rw [gS] at gC
  generalize X.alloc (.cells #[.int .u64 0, .int .u64 0, .int .u64 0, .int .u64 0] 24) = Y at *
  clear gS hC
  go_wp2_with fail
  go_loopw [8] (fun i wr => ∃ (m : Nat) (cs : List Nat), m ≤ 4 ∧ i = .int .i64 (m : Int) ∧ Hid (cs.length = 4) ∧ Hid (Lims cs) ∧ Hid (LwInv (fun x y => x &&& y) [lim 0 a, lim 1 a, lim 2 a, lim 3 a] [lim 0 b, lim 1 b, lim 2 b, lim 3 b] m cs) ∧ Arr wr w.heap.size 24 [lim 0 a, lim 1 a, lim 2 a, lim 3 a] ∧ Arr wr (w.heap.size + 1) 24 [lim 0 b, lim 1 b, lim 2 b, lim 3 b] ∧ Arr wr (w.heap.size + 1 + 1) 24 [0, 0, 0, 0] ∧ Arr wr (w.heap.size + 1 + 1 + 1) 24 cs ∧ Hid (Below w.heap.size w wr))
    (fun i _ => (4 - intOf i).toNat)
  case atStart =>
    exact ⟨0, [0, 0, 0, 0], by omega, rfl, rfl, Lims.four (by unfold Lim; omega) (by unfold Lim; omega) (by unfold Lim; omega) (by unfold Lim; omega), fun j hj => by omega, gA, gB, gR, gC, gW⟩
  case round =>
    obtain ⟨m, cs, hm, rfl, HL, hlim, hinv, hA, hB, hR, hC, hbel⟩ := hrel
    clear gA gB gR gC gW
    by_cases hlt : (m : Int) < 4
    · have cx := hA.cell m (by simp; omega)
      have cy := hB.cell m (by simp; omega)
      have cc := hC.cell m (by rw [HL.out]; omega)
      have fc := hC.frozen m
      obtain ⟨x, ex⟩ : ∃ x, x = [lim 0 a, lim 1 a, lim 2 a, lim 3 a].getD m 0 := ⟨_, rfl⟩
      obtain ⟨y, ey⟩ : ∃ y, y = [lim 0 b, lim 1 b, lim 2 b, lim 3 b].getD m 0 := ⟨_, rfl⟩
      rw [← ex] at cx
      rw [← ey] at cy
      have lx : Lim x := by rw [ex]; exact LA.out.get m
      have ly : Lim y := by rw [ey]; exact LB.out.get m
      obtain ⟨z, ez, qz⟩ := and_bits lx ly
      have lz : Lim z := by rw [ez]; exact and_lim x y lx ly
      have hnext := lw_step (z := z) hinv.out (by rw [HL.out]; omega) (by rw [ez, ex, ey])
      have HN := Lib.hid hnext
      have HZ := Lib.hid lz
      have HA := Lib.hid hA
      have HB := Lib.hid hB
      have HR := Lib.hid hR
      have HC := Lib.hid hC
      clear ex ey lx ly ez lz hnext hinv hA hB hR hC
      go_wp2_with fail
      go_region
      go_wp2_with fail
      go_roundw
      case rel =>
        exact ⟨m + 1, cs.set m z, by omega, by go_num, by show (cs.set m z).length = 4; rw [List.length_set]; exact HL.out, hlim.out.set m z HZ.out, HN.out, HA.out.far (p := ⟨w.heap.size + 1 + 1 + 1, m, none⟩) (by simp <;> omega) _, HB.out.far (p := ⟨w.heap.size + 1 + 1 + 1, m, none⟩) (by simp <;> omega) _, HR.out.far (p := ⟨w.heap.size + 1 + 1 + 1, m, none⟩) (by simp <;> omega) _, HC.out.set m z, (hbel.out.setCell (p := ⟨w.heap.size + 1 + 1 + 1, m, none⟩) (by simp <;> omega) _).drew⟩
      case measure => simp [intOf]; omega
    · obtain rfl : m = 4 := by omega
      obtain ⟨c0, c1, c2, c3, rfl⟩ := list4 HL.out
      have hi := isW_val hlim.out
      have e0 := hinv.out 0 (by omega)
      have e1 := hinv.out 1 (by omega)
      have e2 := hinv.out 2 (by omega)
      have e3 := hinv.out 3 (by omega)
      simp at e0 e1 e2 e3
      have hv : vl [c0, c1, c2, c3] = lw (fun x y => x &&& y) a b := by unfold lw; rw [e0, e1, e2, e3]
      have HI := Lib.hid (hi.eq hv)
      have gW := hbel.out
      clear e0 e1 e2 e3 hi hv hA hB
      obtain ⟨x0, x1, x2, x3⟩ := hC.cells4
      obtain ⟨y0, y1, y2, y3⟩ := hR.cells4
      obtain ⟨f0, f1, f2, f3⟩ := hR.free4
      go_wp2_with fail
      refine bodyPost_ret (v := W4 c0 c1 c2 c3) (by simp [results, Try.results59, go_sem, y0, y1, y2, y3]) rfl ⟨c0, c1, c2, c3, rfl, HI.out, ?_⟩
      repeat (first | exact gW | refine Below.setCell ?_ (by simp; try omega) _)
set_option maxRecDepth 100000 in
set_option maxHeartbeats 3200000 in
theorem or1_c {a b : Nat} (w : World) : Calls Try.prog 59 #[W a, W b, .int .i64 1] w (RetW (lw (fun x y => x ||| y) a b) w) := by
  have lA : Lims [lim 0 a, lim 1 a, lim 2 a, lim 3 a] := Lims.four (lim_lt 0 a) (lim_lt 1 a) (lim_lt 2 a) (lim_lt 3 a)
  have lB : Lims [lim 0 b, lim 1 b, lim 2 b, lim 3 b] := Lims.four (lim_lt 0 b) (lim_lt 1 b) (lim_lt 2 b) (lim_lt 3 b)
  have LA := Lib.hid lA
  have LB := Lib.hid lB
  clear lA lB
  go_enter Try.func59, Try.ntmps59
  go_upto_region 1 with (fail)
  obtain ⟨gA, gB, gR, gS, gW⟩ := start3 w 24 (lim 0 a) (lim 1 a) (lim 2 a) (lim 3 a) (lim 0 b) (lim 1 b) (lim 2 b) (lim 3 b) _ rfl
  generalize ((w.alloc (.cells #[.int .u64 (lim 0 a : Nat), .int .u64 (lim 1 a : Nat), .int .u64 (lim 2 a : Nat), .int .u64 (lim 3 a : Nat)] 24)).alloc (.cells #[.int .u64 (lim 0 b : Nat), .int .u64 (lim 1 b : Nat), .int .u64 (lim 2 b : Nat), .int .u64 (lim 3 b : Nat)] 24)).alloc (.cells #[.int .u64 0, .int .u64 0, .int .u64 0, .int .u64 0] 24) = X at *
  have gC := Arr.new4z X 24
  have gA := gA.alloc (.cells #[.int .u64 0, .int .u64 0, .int .u64 0, .int .u64 0] 24)
  have gB := gB.alloc (.cells #[.int .u64 0, .int .u64 0, .int .u64 0, .int .u64 0] 24)
  have gR := gR.alloc (.cells #[.int .u64 0, .int .u64 0, .int .u64 0, .int .u64 0] 24)
  have gW := gW.alloc (by omega) (.cells #[.int .u64 0, .int .u64 0, .int .u64 0, .int .u64 0] 24)
  have hC : X.heap.size = w.heap.size + 1 + 1 + 1 := gS
  go_upto_region 2 with (fail)
  rw [gS] at gC
  generalize X.alloc (.cells #[.int .u64 0, .int .u64 0, .int .u64 0, .int .u64 0] 24) = Y at *
  clear gS hC
  go_wp2_with fail
  go_loopw [8] (fun i wr => ∃ (m : Nat) (cs : List Nat), m ≤ 4 ∧ i = .int .i64 (m : Int) ∧ Hid (cs.length = 4) ∧ Hid (Lims cs) ∧ Hid (LwInv (fun x y => x ||| y) [lim 0 a, lim 1 a, lim 2 a, lim 3 a] [lim 0 b, lim 1 b, lim 2 b, lim 3 b] m cs) ∧ Arr wr w.heap.size 24 [lim 0 a, lim 1 a, lim 2 a, lim 3 a] ∧ Arr wr (w.heap.size + 1) 24 [lim 0 b, lim 1 b, lim 2 b, lim 3 b] ∧ Arr wr (w.heap.size + 1 + 1) 24 [0, 0, 0, 0] ∧ Arr wr (w.heap.size + 1 + 1 + 1) 24 cs ∧ Hid (Below w.heap.size w wr))
    (fun i _ => (4 - intOf i).toNat)
  case atStart =>
    exact ⟨0, [0, 0, 0, 0], by omega, rfl, rfl, Lims.four (by unfold Lim; omega) (by unfold Lim; omega) (by unfold Lim; omega) (by unfold Lim; omega), fun j hj => by omega, gA, gB, gR, gC, gW⟩
  case round =>
    obtain ⟨m, cs, hm, rfl, HL, hlim, hinv, hA, hB, hR, hC, hbel⟩ := hrel
    clear gA gB gR gC gW
    by_cases hlt : (m : Int) < 4
    · have cx := hA.cell m (by simp; omega)
      have cy := hB.cell m (by simp; omega)
      have cc := hC.cell m (by rw [HL.out]; omega)
      have fc := hC.frozen m
      obtain ⟨x, ex⟩ : ∃ x, x = [lim 0 a, lim 1 a, lim 2 a, lim 3 a].getD m 0 := ⟨_, rfl⟩
      obtain ⟨y, ey⟩ : ∃ y, y = [lim 0 b, lim 1 b, lim 2 b, lim 3 b].getD m 0 := ⟨_, rfl⟩
      rw [← ex] at cx
      rw [← ey] at cy
      have lx : Lim x := by rw [ex]; exact LA.out.get m
      have ly : Lim y := by rw [ey]; exact LB.out.get m
      obtain ⟨z, ez, qz⟩ := or_bits lx ly
      have lz : Lim z := by rw [ez]; exact or_lim x y lx ly
      have hnext := lw_step (z := z) hinv.out (by rw [HL.out]; omega) (by rw [ez, ex, ey])
      have HN := Lib.hid hnext
      have HZ := Lib.hid lz
      have HA := Lib.hid hA
      have HB := Lib.hid hB
      have HR := Lib.hid hR
      have HC := Lib.hid hC
      clear ex ey lx ly ez lz hnext hinv hA hB hR hC
      go_wp2_with fail
      go_region
      go_wp2_with fail
      go_roundw
      case rel =>
        exact ⟨m + 1, cs.set m z, by omega, by go_num, by show (cs.set m z).length = 4; rw [List.length_set]; exact HL.out, hlim.out.set m z HZ.out, HN.out, HA.out.far (p := ⟨w.heap.size + 1 + 1 + 1, m, none⟩) (by simp <;> omega) _, HB.out.far (p := ⟨w.heap.size + 1 + 1 + 1, m, none⟩) (by simp <;> omega) _, HR.out.far (p := ⟨w.heap.size + 1 + 1 + 1, m, none⟩) (by simp <;> omega) _, HC.out.set m z, (hbel.out.setCell (p := ⟨w.heap.size + 1 + 1 + 1, m, none⟩) (by simp <;> omega) _).drew⟩
      case measure => simp [intOf]; omega
    · obtain rfl : m = 4 := by omega
      obtain ⟨c0, c1, c2, c3, rfl⟩ := list4 HL.out
      have hi := isW_val hlim.out
      have e0 := hinv.out 0 (by omega)
      have e1 := hinv.out 1 (by omega)
      have e2 := hinv.out 2 (by omega)
      have e3 := hinv.out 3 (by omega)
      simp at e0 e1 e2 e3
      have hv : vl [c0, c1, c2, c3] = lw (fun x y => x ||| y) a b := by unfold lw; rw [e0, e1, e2, e3]
      have HI := Lib.hid (hi.eq hv)
      have gW := hbel.out
      clear e0 e1 e2 e3 hi hv hA hB
      obtain ⟨x0, x1, x2, x3⟩ := hC.cells4
      obtain ⟨y0, y1, y2, y3⟩ := hR.cells4
      obtain ⟨f0, f1, f2, f3⟩ := hR.free4
      go_wp2_with fail
      refine bodyPost_ret (v := W4 c0 c1 c2 c3) (by simp [results, Try.results59, go_sem, y0, y1, y2, y3]) rfl ⟨c0, c1, c2, c3, rfl, HI.out, ?_⟩
      repeat (first | exact gW | refine Below.setCell ?_ (by simp; try omega) _)
set_option maxRecDepth 100000 in
set_option maxHeartbeats 3200000 in
theorem xor1_c {a b : Nat} (w : World) : Calls Try.prog 59 #[W a, W b, .int .i64 2] w (RetW (lw (fun x y => x ^^^ y) a b) w) := by
  have lA : Lims [lim 0 a, lim 1 a, lim 2 a, lim 3 a] := Lims.four (lim_lt 0 a) (lim_lt 1 a) (lim_lt 2 a) (lim_lt 3 a)
  have lB : Lims [lim 0 b, lim 1 b, lim 2 b, lim 3 b] := Lims.four (lim_lt 0 b) (lim_lt 1 b) (lim_lt 2 b) (lim_lt 3 b)
  have LA := Lib.hid lA
  have LB := Lib.hid lB
  clear lA lB
  go_enter Try.func59, Try.ntmps59
  go_upto_region 1 with (fail)
  obtain ⟨gA, gB, gR, gS, gW⟩ := start3 w 24 (lim 0 a) (lim 1 a) (lim 2 a) (lim 3 a) (lim 0 b) (lim 1 b) (lim 2 b) (lim 3 b) _ rfl
  generalize ((w.alloc (.cells #[.int .u64 (lim 0 a : Nat), .int .u64 (lim 1 a : Nat), .int .u64 (lim 2 a : Nat), .int .u64 (lim 3 a : Nat)] 24)).alloc (.cells #[.int .u64 (lim 0 b : Nat), .int .u64 (lim 1 b : Nat), .int .u64 (lim 2 b : Nat), .int .u64 (lim 3 b : Nat)] 24)).alloc (.cells #[.int .u64 0, .int .u64 0, .int .u64 0, .int .u64 0] 24) = X at *
  have gC := Arr.new4z X 24
  have gA := gA.alloc (.cells #[.int .u64 0, .int .u64 0, .int .u64 0, .int .u64 0] 24)
  have gB := gB.alloc (.cells #[.int .u64 0, .int .u64 0, .int .u64 0, .int .u64 0] 24)
  have gR := gR.alloc (.cells #[.int .u64 0, .int .u64 0, .int .u64 0, .int .u64 0] 24)
  have gW := gW.alloc (by omega) (.cells #[.int .u64 0, .int .u64 0, .int .u64 0, .int .u64 0] 24)
  have hC : X.heap.size = w.heap.size + 1 + 1 + 1 := gS
  go_upto_region 2 with (fail)
  rw [gS] at gC
  generalize X.alloc (.cells #[.int .u64 0, .int .u64 0, .int .u64 0, .int .u64 0] 24) = Y at *
  clear gS hC
  go_wp2_with fail
  go_loopw [8] (fun i wr => ∃ (m : Nat) (cs : List Nat), m ≤ 4 ∧ i = .int .i64 (m : Int) ∧ Hid (cs.length = 4) ∧ Hid (Lims cs) ∧ Hid (LwInv (fun x y => x ^^^ y) [lim 0 a, lim 1 a, lim 2 a, lim 3 a] [lim 0 b, lim 1 b, lim 2 b, lim 3 b] m cs) ∧ Arr wr w.heap.size 24 [lim 0 a, lim 1 a, lim 2 a, lim 3 a] ∧ Arr wr (w.heap.size + 1) 24 [lim 0 b, lim 1 b, lim 2 b, lim 3 b] ∧ Arr wr (w.heap.size + 1 + 1) 24 [0, 0, 0, 0] ∧ Arr wr (w.heap.size + 1 + 1 + 1) 24 cs ∧ Hid (Below w.heap.size w wr))
    (fun i _ => (4 - intOf i).toNat)
  case atStart =>
    exact ⟨0, [0, 0, 0, 0], by omega, rfl, rfl, Lims.four (by unfold Lim; omega) (by unfold Lim; omega) (by unfold Lim; omega) (by unfold Lim; omega), fun j hj => by omega, gA, gB, gR, gC, gW⟩
  case round =>
    obtain ⟨m, cs, hm, rfl, HL, hlim, hinv, hA, hB, hR, hC, hbel⟩ := hrel
    clear gA gB gR gC gW
    by_cases hlt : (m : Int) < 4
    · have cx := hA.cell m (by simp; omega)
      have cy := hB.cell m (by simp; omega)
      have cc := hC.cell m (by rw [HL.out]; omega)
      have fc := hC.frozen m
      obtain ⟨x, ex⟩ : ∃ x, x = [lim 0 a, lim 1 a, lim 2 a, lim 3 a].getD m 0 := ⟨_, rfl⟩
      obtain ⟨y, ey⟩ : ∃ y, y = [lim 0 b, lim 1 b, lim 2 b, lim 3 b].getD m 0 := ⟨_, rfl⟩
      rw [← ex] at cx
      rw [← ey] at cy
      have lx : Lim x := by rw [ex]; exact LA.out.get m
      have ly : Lim y := by rw [ey]; exact LB.out.get m
      obtain ⟨z, ez, qz⟩ := xor_bits lx ly
      have lz : Lim z := by rw [ez]; exact xor_lim x y lx ly
      have hnext := lw_step (z := z) hinv.out (by rw [HL.out]; omega) (by rw [ez, ex, ey])
      have HN := Lib.hid hnext
      have HZ := Lib.hid lz
      have HA := Lib.hid hA
      have HB := Lib.hid hB
      have HR := Lib.hid hR
      have HC := Lib.hid hC
      clear ex ey lx ly ez lz hnext hinv hA hB hR hC
      go_wp2_with fail
      go_region
      go_wp2_with fail
      go_roundw
      case rel =>
        exact ⟨m + 1, cs.set m z, by omega, by go_num, by show (cs.set m z).length = 4; rw [List.length_set]; exact HL.out, hlim.out.set m z HZ.out, HN.out, HA.out.far (p := ⟨w.heap.size + 1 + 1 + 1, m, none⟩) (by simp <;> omega) _, HB.out.far (p := ⟨w.heap.size + 1 + 1 + 1, m, none⟩) (by simp <;> omega) _, HR.out.far (p := ⟨w.heap.size + 1 + 1 + 1, m, none⟩) (by simp <;> omega) _, HC.out.set m z, (hbel.out.setCell (p := ⟨w.heap.size + 1 + 1 + 1, m, none⟩) (by simp <;> omega) _).drew⟩
      case measure => simp [intOf]; omega
    · obtain rfl : m = 4 := by omega
      obtain ⟨c0, c1, c2, c3, rfl⟩ := list4 HL.out
      have hi := isW_val hlim.out
      have e0 := hinv.out 0 (by omega)
      have e1 := hinv.out 1 (by omega)
      have e2 := hinv.out 2 (by omega)
      have e3 := hinv.out 3 (by omega)
      simp at e0 e1 e2 e3
      have hv : vl [c0, c1, c2, c3] = lw (fun x y => x ^^^ y) a b := by unfold lw; rw [e0, e1, e2, e3]
      have HI := Lib.hid (hi.eq hv)
      have gW := hbel.out
      clear e0 e1 e2 e3 hi hv hA hB
      obtain ⟨x0, x1, x2, x3⟩ := hC.cells4
      obtain ⟨y0, y1, y2, y3⟩ := hR.cells4
      obtain ⟨f0, f1, f2, f3⟩ := hR.free4
      go_wp2_with fail
      refine bodyPost_ret (v := W4 c0 c1 c2 c3) (by simp [results, Try.results59, go_sem, y0, y1, y2, y3]) rfl ⟨c0, c1, c2, c3, rfl, HI.out, ?_⟩
      repeat (first | exact gW | refine Below.setCell ?_ (by simp; try omega) _)
end Go.Proofs.Ytihffojljbgpcaa
