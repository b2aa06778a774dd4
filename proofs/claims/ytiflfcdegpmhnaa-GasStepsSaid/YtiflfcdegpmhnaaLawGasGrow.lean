/- The law GasGrow. (Written by wip/gengsgrowlaw.py.) -/
import Derived.Test.YtiflfcdegpmhnaaGsWakes
namespace Go.Proofs.Ytiflfcdegpmhnaa
open Go.RowKit

theorem en_gsGrow (args : Array Value) (w : World) : (callFunc 20 args).run Try.prog w = .ok (.enter 20 args) w := by go_simp
theorem en_rGrow (args : Array Value) (w : World) : (callFunc 22 args).run Try.prog w = .ok (.enter 22 args) w := by go_simp
theorem en_gsSize (args : Array Value) (w : World) : (callFunc 21 args).run Try.prog w = .ok (.enter 21 args) w := by go_simp
theorem growV_form (s a n : Nat) : ∃ (x y : Int) (b : Bool), growV s a n = .tuple #[.int .u64 x, .int .u64 y, .bool b] := by unfold growV; (repeat' split) <;> exact ⟨_, _, _, rfl⟩
theorem start_ww (w : World) (a n : Nat) (X : World) (hX : X = (w.alloc (.cells #[.int .u64 (lim 0 a : Nat), .int .u64 (lim 1 a : Nat), .int .u64 (lim 2 a : Nat), .int .u64 (lim 3 a : Nat)] 24)).alloc (.cells #[.int .u64 (lim 0 n : Nat), .int .u64 (lim 1 n : Nat), .int .u64 (lim 2 n : Nat), .int .u64 (lim 3 n : Nat)] 24)) :
    Arr X w.heap.size 24 [lim 0 a, lim 1 a, lim 2 a, lim 3 a] ∧ Arr X (w.heap.size + 1) 24 [lim 0 n, lim 1 n, lim 2 n, lim 3 n] ∧ Below w.heap.size w X ∧ w.heap.size < X.heap.size ∧ w.heap.size + 1 < X.heap.size := by
  refine ⟨?_, ?_, ?_, ?_, ?_⟩
  · rw [hX]; exact (Arr.new4 w _ _ _ _ _).alloc _
  · rw [hX]; have h := Arr.new4 (w.alloc (.cells #[.int .u64 (lim 0 a : Nat), .int .u64 (lim 1 a : Nat), .int .u64 (lim 2 a : Nat), .int .u64 (lim 3 a : Nat)] 24)) 24 (lim 0 n) (lim 1 n) (lim 2 n) (lim 3 n); rw [show (w.alloc (.cells #[.int .u64 (lim 0 a : Nat), .int .u64 (lim 1 a : Nat), .int .u64 (lim 2 a : Nat), .int .u64 (lim 3 a : Nat)] 24)).heap.size = w.heap.size + 1 by simp] at h; exact h
  · rw [hX]; exact ((Below.refl _ _).alloc (Nat.le_refl _) _).alloc (by simp) _
  · rw [hX]; simp; omega
  · rw [hX]; simp

set_option maxRecDepth 100000 in
set_option maxHeartbeats 12800000 in
theorem gasGrow_c (w : World) (n : Nat) (hn : n < 18446744073709551616) (a : Nat) (ha : Big a) (m : Nat) (hm : Big m) : Calls Try.prog 4 #[.int .u64 (n : Nat), W a, W m] w (RetV (.bool true) w) := by
  have HSZ : Hid (∀ W, Calls Try.prog 21 #[.int .u64 (n : Nat)] W (RetV (.int .u64 ((n % 34359738369 * 32 : Nat) : Int)) W)) := fun W => size_c n hn W
  obtain ⟨z, hz⟩ : ∃ z, z = n % 34359738369 * 32 := ⟨_, rfl⟩
  have hz1 : z ≤ 1099511627776 := by omega
  have hz2 : z % 32 = 0 := by omega
  rw [← hz] at HSZ
  obtain ⟨x, y, b, hv⟩ := growV_form z a m
  have KG : Hid (∀ v, Calls Try.prog 20 #[.int .u64 (z : Nat), W a, W m] v (RetV (.tuple #[.int .u64 x, .int .u64 y, .bool b]) v)) := fun v => by have h := gGrow hz1 hz2 ha hm v; rw [hv] at h; exact h
  have KR : Hid (∀ v, Calls Try.prog 22 #[.int .u64 (z : Nat), W a, W m] v (RetV (.tuple #[.int .u64 x, .int .u64 y, .bool b]) v)) := fun v => by have h := rgrow_c hz1 ha hm v; rw [hv] at h; exact h
  obtain ⟨X, hX⟩ : ∃ X, X = (w.alloc (.cells #[.int .u64 (lim 0 a : Nat), .int .u64 (lim 1 a : Nat), .int .u64 (lim 2 a : Nat), .int .u64 (lim 3 a : Nat)] 24)).alloc (.cells #[.int .u64 (lim 0 m : Nat), .int .u64 (lim 1 m : Nat), .int .u64 (lim 2 m : Nat), .int .u64 (lim 3 m : Nat)] 24) := ⟨_, rfl⟩
  obtain ⟨hA, hM, hB, hL1, hL2⟩ := start_ww w a m X hX
  have HA := Lib.hid hA
  have HM := Lib.hid hM
  have HB := Lib.hid hB
  have HL : Hid (w.heap.size < X.heap.size ∧ w.heap.size + 1 < X.heap.size) := ⟨hL1, hL2⟩
  have HX := Lib.hid hX
  clear hA hM hB hL1 hL2 hX hv hz hz1 hz2 hn ha hm
  go_enter Try.func4, Try.ntmps4
  go_upto_region 1 with (fail)
  rw [show (w.alloc (.cells #[.int .u64 (lim 0 a : Nat), .int .u64 (lim 1 a : Nat), .int .u64 (lim 2 a : Nat), .int .u64 (lim 3 a : Nat)] 24)).alloc (.cells #[.int .u64 (lim 0 m : Nat), .int .u64 (lim 1 m : Nat), .int .u64 (lim 2 m : Nat), .int .u64 (lim 3 m : Nat)] 24) = X from HX.out.symm]
  clear HX
  refine wp_region_see 12 [14, 15, 16, 17, 18, 13, 19, 20, 21, 7, 8, 9] [(14, .is (.int .u64 (n : Nat))), (15, .is (.int .u64 (z : Nat))), (16, .is (W a)), (17, .is (W m)), (18, .is (.tuple #[.int .u64 x, .int .u64 y, .bool b])), (13, .is (.tuple #[.int .u64 x, .int .u64 y, .bool b])), (19, .is (.int .u64 x)), (20, .is (.int .u64 y)), (21, .is (.bool b)), (7, .is (.int .u64 x)), (8, .is (.int .u64 y)), (9, .is (.bool b))] (by kernel_rfl) (by kernel_rfl) (by rfl) ?_ ?_
  · refine seeOps_cons ?_ (seeOps_cons ?_ (seeOps_cons ?_ (seeOps_cons ?_ (seeOps_cons ?_ (seeOps_cons ?_ (seeOps_cons ?_ (seeOps_cons ?_ (seeOps_cons ?_ (seeOps_cons ?_ (seeOps_cons ?_ (seeOps_cons ?_ seeOps_nil)))))))))))
    · intro w9 hb9 fr hout hin
      have h0 : fr.tmps.getD 0 undef = .int .u64 (n : Nat) := hout 0 (by decide)
      clear hout hin
      exact relStep_move (.tmp 0) rfl (wanted_none rfl) (by show fr.tmps.getD 0 undef = _; rw [h0])
    · intro w9 hb9 fr hout hin
      have h14 : fr.tmps.getD 14 undef = .int .u64 (n : Nat) := hin 14 (by decide) (by decide)
      clear hout hin
      exact gs_call1 (.tmp 14) rfl en_gsSize (wanted_none rfl) (by rw [show fr.eval (.tmp 14) = _ from h14]; exact (HSZ.out w9).mono fun _ _ h => RetV.gs h) (fun _ _ h => h)
    · intro w9 hb9 fr hout hin
      have h4 : fr.tmps.getD 4 undef = .pointer (some ⟨w.heap.size, 0, none⟩) := hout 4 (by decide)
      clear hout hin
      exact gs_loadW (n := a) (.tmp 4) rfl h4 (HA.out.below hb9 HL.out.1).cells4 (wanted_none rfl) rfl
    · intro w9 hb9 fr hout hin
      have h5 : fr.tmps.getD 5 undef = .pointer (some ⟨w.heap.size + 1, 0, none⟩) := hout 5 (by decide)
      clear hout hin
      exact gs_loadW (n := m) (.tmp 5) rfl h5 (HM.out.below hb9 HL.out.2).cells4 (wanted_none rfl) rfl
    · intro w9 hb9 fr hout hin
      have h15 : fr.tmps.getD 15 undef = .int .u64 (z : Nat) := hin 15 (by decide) (by decide)
      have h16 : fr.tmps.getD 16 undef = W a := hin 16 (by decide) (by decide)
      have h17 : fr.tmps.getD 17 undef = W m := hin 17 (by decide) (by decide)
      clear hout hin
      exact gs_call3 (.tmp 15) (.tmp 16) (.tmp 17) rfl en_gsGrow (wanted_none rfl) (by rw [show fr.eval (.tmp 15) = _ from h15, show fr.eval (.tmp 16) = _ from h16, show fr.eval (.tmp 17) = _ from h17]; exact (KG.out w9).mono fun _ _ h => RetV.gs h) (fun _ _ h => h)
    · intro w9 hb9 fr hout hin
      have h18 : fr.tmps.getD 18 undef = .tuple #[.int .u64 x, .int .u64 y, .bool b] := hin 18 (by decide) (by decide)
      clear hout hin
      exact relStep_move (.tmp 18) rfl (wanted_none rfl) (by show fr.tmps.getD 18 undef = _; rw [h18])
    · intro w9 hb9 fr hout hin
      have h13 : fr.tmps.getD 13 undef = .tuple #[.int .u64 x, .int .u64 y, .bool b] := hin 13 (by decide) (by decide)
      clear hout hin
      exact gs_ext (.tmp 13) 0 rfl h13 rfl (wanted_none rfl) rfl
    · intro w9 hb9 fr hout hin
      have h13 : fr.tmps.getD 13 undef = .tuple #[.int .u64 x, .int .u64 y, .bool b] := hin 13 (by decide) (by decide)
      clear hout hin
      exact gs_ext (.tmp 13) 1 rfl h13 rfl (wanted_none rfl) rfl
    · intro w9 hb9 fr hout hin
      have h13 : fr.tmps.getD 13 undef = .tuple #[.int .u64 x, .int .u64 y, .bool b] := hin 13 (by decide) (by decide)
      clear hout hin
      exact gs_ext (.tmp 13) 2 rfl h13 rfl (wanted_none rfl) rfl
    · intro w9 hb9 fr hout hin
      have h19 : fr.tmps.getD 19 undef = .int .u64 x := hin 19 (by decide) (by decide)
      clear hout hin
      exact relStep_assign (.tmp 19) rfl (wanted_none rfl) (by show fr.tmps.getD 19 undef = _; rw [h19])
    · intro w9 hb9 fr hout hin
      have h20 : fr.tmps.getD 20 undef = .int .u64 y := hin 20 (by decide) (by decide)
      clear hout hin
      exact relStep_assign (.tmp 20) rfl (wanted_none rfl) (by show fr.tmps.getD 20 undef = _; rw [h20])
    · intro w9 hb9 fr hout hin
      have h21 : fr.tmps.getD 21 undef = .bool b := hin 21 (by decide) (by decide)
      clear hout hin
      exact relStep_assign (.tmp 21) rfl (wanted_none rfl) (by show fr.tmps.getD 21 undef = _; rw [h21])
  intro X1 hbn
  refine relAsk_in (by rfl) ?_
  intro v14 h14
  obtain rfl : v14 = .int .u64 (n : Nat) := h14
  refine relAsk_in (by rfl) ?_
  intro v15 h15
  obtain rfl : v15 = .int .u64 (z : Nat) := h15
  refine relAsk_in (by rfl) ?_
  intro v16 h16
  obtain rfl : v16 = W a := h16
  refine relAsk_in (by rfl) ?_
  intro v17 h17
  obtain rfl : v17 = W m := h17
  refine relAsk_in (by rfl) ?_
  intro v18 h18
  obtain rfl : v18 = .tuple #[.int .u64 x, .int .u64 y, .bool b] := h18
  refine relAsk_in (by rfl) ?_
  intro v13 h13
  obtain rfl : v13 = .tuple #[.int .u64 x, .int .u64 y, .bool b] := h13
  refine relAsk_in (by rfl) ?_
  intro v19 h19
  obtain rfl : v19 = .int .u64 x := h19
  refine relAsk_in (by rfl) ?_
  intro v20 h20
  obtain rfl : v20 = .int .u64 y := h20
  refine relAsk_in (by rfl) ?_
  intro v21 h21
  obtain rfl : v21 = .bool b := h21
  refine relAsk_in (by rfl) ?_
  intro v7 h7
  obtain rfl : v7 = .int .u64 x := h7
  refine relAsk_in (by rfl) ?_
  intro v8 h8
  obtain rfl : v8 = .int .u64 y := h8
  refine relAsk_in (by rfl) ?_
  intro v9 h9
  obtain rfl : v9 = .bool b := h9
  refine relAsk_nil ?_
  refine wpList_nil ?_
  replace HA := Lib.hid (HA.out.below hbn HL.out.1)
  replace HM := Lib.hid (HM.out.below hbn HL.out.2)
  have HB2 := Lib.hid (HB.out.trans (hbn.mono HB.out.size))
  have HL2 : Hid (w.heap.size < X1.heap.size ∧ w.heap.size + 1 < X1.heap.size) := ⟨Nat.lt_of_lt_of_le HL.out.1 hbn.size, Nat.lt_of_lt_of_le HL.out.2 hbn.size⟩
  replace HB := HB2
  replace HL := HL2
  clear hbn
  go_simp
  go_upto_region 2 with (fail)
  refine wp_region_see 12 [23, 24, 25, 26, 27, 22, 28, 29, 30, 10, 11, 12] [(23, .is (.int .u64 (n : Nat))), (24, .is (.int .u64 (z : Nat))), (25, .is (W a)), (26, .is (W m)), (27, .is (.tuple #[.int .u64 x, .int .u64 y, .bool b])), (22, .is (.tuple #[.int .u64 x, .int .u64 y, .bool b])), (28, .is (.int .u64 x)), (29, .is (.int .u64 y)), (30, .is (.bool b)), (10, .is (.int .u64 x)), (11, .is (.int .u64 y)), (12, .is (.bool b))] (by kernel_rfl) (by kernel_rfl) (by rfl) ?_ ?_
  · refine seeOps_cons ?_ (seeOps_cons ?_ (seeOps_cons ?_ (seeOps_cons ?_ (seeOps_cons ?_ (seeOps_cons ?_ (seeOps_cons ?_ (seeOps_cons ?_ (seeOps_cons ?_ (seeOps_cons ?_ (seeOps_cons ?_ (seeOps_cons ?_ seeOps_nil)))))))))))
    · intro w9 hb9 fr hout hin
      have h0 : fr.tmps.getD 0 undef = .int .u64 (n : Nat) := hout 0 (by decide)
      clear hout hin
      exact relStep_move (.tmp 0) rfl (wanted_none rfl) (by show fr.tmps.getD 0 undef = _; rw [h0])
    · intro w9 hb9 fr hout hin
      have h23 : fr.tmps.getD 23 undef = .int .u64 (n : Nat) := hin 23 (by decide) (by decide)
      clear hout hin
      exact gs_call1 (.tmp 23) rfl en_gsSize (wanted_none rfl) (by rw [show fr.eval (.tmp 23) = _ from h23]; exact (HSZ.out w9).mono fun _ _ h => RetV.gs h) (fun _ _ h => h)
    · intro w9 hb9 fr hout hin
      have h4 : fr.tmps.getD 4 undef = .pointer (some ⟨w.heap.size, 0, none⟩) := hout 4 (by decide)
      clear hout hin
      exact gs_loadW (n := a) (.tmp 4) rfl h4 (HA.out.below hb9 HL.out.1).cells4 (wanted_none rfl) rfl
    · intro w9 hb9 fr hout hin
      have h5 : fr.tmps.getD 5 undef = .pointer (some ⟨w.heap.size + 1, 0, none⟩) := hout 5 (by decide)
      clear hout hin
      exact gs_loadW (n := m) (.tmp 5) rfl h5 (HM.out.below hb9 HL.out.2).cells4 (wanted_none rfl) rfl
    · intro w9 hb9 fr hout hin
      have h24 : fr.tmps.getD 24 undef = .int .u64 (z : Nat) := hin 24 (by decide) (by decide)
      have h25 : fr.tmps.getD 25 undef = W a := hin 25 (by decide) (by decide)
      have h26 : fr.tmps.getD 26 undef = W m := hin 26 (by decide) (by decide)
      clear hout hin
      exact gs_call3 (.tmp 24) (.tmp 25) (.tmp 26) rfl en_rGrow (wanted_none rfl) (by rw [show fr.eval (.tmp 24) = _ from h24, show fr.eval (.tmp 25) = _ from h25, show fr.eval (.tmp 26) = _ from h26]; exact (KR.out w9).mono fun _ _ h => RetV.gs h) (fun _ _ h => h)
    · intro w9 hb9 fr hout hin
      have h27 : fr.tmps.getD 27 undef = .tuple #[.int .u64 x, .int .u64 y, .bool b] := hin 27 (by decide) (by decide)
      clear hout hin
      exact relStep_move (.tmp 27) rfl (wanted_none rfl) (by show fr.tmps.getD 27 undef = _; rw [h27])
    · intro w9 hb9 fr hout hin
      have h22 : fr.tmps.getD 22 undef = .tuple #[.int .u64 x, .int .u64 y, .bool b] := hin 22 (by decide) (by decide)
      clear hout hin
      exact gs_ext (.tmp 22) 0 rfl h22 rfl (wanted_none rfl) rfl
    · intro w9 hb9 fr hout hin
      have h22 : fr.tmps.getD 22 undef = .tuple #[.int .u64 x, .int .u64 y, .bool b] := hin 22 (by decide) (by decide)
      clear hout hin
      exact gs_ext (.tmp 22) 1 rfl h22 rfl (wanted_none rfl) rfl
    · intro w9 hb9 fr hout hin
      have h22 : fr.tmps.getD 22 undef = .tuple #[.int .u64 x, .int .u64 y, .bool b] := hin 22 (by decide) (by decide)
      clear hout hin
      exact gs_ext (.tmp 22) 2 rfl h22 rfl (wanted_none rfl) rfl
    · intro w9 hb9 fr hout hin
      have h28 : fr.tmps.getD 28 undef = .int .u64 x := hin 28 (by decide) (by decide)
      clear hout hin
      exact relStep_assign (.tmp 28) rfl (wanted_none rfl) (by show fr.tmps.getD 28 undef = _; rw [h28])
    · intro w9 hb9 fr hout hin
      have h29 : fr.tmps.getD 29 undef = .int .u64 y := hin 29 (by decide) (by decide)
      clear hout hin
      exact relStep_assign (.tmp 29) rfl (wanted_none rfl) (by show fr.tmps.getD 29 undef = _; rw [h29])
    · intro w9 hb9 fr hout hin
      have h30 : fr.tmps.getD 30 undef = .bool b := hin 30 (by decide) (by decide)
      clear hout hin
      exact relStep_assign (.tmp 30) rfl (wanted_none rfl) (by show fr.tmps.getD 30 undef = _; rw [h30])
  intro X2 hbn
  refine relAsk_in (by rfl) ?_
  intro v23 h23
  obtain rfl : v23 = .int .u64 (n : Nat) := h23
  refine relAsk_in (by rfl) ?_
  intro v24 h24
  obtain rfl : v24 = .int .u64 (z : Nat) := h24
  refine relAsk_in (by rfl) ?_
  intro v25 h25
  obtain rfl : v25 = W a := h25
  refine relAsk_in (by rfl) ?_
  intro v26 h26
  obtain rfl : v26 = W m := h26
  refine relAsk_in (by rfl) ?_
  intro v27 h27
  obtain rfl : v27 = .tuple #[.int .u64 x, .int .u64 y, .bool b] := h27
  refine relAsk_in (by rfl) ?_
  intro v22 h22
  obtain rfl : v22 = .tuple #[.int .u64 x, .int .u64 y, .bool b] := h22
  refine relAsk_in (by rfl) ?_
  intro v28 h28
  obtain rfl : v28 = .int .u64 x := h28
  refine relAsk_in (by rfl) ?_
  intro v29 h29
  obtain rfl : v29 = .int .u64 y := h29
  refine relAsk_in (by rfl) ?_
  intro v30 h30
  obtain rfl : v30 = .bool b := h30
  refine relAsk_in (by rfl) ?_
  intro v10 h10
  obtain rfl : v10 = .int .u64 x := h10
  refine relAsk_in (by rfl) ?_
  intro v11 h11
  obtain rfl : v11 = .int .u64 y := h11
  refine relAsk_in (by rfl) ?_
  intro v12 h12
  obtain rfl : v12 = .bool b := h12
  refine relAsk_nil ?_
  refine wpList_nil ?_
  replace HA := Lib.hid (HA.out.below hbn HL.out.1)
  replace HM := Lib.hid (HM.out.below hbn HL.out.2)
  have HB2 := Lib.hid (HB.out.trans (hbn.mono HB.out.size))
  have HL2 : Hid (w.heap.size < X2.heap.size ∧ w.heap.size + 1 < X2.heap.size) := ⟨Nat.lt_of_lt_of_le HL.out.1 hbn.size, Nat.lt_of_lt_of_le HL.out.2 hbn.size⟩
  replace HB := HB2
  replace HL := HL2
  clear hbn
  go_simp
  go_upto_region 3 with (fail)
  refine wp_region_seq 17 [31, 32, 33, 34, 35, 36, 37, 38, 39, 40, 41, 42, 43, 44, 45, 46, 6] [(31, .is (.int .u64 x)), (32, .is (.int .u64 x)), (33, .is (.bool true)), (34, .is (.bool true)), (35, .is (.int .u64 y)), (36, .is (.int .u64 y)), (37, .is (.bool true)), (38, .is (.bool true)), (39, .is (.bool true)), (40, .is (.bool b)), (41, .is (.bool b)), (42, .is (.bool true)), (43, .is (.bool true)), (44, .is (.bool true)), (45, .is (.bool true)), (46, .is (.bool true)), (6, .is (.bool true))] (by kernel_rfl) (by rfl) ?_ ?_
  · refine seeOps_cons ?_ (seeOps_cons ?_ (seeOps_cons ?_ (seeOps_cons ?_ (seeOps_cons ?_ (seeOps_cons ?_ (seeOps_cons ?_ (seeOps_cons ?_ (seeOps_cons ?_ (seeOps_cons ?_ (seeOps_cons ?_ (seeOps_cons ?_ (seeOps_cons ?_ (seeOps_cons ?_ (seeOps_cons ?_ (seeOps_cons ?_ (seeOps_cons ?_ seeOps_nil))))))))))))))))
    · intro w9 hb9 fr hout hin
      have h7 : fr.tmps.getD 7 undef = .int .u64 x := hout 7 (by decide)
      clear hout hin
      exact relStep_move (.tmp 7) rfl (wanted_none rfl) (by show fr.tmps.getD 7 undef = _; rw [h7])
    · intro w9 hb9 fr hout hin
      have h10 : fr.tmps.getD 10 undef = .int .u64 x := hout 10 (by decide)
      clear hout hin
      exact relStep_move (.tmp 10) rfl (wanted_none rfl) (by show fr.tmps.getD 10 undef = _; rw [h10])
    · intro w9 hb9 fr hout hin
      have h31 : fr.tmps.getD 31 undef = .int .u64 x := hin 31 (by decide) (by decide)
      have h32 : fr.tmps.getD 32 undef = .int .u64 x := hin 32 (by decide) (by decide)
      clear hout hin
      exact op_eqU (.tmp 31) (.tmp 32) _ rfl h31 h32 (wanted_none rfl) rfl
    · intro w9 hb9 fr hout hin
      have h33 : fr.tmps.getD 33 undef = .bool true := hin 33 (by decide) (by decide)
      clear hout hin
      exact relStep_move (.tmp 33) rfl (wanted_none rfl) (by show fr.tmps.getD 33 undef = _; rw [h33])
    · intro w9 hb9 fr hout hin
      have h8 : fr.tmps.getD 8 undef = .int .u64 y := hout 8 (by decide)
      have h34 : fr.tmps.getD 34 undef = .bool true := hin 34 (by decide) (by decide)
      clear hout hin
      exact relStep_move (.tmp 8) rfl (wanted_some (g := 3) (t := 34) (b := true) rfl rfl h34) (by show fr.tmps.getD 8 undef = _; rw [h8])
    · intro w9 hb9 fr hout hin
      have h11 : fr.tmps.getD 11 undef = .int .u64 y := hout 11 (by decide)
      have h34 : fr.tmps.getD 34 undef = .bool true := hin 34 (by decide) (by decide)
      clear hout hin
      exact relStep_move (.tmp 11) rfl (wanted_some (g := 3) (t := 34) (b := true) rfl rfl h34) (by show fr.tmps.getD 11 undef = _; rw [h11])
    · intro w9 hb9 fr hout hin
      have h35 : fr.tmps.getD 35 undef = .int .u64 y := hin 35 (by decide) (by decide)
      have h36 : fr.tmps.getD 36 undef = .int .u64 y := hin 36 (by decide) (by decide)
      have h34 : fr.tmps.getD 34 undef = .bool true := hin 34 (by decide) (by decide)
      clear hout hin
      exact op_eqU (.tmp 35) (.tmp 36) _ rfl h35 h36 (wanted_some (g := 3) (t := 34) (b := true) rfl rfl h34) rfl
    · intro w9 hb9 fr hout hin
      have h34 : fr.tmps.getD 34 undef = .bool true := hin 34 (by decide) (by decide)
      have h37 : fr.tmps.getD 37 undef = .bool true := hin 37 (by decide) (by decide)
      clear hout hin
      exact relStep_pick (.tmp 34) (.tmp 37) (.const (.bool false)) rfl h34 (wanted_none rfl) (by show fr.tmps.getD 37 undef = _; rw [h37])
    · intro w9 hb9 fr hout hin
      have h38 : fr.tmps.getD 38 undef = .bool true := hin 38 (by decide) (by decide)
      clear hout hin
      exact relStep_move (.tmp 38) rfl (wanted_none rfl) (by show fr.tmps.getD 38 undef = _; rw [h38])
    · intro w9 hb9 fr hout hin
      have h9 : fr.tmps.getD 9 undef = .bool b := hout 9 (by decide)
      have h39 : fr.tmps.getD 39 undef = .bool true := hin 39 (by decide) (by decide)
      clear hout hin
      exact relStep_move (.tmp 9) rfl (wanted_some (g := 8) (t := 39) (b := true) rfl rfl h39) (by show fr.tmps.getD 9 undef = _; rw [h9])
    · intro w9 hb9 fr hout hin
      have h12 : fr.tmps.getD 12 undef = .bool b := hout 12 (by decide)
      have h39 : fr.tmps.getD 39 undef = .bool true := hin 39 (by decide) (by decide)
      clear hout hin
      exact relStep_move (.tmp 12) rfl (wanted_some (g := 8) (t := 39) (b := true) rfl rfl h39) (by show fr.tmps.getD 12 undef = _; rw [h12])
    · intro w9 hb9 fr hout hin
      have h40 : fr.tmps.getD 40 undef = .bool b := hin 40 (by decide) (by decide)
      have h41 : fr.tmps.getD 41 undef = .bool b := hin 41 (by decide) (by decide)
      have h39 : fr.tmps.getD 39 undef = .bool true := hin 39 (by decide) (by decide)
      clear hout hin
      exact op_eqB (.tmp 40) (.tmp 41) _ rfl h40 h41 (wanted_some (g := 8) (t := 39) (b := true) rfl rfl h39) rfl
    · intro w9 hb9 fr hout hin
      have h39 : fr.tmps.getD 39 undef = .bool true := hin 39 (by decide) (by decide)
      have h42 : fr.tmps.getD 42 undef = .bool true := hin 42 (by decide) (by decide)
      clear hout hin
      exact relStep_pick (.tmp 39) (.tmp 42) (.const (.bool false)) rfl h39 (wanted_none rfl) (by show fr.tmps.getD 42 undef = _; rw [h42])
    · intro w9 hb9 fr hout hin
      have h43 : fr.tmps.getD 43 undef = .bool true := hin 43 (by decide) (by decide)
      clear hout hin
      exact relStep_move (.tmp 43) rfl (wanted_none rfl) (by show fr.tmps.getD 43 undef = _; rw [h43])
    · intro w9 hb9 fr hout hin
      have h44 : fr.tmps.getD 44 undef = .bool true := hin 44 (by decide) (by decide)
      clear hout hin
      exact gs_call0 rfl en_gsWakes (wanted_some (g := 13) (t := 44) (b := true) rfl rfl h44) (by exact (gswakes_c w9).mono fun _ _ h => RetV.gs h) (fun _ _ h => h)
    · intro w9 hb9 fr hout hin
      have h44 : fr.tmps.getD 44 undef = .bool true := hin 44 (by decide) (by decide)
      have h45 : fr.tmps.getD 45 undef = .bool true := hin 45 (by decide) (by decide)
      clear hout hin
      exact relStep_pick (.tmp 44) (.tmp 45) (.const (.bool false)) rfl h44 (wanted_none rfl) (by show fr.tmps.getD 45 undef = _; rw [h45])
    · intro w9 hb9 fr hout hin
      have h46 : fr.tmps.getD 46 undef = .bool true := hin 46 (by decide) (by decide)
      clear hout hin
      exact relStep_assign (.tmp 46) rfl (wanted_none rfl) (by show fr.tmps.getD 46 undef = _; rw [h46])
  intro X3 hb9
  refine relAsk_in (by rfl) ?_
  intro v31 h31
  obtain rfl : v31 = .int .u64 x := h31
  refine relAsk_in (by rfl) ?_
  intro v32 h32
  obtain rfl : v32 = .int .u64 x := h32
  refine relAsk_in (by rfl) ?_
  intro v33 h33
  obtain rfl : v33 = .bool true := h33
  refine relAsk_in (by rfl) ?_
  intro v34 h34
  obtain rfl : v34 = .bool true := h34
  refine relAsk_in (by rfl) ?_
  intro v35 h35
  obtain rfl : v35 = .int .u64 y := h35
  refine relAsk_in (by rfl) ?_
  intro v36 h36
  obtain rfl : v36 = .int .u64 y := h36
  refine relAsk_in (by rfl) ?_
  intro v37 h37
  obtain rfl : v37 = .bool true := h37
  refine relAsk_in (by rfl) ?_
  intro v38 h38
  obtain rfl : v38 = .bool true := h38
  refine relAsk_in (by rfl) ?_
  intro v39 h39
  obtain rfl : v39 = .bool true := h39
  refine relAsk_in (by rfl) ?_
  intro v40 h40
  obtain rfl : v40 = .bool b := h40
  refine relAsk_in (by rfl) ?_
  intro v41 h41
  obtain rfl : v41 = .bool b := h41
  refine relAsk_in (by rfl) ?_
  intro v42 h42
  obtain rfl : v42 = .bool true := h42
  refine relAsk_in (by rfl) ?_
  intro v43 h43
  obtain rfl : v43 = .bool true := h43
  refine relAsk_in (by rfl) ?_
  intro v44 h44
  obtain rfl : v44 = .bool true := h44
  refine relAsk_in (by rfl) ?_
  intro v45 h45
  obtain rfl : v45 = .bool true := h45
  refine relAsk_in (by rfl) ?_
  intro v46 h46
  obtain rfl : v46 = .bool true := h46
  refine relAsk_in (by rfl) ?_
  intro v6 h6
  obtain rfl : v6 = .bool true := h6
  refine relAsk_nil ?_
  refine wpList_nil ?_
  go_simp
  have HB9 := Lib.hid (HB.out.trans (hb9.mono HB.out.size))
  go_wp2_with fail
  go_ret
  exact ⟨rfl, HB9.out⟩
end Go.Proofs.Ytiflfcdegpmhnaa
