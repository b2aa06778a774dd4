/- The law GasStore. (Written by wip/gengsstorelaw.py.) -/
import Derived.Test.YtiflfcdegpmhnaaGsWakes
namespace Go.Proofs.Ytiflfcdegpmhnaa
open Go.RowKit

theorem en_gsStore (args : Array Value) (w : World) : (callFunc 23 args).run Try.prog w = .ok (.enter 23 args) w := by go_simp
theorem en_rStore (args : Array Value) (w : World) : (callFunc 24 args).run Try.prog w = .ok (.enter 24 args) w := by go_simp
theorem infoSt : (Try.prog.info? 41).map (·.size) = some 14 := by kernel_rfl
/-- A write to the storage lies in a block. -/
structure SlAt (w : World) (g : Nat) (C : Array Value) : Prop where
  at_ : w.heap[g]? = some (.cells C 41 (0, 0))
  lt : g < w.heap.size
theorem SlAt.below {w w' : World} {g : Nat} {C : Array Value} (h : SlAt w g C) (hb : Below w.heap.size w w') : SlAt w' g C := ⟨(hb.block g h.lt).trans h.at_, Nat.lt_of_lt_of_le h.lt hb.size⟩
theorem SlAt.load {w : World} {g o c n left : Nat} {warm : Bool} (h : SlAt w g (StC o c n warm left)) : (Instr.loadAt 41 (.pointer (some ⟨g, 0, none⟩))).run Try.prog w = .ok (.agg (StC o c n warm left)) w := by
  have h1 := h.at_
  simp only [Instr.loadAt, Instr.sureAddr, Sem.run_bind, Sem.run_pure, Result.andThen_ok]
  exact run_loadVar_row w _ _ _ (StC o c n warm left) (0, 0) _ h1 Try.underlying41 rfl infoSt
theorem storeN_form (f b : Int) (o c n : Nat) (wm : Bool) (l : Nat) : ∃ (x y z : Int) (b' : Bool), storeN f b o c n wm l = .tuple #[.int .u64 x, .int .u64 y, .int .u64 z, .bool b'] := by
  unfold storeN storeV storeT stT
  (repeat' split) <;> exact ⟨_, _, _, _, rfl⟩

set_option maxRecDepth 100000 in
set_option maxHeartbeats 12800000 in
theorem gasStore_c (w : World) (f : Int) (_ : -9223372036854775808 ≤ f) (_ : f < 9223372036854775808) (o c n left : Nat) (warm : Bool) (ho : Big o) (hc : Big c) (hn : Big n) (hl : left < 18446744073709551616) : Calls Try.prog 6 #[.int .i64 f, .agg (StC o c n warm left)] w (RetV (.bool true) w) := by
  have hg0 : 0 ≤ f % 16 := by omega
  have hg1 : f % 16 ≤ 15 := by omega
  obtain ⟨x, y, z, b, hv⟩ := storeN_form (f % 16) (kf (f % 16) 22) o c n warm left
  have KS1 : Hid (∀ v, Calls Try.prog 23 #[.agg (RulesK (f % 16) (kf (f % 16))), .agg (StC o c n warm left)] v (RetV (.tuple #[.int .u64 x, .int .u64 y, .int .u64 z, .bool b]) v)) := fun v => by have h := gStore (f % 16) hg0 hg1 (warm := warm) ho hc hn hl v; rw [hv] at h; exact h
  have KS2 : Hid (∀ v, Calls Try.prog 24 #[.agg (RulesK (f % 16) (kf (f % 16))), .agg (StC o c n warm left)] v (RetV (.tuple #[.int .u64 x, .int .u64 y, .int .u64 z, .bool b]) v)) := fun v => by have h := rstore_c (f % 16) (kf (f % 16)) (left := left) (warm := warm) (kf22 _).1 (kf22 _).2 ho hc hn v; rw [hv] at h; exact h
  have hS : SlAt (w.alloc (.cells (StC o c n warm left) 41)) w.heap.size (StC o c n warm left) := ⟨heap_alloc_new w _, by simp⟩
  have hB := (Below.refl w.heap.size w).alloc (Nat.le_refl _) (.cells (StC o c n warm left) 41)
  clear hg0 hg1 hv ho hc hn hl
  go_enter Try.func6, Try.ntmps6
  go_upto_region 1 with (fail)
  generalize w.alloc (.cells (StC o c n warm left) 41) = X at *
  have HS0 := Lib.hid hS
  have HB0 := Lib.hid hB
  clear hS hB
  go_wp2_with fail
  rename_i KK hKK
  (with_reducible refine (rules_c f _).mono ?_)
  rintro e1 w1 ⟨rfl, hb1⟩
  have HB1 := Lib.hid (HB0.out.trans (hb1.mono HB0.out.size))
  have HS1 := Lib.hid (HS0.out.below hb1)
  clear hb1
  show KK _ _
  refine hKK _ _ ?_
  clear hKK KK
  refine wpList_plain rfl fun K hK => ?_; go_simp; refine hK _ _ ?_; clear hK K
  have hg : (w1.alloc (.cells RulesZ 26)).heap[w1.heap.size]? = some (.cells RulesZ 26 (0, 0)) := heap_alloc_new w1 _
  have hb2 := HB1.out.alloc HB1.out.size (.cells RulesZ 26)
  refine wpList_store_row rfl 26 (.tmp 5) (.tmp 15) rfl w1.heap.size (RulesK (f % 16) (kf (f % 16))) rfl rfl 26 RulesZ hg infoRules rfl (rulesK_one _ _) ?_
  have hR : RulesAt ((w1.alloc (.cells RulesZ 26)).setRow w1.heap.size (RulesK (f % 16) (kf (f % 16)))) w1.heap.size (f % 16) (kf (f % 16)) := setRow_heap _ _ _ _ _ _ hg
  have hb3 := below_setRow hb2 HB1.out.size (RulesK (f % 16) (kf (f % 16)))
  have hk1 : Below w1.heap.size w1 ((w1.alloc (.cells RulesZ 26)).setRow w1.heap.size (RulesK (f % 16) (kf (f % 16)))) := below_setRow ((Below.refl _ _).alloc (Nat.le_refl _) _) (Nat.le_refl _) _
  show wpList _ _ _ _ _ ((w1.alloc (.cells RulesZ 26)).setRow w1.heap.size (RulesK (f % 16) (kf (f % 16))))
  generalize (w1.alloc (.cells RulesZ 26)).setRow w1.heap.size (RulesK (f % 16) (kf (f % 16))) = Y at *
  have HR := Lib.hid hR
  have HB2 := Lib.hid hb3
  have HS := Lib.hid (HS1.out.below hk1)
  clear hg hb2 hR hb3 hk1
  refine wpList_nil ?_
  go_simp
  clear HS0 HS1 HB0 HB1
  have HB := HB2
  clear HB2
  generalize f % 16 = g at *
  go_upto_region 2 with (fail)
  refine wp_region_seq 12 [17, 18, 19, 16, 20, 21, 22, 23, 6, 7, 8, 9] [(17, .is (.agg (RulesK g (kf g)))), (18, .is (.agg (StC o c n warm left))), (19, .is (.tuple #[.int .u64 x, .int .u64 y, .int .u64 z, .bool b])), (16, .is (.tuple #[.int .u64 x, .int .u64 y, .int .u64 z, .bool b])), (20, .is (.int .u64 x)), (21, .is (.int .u64 y)), (22, .is (.int .u64 z)), (23, .is (.bool b)), (6, .is (.int .u64 x)), (7, .is (.int .u64 y)), (8, .is (.int .u64 z)), (9, .is (.bool b))] (by kernel_rfl) (by rfl) ?_ ?_
  · refine seeOps_cons ?_ (seeOps_cons ?_ (seeOps_cons ?_ (seeOps_cons ?_ (seeOps_cons ?_ (seeOps_cons ?_ (seeOps_cons ?_ (seeOps_cons ?_ (seeOps_cons ?_ (seeOps_cons ?_ (seeOps_cons ?_ (seeOps_cons ?_ seeOps_nil)))))))))))
    · intro w9 hb9 fr hout hin
      have h5 : fr.tmps.getD 5 undef = .pointer (some ⟨w1.heap.size, 0, none⟩) := hout 5 (by decide)
      clear hout hin
      exact gs_loadAt (.tmp 5) rfl h5 (HR.out.below hb9 HR.out.lt).load (wanted_none rfl) rfl
    · intro w9 hb9 fr hout hin
      have h3 : fr.tmps.getD 3 undef = .pointer (some ⟨w.heap.size, 0, none⟩) := hout 3 (by decide)
      clear hout hin
      exact gs_loadAt (.tmp 3) rfl h3 (HS.out.below hb9).load (wanted_none rfl) rfl
    · intro w9 hb9 fr hout hin
      have h17 : fr.tmps.getD 17 undef = .agg (RulesK g (kf g)) := hin 17 (by decide) (by decide)
      have h18 : fr.tmps.getD 18 undef = .agg (StC o c n warm left) := hin 18 (by decide) (by decide)
      clear hout hin
      exact gs_call2 (.tmp 17) (.tmp 18) rfl en_gsStore (wanted_none rfl) (by rw [show fr.eval (.tmp 17) = _ from h17, show fr.eval (.tmp 18) = _ from h18]; exact (KS1.out w9).mono fun _ _ h => RetV.gs h) (fun _ _ h => h)
    · intro w9 hb9 fr hout hin
      have h19 : fr.tmps.getD 19 undef = .tuple #[.int .u64 x, .int .u64 y, .int .u64 z, .bool b] := hin 19 (by decide) (by decide)
      clear hout hin
      exact relStep_move (.tmp 19) rfl (wanted_none rfl) (by show fr.tmps.getD 19 undef = _; rw [h19])
    · intro w9 hb9 fr hout hin
      have h16 : fr.tmps.getD 16 undef = .tuple #[.int .u64 x, .int .u64 y, .int .u64 z, .bool b] := hin 16 (by decide) (by decide)
      clear hout hin
      exact gs_ext (.tmp 16) 0 rfl h16 rfl (wanted_none rfl) rfl
    · intro w9 hb9 fr hout hin
      have h16 : fr.tmps.getD 16 undef = .tuple #[.int .u64 x, .int .u64 y, .int .u64 z, .bool b] := hin 16 (by decide) (by decide)
      clear hout hin
      exact gs_ext (.tmp 16) 1 rfl h16 rfl (wanted_none rfl) rfl
    · intro w9 hb9 fr hout hin
      have h16 : fr.tmps.getD 16 undef = .tuple #[.int .u64 x, .int .u64 y, .int .u64 z, .bool b] := hin 16 (by decide) (by decide)
      clear hout hin
      exact gs_ext (.tmp 16) 2 rfl h16 rfl (wanted_none rfl) rfl
    · intro w9 hb9 fr hout hin
      have h16 : fr.tmps.getD 16 undef = .tuple #[.int .u64 x, .int .u64 y, .int .u64 z, .bool b] := hin 16 (by decide) (by decide)
      clear hout hin
      exact gs_ext (.tmp 16) 3 rfl h16 rfl (wanted_none rfl) rfl
    · intro w9 hb9 fr hout hin
      have h20 : fr.tmps.getD 20 undef = .int .u64 x := hin 20 (by decide) (by decide)
      clear hout hin
      exact relStep_assign (.tmp 20) rfl (wanted_none rfl) (by show fr.tmps.getD 20 undef = _; rw [h20])
    · intro w9 hb9 fr hout hin
      have h21 : fr.tmps.getD 21 undef = .int .u64 y := hin 21 (by decide) (by decide)
      clear hout hin
      exact relStep_assign (.tmp 21) rfl (wanted_none rfl) (by show fr.tmps.getD 21 undef = _; rw [h21])
    · intro w9 hb9 fr hout hin
      have h22 : fr.tmps.getD 22 undef = .int .u64 z := hin 22 (by decide) (by decide)
      clear hout hin
      exact relStep_assign (.tmp 22) rfl (wanted_none rfl) (by show fr.tmps.getD 22 undef = _; rw [h22])
    · intro w9 hb9 fr hout hin
      have h23 : fr.tmps.getD 23 undef = .bool b := hin 23 (by decide) (by decide)
      clear hout hin
      exact relStep_assign (.tmp 23) rfl (wanted_none rfl) (by show fr.tmps.getD 23 undef = _; rw [h23])
  intro X2 hbn
  refine relAsk_in (by rfl) ?_
  intro v17 h17
  obtain rfl : v17 = .agg (RulesK g (kf g)) := h17
  refine relAsk_in (by rfl) ?_
  intro v18 h18
  obtain rfl : v18 = .agg (StC o c n warm left) := h18
  refine relAsk_in (by rfl) ?_
  intro v19 h19
  obtain rfl : v19 = .tuple #[.int .u64 x, .int .u64 y, .int .u64 z, .bool b] := h19
  refine relAsk_in (by rfl) ?_
  intro v16 h16
  obtain rfl : v16 = .tuple #[.int .u64 x, .int .u64 y, .int .u64 z, .bool b] := h16
  refine relAsk_in (by rfl) ?_
  intro v20 h20
  obtain rfl : v20 = .int .u64 x := h20
  refine relAsk_in (by rfl) ?_
  intro v21 h21
  obtain rfl : v21 = .int .u64 y := h21
  refine relAsk_in (by rfl) ?_
  intro v22 h22
  obtain rfl : v22 = .int .u64 z := h22
  refine relAsk_in (by rfl) ?_
  intro v23 h23
  obtain rfl : v23 = .bool b := h23
  refine relAsk_in (by rfl) ?_
  intro v6 h6
  obtain rfl : v6 = .int .u64 x := h6
  refine relAsk_in (by rfl) ?_
  intro v7 h7
  obtain rfl : v7 = .int .u64 y := h7
  refine relAsk_in (by rfl) ?_
  intro v8 h8
  obtain rfl : v8 = .int .u64 z := h8
  refine relAsk_in (by rfl) ?_
  intro v9 h9
  obtain rfl : v9 = .bool b := h9
  refine relAsk_nil ?_
  refine wpList_nil ?_
  replace HR := Lib.hid (HR.out.below hbn HR.out.lt)
  replace HS := Lib.hid (HS.out.below hbn)
  have HB2 := Lib.hid (HB.out.trans (hbn.mono HB.out.size))
  replace HB := HB2
  clear hbn
  go_simp
  go_upto_region 3 with (fail)
  refine wp_region_seq 12 [25, 26, 27, 24, 28, 29, 30, 31, 10, 11, 12, 13] [(25, .is (.agg (RulesK g (kf g)))), (26, .is (.agg (StC o c n warm left))), (27, .is (.tuple #[.int .u64 x, .int .u64 y, .int .u64 z, .bool b])), (24, .is (.tuple #[.int .u64 x, .int .u64 y, .int .u64 z, .bool b])), (28, .is (.int .u64 x)), (29, .is (.int .u64 y)), (30, .is (.int .u64 z)), (31, .is (.bool b)), (10, .is (.int .u64 x)), (11, .is (.int .u64 y)), (12, .is (.int .u64 z)), (13, .is (.bool b))] (by kernel_rfl) (by rfl) ?_ ?_
  · refine seeOps_cons ?_ (seeOps_cons ?_ (seeOps_cons ?_ (seeOps_cons ?_ (seeOps_cons ?_ (seeOps_cons ?_ (seeOps_cons ?_ (seeOps_cons ?_ (seeOps_cons ?_ (seeOps_cons ?_ (seeOps_cons ?_ (seeOps_cons ?_ seeOps_nil)))))))))))
    · intro w9 hb9 fr hout hin
      have h5 : fr.tmps.getD 5 undef = .pointer (some ⟨w1.heap.size, 0, none⟩) := hout 5 (by decide)
      clear hout hin
      exact gs_loadAt (.tmp 5) rfl h5 (HR.out.below hb9 HR.out.lt).load (wanted_none rfl) rfl
    · intro w9 hb9 fr hout hin
      have h3 : fr.tmps.getD 3 undef = .pointer (some ⟨w.heap.size, 0, none⟩) := hout 3 (by decide)
      clear hout hin
      exact gs_loadAt (.tmp 3) rfl h3 (HS.out.below hb9).load (wanted_none rfl) rfl
    · intro w9 hb9 fr hout hin
      have h25 : fr.tmps.getD 25 undef = .agg (RulesK g (kf g)) := hin 25 (by decide) (by decide)
      have h26 : fr.tmps.getD 26 undef = .agg (StC o c n warm left) := hin 26 (by decide) (by decide)
      clear hout hin
      exact gs_call2 (.tmp 25) (.tmp 26) rfl en_rStore (wanted_none rfl) (by rw [show fr.eval (.tmp 25) = _ from h25, show fr.eval (.tmp 26) = _ from h26]; exact (KS2.out w9).mono fun _ _ h => RetV.gs h) (fun _ _ h => h)
    · intro w9 hb9 fr hout hin
      have h27 : fr.tmps.getD 27 undef = .tuple #[.int .u64 x, .int .u64 y, .int .u64 z, .bool b] := hin 27 (by decide) (by decide)
      clear hout hin
      exact relStep_move (.tmp 27) rfl (wanted_none rfl) (by show fr.tmps.getD 27 undef = _; rw [h27])
    · intro w9 hb9 fr hout hin
      have h24 : fr.tmps.getD 24 undef = .tuple #[.int .u64 x, .int .u64 y, .int .u64 z, .bool b] := hin 24 (by decide) (by decide)
      clear hout hin
      exact gs_ext (.tmp 24) 0 rfl h24 rfl (wanted_none rfl) rfl
    · intro w9 hb9 fr hout hin
      have h24 : fr.tmps.getD 24 undef = .tuple #[.int .u64 x, .int .u64 y, .int .u64 z, .bool b] := hin 24 (by decide) (by decide)
      clear hout hin
      exact gs_ext (.tmp 24) 1 rfl h24 rfl (wanted_none rfl) rfl
    · intro w9 hb9 fr hout hin
      have h24 : fr.tmps.getD 24 undef = .tuple #[.int .u64 x, .int .u64 y, .int .u64 z, .bool b] := hin 24 (by decide) (by decide)
      clear hout hin
      exact gs_ext (.tmp 24) 2 rfl h24 rfl (wanted_none rfl) rfl
    · intro w9 hb9 fr hout hin
      have h24 : fr.tmps.getD 24 undef = .tuple #[.int .u64 x, .int .u64 y, .int .u64 z, .bool b] := hin 24 (by decide) (by decide)
      clear hout hin
      exact gs_ext (.tmp 24) 3 rfl h24 rfl (wanted_none rfl) rfl
    · intro w9 hb9 fr hout hin
      have h28 : fr.tmps.getD 28 undef = .int .u64 x := hin 28 (by decide) (by decide)
      clear hout hin
      exact relStep_assign (.tmp 28) rfl (wanted_none rfl) (by show fr.tmps.getD 28 undef = _; rw [h28])
    · intro w9 hb9 fr hout hin
      have h29 : fr.tmps.getD 29 undef = .int .u64 y := hin 29 (by decide) (by decide)
      clear hout hin
      exact relStep_assign (.tmp 29) rfl (wanted_none rfl) (by show fr.tmps.getD 29 undef = _; rw [h29])
    · intro w9 hb9 fr hout hin
      have h30 : fr.tmps.getD 30 undef = .int .u64 z := hin 30 (by decide) (by decide)
      clear hout hin
      exact relStep_assign (.tmp 30) rfl (wanted_none rfl) (by show fr.tmps.getD 30 undef = _; rw [h30])
    · intro w9 hb9 fr hout hin
      have h31 : fr.tmps.getD 31 undef = .bool b := hin 31 (by decide) (by decide)
      clear hout hin
      exact relStep_assign (.tmp 31) rfl (wanted_none rfl) (by show fr.tmps.getD 31 undef = _; rw [h31])
  intro X3 hbn
  refine relAsk_in (by rfl) ?_
  intro v25 h25
  obtain rfl : v25 = .agg (RulesK g (kf g)) := h25
  refine relAsk_in (by rfl) ?_
  intro v26 h26
  obtain rfl : v26 = .agg (StC o c n warm left) := h26
  refine relAsk_in (by rfl) ?_
  intro v27 h27
  obtain rfl : v27 = .tuple #[.int .u64 x, .int .u64 y, .int .u64 z, .bool b] := h27
  refine relAsk_in (by rfl) ?_
  intro v24 h24
  obtain rfl : v24 = .tuple #[.int .u64 x, .int .u64 y, .int .u64 z, .bool b] := h24
  refine relAsk_in (by rfl) ?_
  intro v28 h28
  obtain rfl : v28 = .int .u64 x := h28
  refine relAsk_in (by rfl) ?_
  intro v29 h29
  obtain rfl : v29 = .int .u64 y := h29
  refine relAsk_in (by rfl) ?_
  intro v30 h30
  obtain rfl : v30 = .int .u64 z := h30
  refine relAsk_in (by rfl) ?_
  intro v31 h31
  obtain rfl : v31 = .bool b := h31
  refine relAsk_in (by rfl) ?_
  intro v10 h10
  obtain rfl : v10 = .int .u64 x := h10
  refine relAsk_in (by rfl) ?_
  intro v11 h11
  obtain rfl : v11 = .int .u64 y := h11
  refine relAsk_in (by rfl) ?_
  intro v12 h12
  obtain rfl : v12 = .int .u64 z := h12
  refine relAsk_in (by rfl) ?_
  intro v13 h13
  obtain rfl : v13 = .bool b := h13
  refine relAsk_nil ?_
  refine wpList_nil ?_
  replace HR := Lib.hid (HR.out.below hbn HR.out.lt)
  replace HS := Lib.hid (HS.out.below hbn)
  have HB2 := Lib.hid (HB.out.trans (hbn.mono HB.out.size))
  replace HB := HB2
  clear hbn
  go_simp
  go_upto_region 4 with (fail)
  refine wp_region_seq 22 [32, 33, 34, 35, 36, 37, 38, 39, 40, 41, 42, 43, 44, 45, 46, 47, 48, 49, 50, 51, 52, 4] [(32, .is (.int .u64 x)), (33, .is (.int .u64 x)), (34, .is (.bool true)), (35, .is (.bool true)), (36, .is (.int .u64 y)), (37, .is (.int .u64 y)), (38, .is (.bool true)), (39, .is (.bool true)), (40, .is (.bool true)), (41, .is (.int .u64 z)), (42, .is (.int .u64 z)), (43, .is (.bool true)), (44, .is (.bool true)), (45, .is (.bool true)), (46, .is (.bool b)), (47, .is (.bool b)), (48, .is (.bool true)), (49, .is (.bool true)), (50, .is (.bool true)), (51, .is (.bool true)), (52, .is (.bool true)), (4, .is (.bool true))] (by kernel_rfl) (by rfl) ?_ ?_
  · refine seeOps_cons ?_ (seeOps_cons ?_ (seeOps_cons ?_ (seeOps_cons ?_ (seeOps_cons ?_ (seeOps_cons ?_ (seeOps_cons ?_ (seeOps_cons ?_ (seeOps_cons ?_ (seeOps_cons ?_ (seeOps_cons ?_ (seeOps_cons ?_ (seeOps_cons ?_ (seeOps_cons ?_ (seeOps_cons ?_ (seeOps_cons ?_ (seeOps_cons ?_ (seeOps_cons ?_ (seeOps_cons ?_ (seeOps_cons ?_ (seeOps_cons ?_ (seeOps_cons ?_ seeOps_nil)))))))))))))))))))))
    · intro w9 hb9 fr hout hin
      have h6 : fr.tmps.getD 6 undef = .int .u64 x := hout 6 (by decide)
      clear hout hin
      exact relStep_move (.tmp 6) rfl (wanted_none rfl) (by show fr.tmps.getD 6 undef = _; rw [h6])
    · intro w9 hb9 fr hout hin
      have h10 : fr.tmps.getD 10 undef = .int .u64 x := hout 10 (by decide)
      clear hout hin
      exact relStep_move (.tmp 10) rfl (wanted_none rfl) (by show fr.tmps.getD 10 undef = _; rw [h10])
    · intro w9 hb9 fr hout hin
      have h32 : fr.tmps.getD 32 undef = .int .u64 x := hin 32 (by decide) (by decide)
      have h33 : fr.tmps.getD 33 undef = .int .u64 x := hin 33 (by decide) (by decide)
      clear hout hin
      exact op_eqU (.tmp 32) (.tmp 33) _ rfl h32 h33 (wanted_none rfl) rfl
    · intro w9 hb9 fr hout hin
      have h34 : fr.tmps.getD 34 undef = .bool true := hin 34 (by decide) (by decide)
      clear hout hin
      exact relStep_move (.tmp 34) rfl (wanted_none rfl) (by show fr.tmps.getD 34 undef = _; rw [h34])
    · intro w9 hb9 fr hout hin
      have h7 : fr.tmps.getD 7 undef = .int .u64 y := hout 7 (by decide)
      have h35 : fr.tmps.getD 35 undef = .bool true := hin 35 (by decide) (by decide)
      clear hout hin
      exact relStep_move (.tmp 7) rfl (wanted_some (g := 3) (t := 35) (b := true) rfl rfl h35) (by show fr.tmps.getD 7 undef = _; rw [h7])
    · intro w9 hb9 fr hout hin
      have h11 : fr.tmps.getD 11 undef = .int .u64 y := hout 11 (by decide)
      have h35 : fr.tmps.getD 35 undef = .bool true := hin 35 (by decide) (by decide)
      clear hout hin
      exact relStep_move (.tmp 11) rfl (wanted_some (g := 3) (t := 35) (b := true) rfl rfl h35) (by show fr.tmps.getD 11 undef = _; rw [h11])
    · intro w9 hb9 fr hout hin
      have h36 : fr.tmps.getD 36 undef = .int .u64 y := hin 36 (by decide) (by decide)
      have h37 : fr.tmps.getD 37 undef = .int .u64 y := hin 37 (by decide) (by decide)
      have h35 : fr.tmps.getD 35 undef = .bool true := hin 35 (by decide) (by decide)
      clear hout hin
      exact op_eqU (.tmp 36) (.tmp 37) _ rfl h36 h37 (wanted_some (g := 3) (t := 35) (b := true) rfl rfl h35) rfl
    · intro w9 hb9 fr hout hin
      have h35 : fr.tmps.getD 35 undef = .bool true := hin 35 (by decide) (by decide)
      have h38 : fr.tmps.getD 38 undef = .bool true := hin 38 (by decide) (by decide)
      clear hout hin
      exact relStep_pick (.tmp 35) (.tmp 38) (.const (.bool false)) rfl h35 (wanted_none rfl) (by show fr.tmps.getD 38 undef = _; rw [h38])
    · intro w9 hb9 fr hout hin
      have h39 : fr.tmps.getD 39 undef = .bool true := hin 39 (by decide) (by decide)
      clear hout hin
      exact relStep_move (.tmp 39) rfl (wanted_none rfl) (by show fr.tmps.getD 39 undef = _; rw [h39])
    · intro w9 hb9 fr hout hin
      have h8 : fr.tmps.getD 8 undef = .int .u64 z := hout 8 (by decide)
      have h40 : fr.tmps.getD 40 undef = .bool true := hin 40 (by decide) (by decide)
      clear hout hin
      exact relStep_move (.tmp 8) rfl (wanted_some (g := 8) (t := 40) (b := true) rfl rfl h40) (by show fr.tmps.getD 8 undef = _; rw [h8])
    · intro w9 hb9 fr hout hin
      have h12 : fr.tmps.getD 12 undef = .int .u64 z := hout 12 (by decide)
      have h40 : fr.tmps.getD 40 undef = .bool true := hin 40 (by decide) (by decide)
      clear hout hin
      exact relStep_move (.tmp 12) rfl (wanted_some (g := 8) (t := 40) (b := true) rfl rfl h40) (by show fr.tmps.getD 12 undef = _; rw [h12])
    · intro w9 hb9 fr hout hin
      have h41 : fr.tmps.getD 41 undef = .int .u64 z := hin 41 (by decide) (by decide)
      have h42 : fr.tmps.getD 42 undef = .int .u64 z := hin 42 (by decide) (by decide)
      have h40 : fr.tmps.getD 40 undef = .bool true := hin 40 (by decide) (by decide)
      clear hout hin
      exact op_eqU (.tmp 41) (.tmp 42) _ rfl h41 h42 (wanted_some (g := 8) (t := 40) (b := true) rfl rfl h40) rfl
    · intro w9 hb9 fr hout hin
      have h40 : fr.tmps.getD 40 undef = .bool true := hin 40 (by decide) (by decide)
      have h43 : fr.tmps.getD 43 undef = .bool true := hin 43 (by decide) (by decide)
      clear hout hin
      exact relStep_pick (.tmp 40) (.tmp 43) (.const (.bool false)) rfl h40 (wanted_none rfl) (by show fr.tmps.getD 43 undef = _; rw [h43])
    · intro w9 hb9 fr hout hin
      have h44 : fr.tmps.getD 44 undef = .bool true := hin 44 (by decide) (by decide)
      clear hout hin
      exact relStep_move (.tmp 44) rfl (wanted_none rfl) (by show fr.tmps.getD 44 undef = _; rw [h44])
    · intro w9 hb9 fr hout hin
      have h9 : fr.tmps.getD 9 undef = .bool b := hout 9 (by decide)
      have h45 : fr.tmps.getD 45 undef = .bool true := hin 45 (by decide) (by decide)
      clear hout hin
      exact relStep_move (.tmp 9) rfl (wanted_some (g := 13) (t := 45) (b := true) rfl rfl h45) (by show fr.tmps.getD 9 undef = _; rw [h9])
    · intro w9 hb9 fr hout hin
      have h13 : fr.tmps.getD 13 undef = .bool b := hout 13 (by decide)
      have h45 : fr.tmps.getD 45 undef = .bool true := hin 45 (by decide) (by decide)
      clear hout hin
      exact relStep_move (.tmp 13) rfl (wanted_some (g := 13) (t := 45) (b := true) rfl rfl h45) (by show fr.tmps.getD 13 undef = _; rw [h13])
    · intro w9 hb9 fr hout hin
      have h46 : fr.tmps.getD 46 undef = .bool b := hin 46 (by decide) (by decide)
      have h47 : fr.tmps.getD 47 undef = .bool b := hin 47 (by decide) (by decide)
      have h45 : fr.tmps.getD 45 undef = .bool true := hin 45 (by decide) (by decide)
      clear hout hin
      exact op_eqB (.tmp 46) (.tmp 47) _ rfl h46 h47 (wanted_some (g := 13) (t := 45) (b := true) rfl rfl h45) rfl
    · intro w9 hb9 fr hout hin
      have h45 : fr.tmps.getD 45 undef = .bool true := hin 45 (by decide) (by decide)
      have h48 : fr.tmps.getD 48 undef = .bool true := hin 48 (by decide) (by decide)
      clear hout hin
      exact relStep_pick (.tmp 45) (.tmp 48) (.const (.bool false)) rfl h45 (wanted_none rfl) (by show fr.tmps.getD 48 undef = _; rw [h48])
    · intro w9 hb9 fr hout hin
      have h49 : fr.tmps.getD 49 undef = .bool true := hin 49 (by decide) (by decide)
      clear hout hin
      exact relStep_move (.tmp 49) rfl (wanted_none rfl) (by show fr.tmps.getD 49 undef = _; rw [h49])
    · intro w9 hb9 fr hout hin
      have h50 : fr.tmps.getD 50 undef = .bool true := hin 50 (by decide) (by decide)
      clear hout hin
      exact gs_call0 rfl en_gsWakes (wanted_some (g := 18) (t := 50) (b := true) rfl rfl h50) (by exact (gswakes_c w9).mono fun _ _ h => RetV.gs h) (fun _ _ h => h)
    · intro w9 hb9 fr hout hin
      have h50 : fr.tmps.getD 50 undef = .bool true := hin 50 (by decide) (by decide)
      have h51 : fr.tmps.getD 51 undef = .bool true := hin 51 (by decide) (by decide)
      clear hout hin
      exact relStep_pick (.tmp 50) (.tmp 51) (.const (.bool false)) rfl h50 (wanted_none rfl) (by show fr.tmps.getD 51 undef = _; rw [h51])
    · intro w9 hb9 fr hout hin
      have h52 : fr.tmps.getD 52 undef = .bool true := hin 52 (by decide) (by decide)
      clear hout hin
      exact relStep_assign (.tmp 52) rfl (wanted_none rfl) (by show fr.tmps.getD 52 undef = _; rw [h52])
  intro X4 hb9
  refine relAsk_in (by rfl) ?_
  intro v32 h32
  obtain rfl : v32 = .int .u64 x := h32
  refine relAsk_in (by rfl) ?_
  intro v33 h33
  obtain rfl : v33 = .int .u64 x := h33
  refine relAsk_in (by rfl) ?_
  intro v34 h34
  obtain rfl : v34 = .bool true := h34
  refine relAsk_in (by rfl) ?_
  intro v35 h35
  obtain rfl : v35 = .bool true := h35
  refine relAsk_in (by rfl) ?_
  intro v36 h36
  obtain rfl : v36 = .int .u64 y := h36
  refine relAsk_in (by rfl) ?_
  intro v37 h37
  obtain rfl : v37 = .int .u64 y := h37
  refine relAsk_in (by rfl) ?_
  intro v38 h38
  obtain rfl : v38 = .bool true := h38
  refine relAsk_in (by rfl) ?_
  intro v39 h39
  obtain rfl : v39 = .bool true := h39
  refine relAsk_in (by rfl) ?_
  intro v40 h40
  obtain rfl : v40 = .bool true := h40
  refine relAsk_in (by rfl) ?_
  intro v41 h41
  obtain rfl : v41 = .int .u64 z := h41
  refine relAsk_in (by rfl) ?_
  intro v42 h42
  obtain rfl : v42 = .int .u64 z := h42
  refine relAsk_in (by rfl) ?_
  intro v43 h43
  obtain rfl : v43 = .bool true := h43
  refine relAsk_in (by rfl) ?_
  intro v44 h44
  obtain rfl : v44 = .bool true := h44
  refine relAsk_in (by rfl) ?_
  intro v45 h45
  obtain rfl : v45 = .bool true := h45
  refine relAsk_in (by rfl) ?_
  intro v46 h46
  obtain rfl : v46 = .bool b := h46
  refine relAsk_in (by rfl) ?_
  intro v47 h47
  obtain rfl : v47 = .bool b := h47
  refine relAsk_in (by rfl) ?_
  intro v48 h48
  obtain rfl : v48 = .bool true := h48
  refine relAsk_in (by rfl) ?_
  intro v49 h49
  obtain rfl : v49 = .bool true := h49
  refine relAsk_in (by rfl) ?_
  intro v50 h50
  obtain rfl : v50 = .bool true := h50
  refine relAsk_in (by rfl) ?_
  intro v51 h51
  obtain rfl : v51 = .bool true := h51
  refine relAsk_in (by rfl) ?_
  intro v52 h52
  obtain rfl : v52 = .bool true := h52
  refine relAsk_in (by rfl) ?_
  intro v4 h4
  obtain rfl : v4 = .bool true := h4
  refine relAsk_nil ?_
  refine wpList_nil ?_
  go_simp
  have HB9 := Lib.hid (HB.out.trans (hb9.mono HB.out.size))
  go_wp2_with fail
  go_ret
  exact ⟨rfl, HB9.out⟩
end Go.Proofs.Ytiflfcdegpmhnaa
