/- The law GasPart. (Written by wip/gengspartlaw.py.) -/
import Derived.Test.YtiflfcdegpmhnaaGsWakes
namespace Go.Proofs.Ytiflfcdegpmhnaa
open Go.RowKit

theorem en_gsPart (args : Array Value) (w : World) : (callFunc 25 args).run Try.prog w = .ok (.enter 25 args) w := by go_simp
theorem en_rPart (args : Array Value) (w : World) : (callFunc 26 args).run Try.prog w = .ok (.enter 26 args) w := by go_simp
theorem en_gsBack (args : Array Value) (w : World) : (callFunc 27 args).run Try.prog w = .ok (.enter 27 args) w := by go_simp
theorem en_rBack (args : Array Value) (w : World) : (callFunc 28 args).run Try.prog w = .ok (.enter 28 args) w := by go_simp
theorem gs_wanted_not {ops : Array Oper} {o : Oper} {a : Act} {g t : Nat} {b c : Bool} (h : o.guard = some (g, b)) (hg : (ops[g]?).bind (·.dst) = some t) (hv : a.tmps.getD t undef = .bool c) (hne : (c == b) = false) : Region.wanted o (yielded ops a.tmps) = false := by
  unfold Region.wanted
  rw [h]
  have : a.tmps[t]? = some (.bool c) := by
    rw [Array.getD_eq_getD_getElem?] at hv
    cases h : a.tmps[t]? with
    | none => rw [h] at hv; simp [undef] at hv
    | some x => rw [h] at hv; simpa using hv
  simp [yielded, hg, this, hne]
theorem partV_form (f : Int) (l a : Nat) : ∃ (x : Nat) (b : Bool), partV f l a = .tuple #[.int .u64 (x : Nat), .bool b] ∧ (b = true → x ≤ l) := by
  unfold partV
  split
  · split
    · exact ⟨0, _, rfl, fun _ => Nat.zero_le _⟩
    · exact ⟨a, _, rfl, fun _ => by omega⟩
  · refine ⟨_, _, rfl, fun _ => ?_⟩
    split <;> omega

set_option maxRecDepth 100000 in
set_option maxHeartbeats 12800000 in
theorem gasPart_c (w : World) (f : Int) (left a refund : Nat) (ha : Big a) (hl : left < 18446744073709551616) (hr : refund < 18446744073709551616) : Calls Try.prog 8 #[.agg #[.int .i64 f, .int .u64 (left : Nat), .int .u64 (lim 0 a : Nat), .int .u64 (lim 1 a : Nat), .int .u64 (lim 2 a : Nat), .int .u64 (lim 3 a : Nat), .int .u64 (refund : Nat)]] w (RetV (.bool true) w) := by
  have hg0 : 0 ≤ f % 16 := by omega
  have hg1 : f % 16 ≤ 15 := by omega
  obtain ⟨x, b, hv, hxl⟩ := partV_form (f % 16) left a
  obtain ⟨z, hz⟩ : ∃ z, z = backN left refund (partD (f % 16)) := ⟨_, rfl⟩
  have KB1 : Hid (∀ v, Calls Try.prog 27 #[.agg (RulesK (f % 16) (kf (f % 16))), .int .u64 (left : Nat), .int .u64 (refund : Nat)] v (RetV (.int .u64 (z : Nat)) v)) := fun v => by have h := gBack (f % 16) hg0 hg1 hl hr v; rw [← hz] at h; exact h
  have KB2 : Hid (∀ v, Calls Try.prog 28 #[.agg (RulesK (f % 16) (kf (f % 16))), .int .u64 (left : Nat), .int .u64 (refund : Nat)] v (RetV (.int .u64 (z : Nat)) v)) := fun v => by have h := rback_c (f % 16) (kf (f % 16)) (refund := refund) (kf23 _) (partD_pos _) hl v; rw [← hz] at h; exact h
  obtain ⟨X, hX⟩ : ∃ X, X = ((w.alloc (.cells #[.int .i64 f, .int .u64 (left : Nat), .int .u64 (lim 0 a : Nat), .int .u64 (lim 1 a : Nat), .int .u64 (lim 2 a : Nat), .int .u64 (lim 3 a : Nat), .int .u64 (refund : Nat)] 48)).alloc (.cells #[.int .u64 (lim 0 a : Nat), .int .u64 (lim 1 a : Nat), .int .u64 (lim 2 a : Nat), .int .u64 (lim 3 a : Nat)] 24)).drew := ⟨_, rfl⟩
  have HA0 : Hid (Arr X (w.heap.size + 1) 24 [lim 0 a, lim 1 a, lim 2 a, lim 3 a]) := by
    rw [hX]; have h := Arr.new4 (w.alloc (.cells #[.int .i64 f, .int .u64 (left : Nat), .int .u64 (lim 0 a : Nat), .int .u64 (lim 1 a : Nat), .int .u64 (lim 2 a : Nat), .int .u64 (lim 3 a : Nat), .int .u64 (refund : Nat)] 48)) 24 (lim 0 a) (lim 1 a) (lim 2 a) (lim 3 a); rw [show (w.alloc (.cells #[.int .i64 f, .int .u64 (left : Nat), .int .u64 (lim 0 a : Nat), .int .u64 (lim 1 a : Nat), .int .u64 (lim 2 a : Nat), .int .u64 (lim 3 a : Nat), .int .u64 (refund : Nat)] 48)).heap.size = w.heap.size + 1 by simp] at h; exact h.drew
  have hbox : X.heap[w.heap.size]? = some (.cells #[.int .i64 f, .int .u64 (left : Nat), .int .u64 (lim 0 a : Nat), .int .u64 (lim 1 a : Nat), .int .u64 (lim 2 a : Nat), .int .u64 (lim 3 a : Nat), .int .u64 (refund : Nat)] 48 (0, 0)) := by
    rw [hX]; show ((w.alloc _).alloc _).heap[w.heap.size]? = _
    rw [Below.heap_alloc _ _ _ (by simp)]; exact heap_alloc_new w _
  have c0 : X.cell? ⟨w.heap.size, 0, none⟩ = some (.int .i64 f) := by rw [cell_of_row _ _ 0 _ _ (0, 0) hbox]; rfl
  have HB0 : Hid (Below w.heap.size w X) := by rw [hX]; exact (((Below.refl _ _).alloc (Nat.le_refl _) _).alloc (by simp) _).trans ⟨rfl, rfl, rfl, Nat.le_refl _, fun _ _ => rfl⟩
  have HX := Lib.hid hX
  clear hX hbox
  cases b with
  | true =>
    have KP1 : Hid (∀ v, Calls Try.prog 25 #[.agg (RulesK (f % 16) (kf (f % 16))), .int .u64 (left : Nat), W a] v (RetV (.tuple #[.int .u64 (x : Nat), .bool true]) v)) := fun v => by have h := gPart (f % 16) hg0 hg1 hl ha v; rw [hv] at h; exact h
    have KP2 : Hid (∀ v, Calls Try.prog 26 #[.agg (RulesK (f % 16) (kf (f % 16))), .int .u64 (left : Nat), W a] v (RetV (.tuple #[.int .u64 (x : Nat), .bool true]) v)) := fun v => by have h := rpart_c (f % 16) (kf (f % 16)) hl ha v; rw [hv] at h; exact h
    have HXL : Hid ((x : Int) ≤ (left : Int)) := by have := hxl rfl; show (x : Int) ≤ _; omega
    clear hg0 hg1 hv ha hl hr hxl hz
    go_enter Try.func8, Try.ntmps8
    go_upto_region 1 with (fail)
    go_region
    rw [show ((w.alloc (.cells #[.int .i64 f, .int .u64 (left : Nat), .int .u64 (lim 0 a : Nat), .int .u64 (lim 1 a : Nat), .int .u64 (lim 2 a : Nat), .int .u64 (lim 3 a : Nat), .int .u64 (refund : Nat)] 48)).alloc (.cells #[.int .u64 (lim 0 a : Nat), .int .u64 (lim 1 a : Nat), .int .u64 (lim 2 a : Nat), .int .u64 (lim 3 a : Nat)] 24)).drew = X from HX.out.symm]
    go_wp2_with fail
    rename_i KK hKK
    (with_reducible refine (rules_c f _).mono ?_)
    rintro e1 w1 ⟨rfl, hb1⟩
    have HB1 := Lib.hid (HB0.out.trans (hb1.mono HB0.out.size))
    have HA1 := Lib.hid (HA0.out.below hb1 HA0.out.lt)
    clear hb1
    show KK _ _
    refine hKK _ _ ?_
    clear hKK KK
    refine wpList_plain rfl fun K hK => ?_; go_simp; refine hK _ _ ?_; clear hK K
    have hg : (w1.alloc (.cells RulesZ 26)).heap[w1.heap.size]? = some (.cells RulesZ 26 (0, 0)) := heap_alloc_new w1 _
    have hb2 := HB1.out.alloc HB1.out.size (.cells RulesZ 26)
    refine wpList_store_row rfl 26 (.tmp 6) (.tmp 19) rfl w1.heap.size (RulesK (f % 16) (kf (f % 16))) rfl rfl 26 RulesZ hg infoRules rfl (rulesK_one _ _) ?_
    have hR : RulesAt ((w1.alloc (.cells RulesZ 26)).setRow w1.heap.size (RulesK (f % 16) (kf (f % 16)))) w1.heap.size (f % 16) (kf (f % 16)) := setRow_heap _ _ _ _ _ _ hg
    have hb3 := below_setRow hb2 HB1.out.size (RulesK (f % 16) (kf (f % 16)))
    have hk1 : Below w1.heap.size w1 ((w1.alloc (.cells RulesZ 26)).setRow w1.heap.size (RulesK (f % 16) (kf (f % 16)))) := below_setRow ((Below.refl _ _).alloc (Nat.le_refl _) _) (Nat.le_refl _) _
    show wpList _ _ _ _ _ ((w1.alloc (.cells RulesZ 26)).setRow w1.heap.size (RulesK (f % 16) (kf (f % 16))))
    generalize (w1.alloc (.cells RulesZ 26)).setRow w1.heap.size (RulesK (f % 16) (kf (f % 16))) = Y at *
    have HR := Lib.hid hR
    have HB2 := Lib.hid hb3
    have HA := Lib.hid (HA1.out.below hk1 HA1.out.lt)
    clear hg hb2 hR hb3 hk1
    refine wpList_nil ?_
    go_simp
    clear HA0 HA1 HB0 HB1 c0 HX
    have HB := HB2
    clear HB2
    generalize f % 16 = g at *
    go_upto_region 3 with (fail)
    refine wp_region_seq 9 [21, 22, 23, 24, 20, 25, 26, 7, 8] [(21, .is (.agg (RulesK g (kf g)))), (22, .is (.int .u64 (left : Nat))), (23, .is (W a)), (24, .is (.tuple #[.int .u64 (x : Nat), .bool true])), (20, .is (.tuple #[.int .u64 (x : Nat), .bool true])), (25, .is (.int .u64 (x : Nat))), (26, .is (.bool true)), (7, .is (.int .u64 (x : Nat))), (8, .is (.bool true))] (by kernel_rfl) (by rfl) ?_ ?_
    · refine seeOps_cons ?_ (seeOps_cons ?_ (seeOps_cons ?_ (seeOps_cons ?_ (seeOps_cons ?_ (seeOps_cons ?_ (seeOps_cons ?_ (seeOps_cons ?_ (seeOps_cons ?_ seeOps_nil))))))))
      · intro w9 hb9 fr hout hin
        have h6 : fr.tmps.getD 6 undef = .pointer (some ⟨w1.heap.size, 0, none⟩) := hout 6 (by decide)
        clear hout hin
        exact gs_loadAt (.tmp 6) rfl h6 (HR.out.below hb9 HR.out.lt).load (wanted_none rfl) rfl
      · intro w9 hb9 fr hout hin
        have h3 : fr.tmps.getD 3 undef = .int .u64 (left : Nat) := hout 3 (by decide)
        clear hout hin
        exact relStep_move (.tmp 3) rfl (wanted_none rfl) (by show fr.tmps.getD 3 undef = _; rw [h3])
      · intro w9 hb9 fr hout hin
        have h4 : fr.tmps.getD 4 undef = .pointer (some ⟨w.heap.size + 1, 0, none⟩) := hout 4 (by decide)
        clear hout hin
        exact gs_loadW (n := a) (.tmp 4) rfl h4 (HA.out.below hb9 HA.out.lt).cells4 (wanted_none rfl) rfl
      · intro w9 hb9 fr hout hin
        have h21 : fr.tmps.getD 21 undef = .agg (RulesK g (kf g)) := hin 21 (by decide) (by decide)
        have h22 : fr.tmps.getD 22 undef = .int .u64 (left : Nat) := hin 22 (by decide) (by decide)
        have h23 : fr.tmps.getD 23 undef = W a := hin 23 (by decide) (by decide)
        clear hout hin
        exact gs_call3 (.tmp 21) (.tmp 22) (.tmp 23) rfl en_gsPart (wanted_none rfl) (by rw [show fr.eval (.tmp 21) = _ from h21, show fr.eval (.tmp 22) = _ from h22, show fr.eval (.tmp 23) = _ from h23]; exact (KP1.out w9).mono fun _ _ h => RetV.gs h) (fun _ _ h => h)
      · intro w9 hb9 fr hout hin
        have h24 : fr.tmps.getD 24 undef = .tuple #[.int .u64 (x : Nat), .bool true] := hin 24 (by decide) (by decide)
        clear hout hin
        exact relStep_move (.tmp 24) rfl (wanted_none rfl) (by show fr.tmps.getD 24 undef = _; rw [h24])
      · intro w9 hb9 fr hout hin
        have h20 : fr.tmps.getD 20 undef = .tuple #[.int .u64 (x : Nat), .bool true] := hin 20 (by decide) (by decide)
        clear hout hin
        exact gs_ext (.tmp 20) 0 rfl h20 rfl (wanted_none rfl) rfl
      · intro w9 hb9 fr hout hin
        have h20 : fr.tmps.getD 20 undef = .tuple #[.int .u64 (x : Nat), .bool true] := hin 20 (by decide) (by decide)
        clear hout hin
        exact gs_ext (.tmp 20) 1 rfl h20 rfl (wanted_none rfl) rfl
      · intro w9 hb9 fr hout hin
        have h25 : fr.tmps.getD 25 undef = .int .u64 (x : Nat) := hin 25 (by decide) (by decide)
        clear hout hin
        exact relStep_assign (.tmp 25) rfl (wanted_none rfl) (by show fr.tmps.getD 25 undef = _; rw [h25])
      · intro w9 hb9 fr hout hin
        have h26 : fr.tmps.getD 26 undef = .bool true := hin 26 (by decide) (by decide)
        clear hout hin
        exact relStep_assign (.tmp 26) rfl (wanted_none rfl) (by show fr.tmps.getD 26 undef = _; rw [h26])
    intro X3 hbn
    refine relAsk_in (by rfl) ?_
    intro v21 h21
    obtain rfl : v21 = .agg (RulesK g (kf g)) := h21
    refine relAsk_in (by rfl) ?_
    intro v22 h22
    obtain rfl : v22 = .int .u64 (left : Nat) := h22
    refine relAsk_in (by rfl) ?_
    intro v23 h23
    obtain rfl : v23 = W a := h23
    refine relAsk_in (by rfl) ?_
    intro v24 h24
    obtain rfl : v24 = .tuple #[.int .u64 (x : Nat), .bool true] := h24
    refine relAsk_in (by rfl) ?_
    intro v20 h20
    obtain rfl : v20 = .tuple #[.int .u64 (x : Nat), .bool true] := h20
    refine relAsk_in (by rfl) ?_
    intro v25 h25
    obtain rfl : v25 = .int .u64 (x : Nat) := h25
    refine relAsk_in (by rfl) ?_
    intro v26 h26
    obtain rfl : v26 = .bool true := h26
    refine relAsk_in (by rfl) ?_
    intro v7 h7
    obtain rfl : v7 = .int .u64 (x : Nat) := h7
    refine relAsk_in (by rfl) ?_
    intro v8 h8
    obtain rfl : v8 = .bool true := h8
    refine relAsk_nil ?_
    refine wpList_nil ?_
    replace HR := Lib.hid (HR.out.below hbn HR.out.lt)
    replace HA := Lib.hid (HA.out.below hbn HA.out.lt)
    have HB2 := Lib.hid (HB.out.trans (hbn.mono HB.out.size))
    replace HB := HB2
    clear hbn
    go_simp
    go_upto_region 4 with (fail)
    refine wp_region_seq 9 [28, 29, 30, 31, 27, 32, 33, 9, 10] [(28, .is (.agg (RulesK g (kf g)))), (29, .is (.int .u64 (left : Nat))), (30, .is (W a)), (31, .is (.tuple #[.int .u64 (x : Nat), .bool true])), (27, .is (.tuple #[.int .u64 (x : Nat), .bool true])), (32, .is (.int .u64 (x : Nat))), (33, .is (.bool true)), (9, .is (.int .u64 (x : Nat))), (10, .is (.bool true))] (by kernel_rfl) (by rfl) ?_ ?_
    · refine seeOps_cons ?_ (seeOps_cons ?_ (seeOps_cons ?_ (seeOps_cons ?_ (seeOps_cons ?_ (seeOps_cons ?_ (seeOps_cons ?_ (seeOps_cons ?_ (seeOps_cons ?_ seeOps_nil))))))))
      · intro w9 hb9 fr hout hin
        have h6 : fr.tmps.getD 6 undef = .pointer (some ⟨w1.heap.size, 0, none⟩) := hout 6 (by decide)
        clear hout hin
        exact gs_loadAt (.tmp 6) rfl h6 (HR.out.below hb9 HR.out.lt).load (wanted_none rfl) rfl
      · intro w9 hb9 fr hout hin
        have h3 : fr.tmps.getD 3 undef = .int .u64 (left : Nat) := hout 3 (by decide)
        clear hout hin
        exact relStep_move (.tmp 3) rfl (wanted_none rfl) (by show fr.tmps.getD 3 undef = _; rw [h3])
      · intro w9 hb9 fr hout hin
        have h4 : fr.tmps.getD 4 undef = .pointer (some ⟨w.heap.size + 1, 0, none⟩) := hout 4 (by decide)
        clear hout hin
        exact gs_loadW (n := a) (.tmp 4) rfl h4 (HA.out.below hb9 HA.out.lt).cells4 (wanted_none rfl) rfl
      · intro w9 hb9 fr hout hin
        have h28 : fr.tmps.getD 28 undef = .agg (RulesK g (kf g)) := hin 28 (by decide) (by decide)
        have h29 : fr.tmps.getD 29 undef = .int .u64 (left : Nat) := hin 29 (by decide) (by decide)
        have h30 : fr.tmps.getD 30 undef = W a := hin 30 (by decide) (by decide)
        clear hout hin
        exact gs_call3 (.tmp 28) (.tmp 29) (.tmp 30) rfl en_rPart (wanted_none rfl) (by rw [show fr.eval (.tmp 28) = _ from h28, show fr.eval (.tmp 29) = _ from h29, show fr.eval (.tmp 30) = _ from h30]; exact (KP2.out w9).mono fun _ _ h => RetV.gs h) (fun _ _ h => h)
      · intro w9 hb9 fr hout hin
        have h31 : fr.tmps.getD 31 undef = .tuple #[.int .u64 (x : Nat), .bool true] := hin 31 (by decide) (by decide)
        clear hout hin
        exact relStep_move (.tmp 31) rfl (wanted_none rfl) (by show fr.tmps.getD 31 undef = _; rw [h31])
      · intro w9 hb9 fr hout hin
        have h27 : fr.tmps.getD 27 undef = .tuple #[.int .u64 (x : Nat), .bool true] := hin 27 (by decide) (by decide)
        clear hout hin
        exact gs_ext (.tmp 27) 0 rfl h27 rfl (wanted_none rfl) rfl
      · intro w9 hb9 fr hout hin
        have h27 : fr.tmps.getD 27 undef = .tuple #[.int .u64 (x : Nat), .bool true] := hin 27 (by decide) (by decide)
        clear hout hin
        exact gs_ext (.tmp 27) 1 rfl h27 rfl (wanted_none rfl) rfl
      · intro w9 hb9 fr hout hin
        have h32 : fr.tmps.getD 32 undef = .int .u64 (x : Nat) := hin 32 (by decide) (by decide)
        clear hout hin
        exact relStep_assign (.tmp 32) rfl (wanted_none rfl) (by show fr.tmps.getD 32 undef = _; rw [h32])
      · intro w9 hb9 fr hout hin
        have h33 : fr.tmps.getD 33 undef = .bool true := hin 33 (by decide) (by decide)
        clear hout hin
        exact relStep_assign (.tmp 33) rfl (wanted_none rfl) (by show fr.tmps.getD 33 undef = _; rw [h33])
    intro X4 hbn
    refine relAsk_in (by rfl) ?_
    intro v28 h28
    obtain rfl : v28 = .agg (RulesK g (kf g)) := h28
    refine relAsk_in (by rfl) ?_
    intro v29 h29
    obtain rfl : v29 = .int .u64 (left : Nat) := h29
    refine relAsk_in (by rfl) ?_
    intro v30 h30
    obtain rfl : v30 = W a := h30
    refine relAsk_in (by rfl) ?_
    intro v31 h31
    obtain rfl : v31 = .tuple #[.int .u64 (x : Nat), .bool true] := h31
    refine relAsk_in (by rfl) ?_
    intro v27 h27
    obtain rfl : v27 = .tuple #[.int .u64 (x : Nat), .bool true] := h27
    refine relAsk_in (by rfl) ?_
    intro v32 h32
    obtain rfl : v32 = .int .u64 (x : Nat) := h32
    refine relAsk_in (by rfl) ?_
    intro v33 h33
    obtain rfl : v33 = .bool true := h33
    refine relAsk_in (by rfl) ?_
    intro v9 h9
    obtain rfl : v9 = .int .u64 (x : Nat) := h9
    refine relAsk_in (by rfl) ?_
    intro v10 h10
    obtain rfl : v10 = .bool true := h10
    refine relAsk_nil ?_
    refine wpList_nil ?_
    replace HR := Lib.hid (HR.out.below hbn HR.out.lt)
    replace HA := Lib.hid (HA.out.below hbn HA.out.lt)
    have HB2 := Lib.hid (HB.out.trans (hbn.mono HB.out.size))
    replace HB := HB2
    clear hbn
    go_simp
    clear KP1 KP2
    go_upto_region 5 with (fail)
    refine wp_region_see 32 [34, 35, 36, 37, 38, 39, 40, 41, 42, 43, 44, 45, 46, 47, 48, 49, 50, 51, 52, 53, 54, 55, 56, 57, 58, 59, 60, 61, 62, 63, 64, 2] [(34, .is (.int .u64 (x : Nat))), (35, .is (.int .u64 (x : Nat))), (36, .is (.bool true)), (37, .is (.bool true)), (38, .is (.bool true)), (39, .is (.bool true)), (40, .is (.bool true)), (41, .is (.bool true)), (42, .is (.bool true)), (43, .is (.bool true)), (44, .is (.bool false)), (45, .is (.bool false)), (46, .is (.int .u64 (x : Nat))), (47, .is (.int .u64 (left : Nat))), (48, .is (.bool true)), (49, .is (.bool true)), (50, .is (.bool true)), (51, .is (.bool true)), (52, .is (.agg (RulesK g (kf g)))), (53, .is (.int .u64 (left : Nat))), (54, .is (.int .u64 (refund : Nat))), (55, .is (.int .u64 (z : Nat))), (56, .is (.agg (RulesK g (kf g)))), (57, .is (.int .u64 (left : Nat))), (58, .is (.int .u64 (refund : Nat))), (59, .is (.int .u64 (z : Nat))), (60, .is (.bool true)), (61, .is (.bool true)), (62, .is (.bool true)), (63, .is (.bool true)), (64, .is (.bool true)), (2, .is (.bool true))] (by kernel_rfl) (by kernel_rfl) (by rfl) ?_ ?_
    · refine seeOps_cons ?_ (seeOps_cons ?_ (seeOps_cons ?_ (seeOps_cons ?_ (seeOps_cons ?_ (seeOps_cons ?_ (seeOps_cons ?_ (seeOps_cons ?_ (seeOps_cons ?_ (seeOps_cons ?_ (seeOps_cons ?_ (seeOps_cons ?_ (seeOps_cons ?_ (seeOps_cons ?_ (seeOps_cons ?_ (seeOps_cons ?_ (seeOps_cons ?_ (seeOps_cons ?_ (seeOps_cons ?_ (seeOps_cons ?_ (seeOps_cons ?_ (seeOps_cons ?_ (seeOps_cons ?_ (seeOps_cons ?_ (seeOps_cons ?_ (seeOps_cons ?_ (seeOps_cons ?_ (seeOps_cons ?_ (seeOps_cons ?_ (seeOps_cons ?_ (seeOps_cons ?_ (seeOps_cons ?_ seeOps_nil)))))))))))))))))))))))))))))))
      · intro w9 hb9 fr hout hin
        have h7 : fr.tmps.getD 7 undef = .int .u64 (x : Nat) := hout 7 (by decide)
        clear hout hin
        exact relStep_move (.tmp 7) rfl (wanted_none rfl) (by show fr.tmps.getD 7 undef = _; rw [h7])
      · intro w9 hb9 fr hout hin
        have h9 : fr.tmps.getD 9 undef = .int .u64 (x : Nat) := hout 9 (by decide)
        clear hout hin
        exact relStep_move (.tmp 9) rfl (wanted_none rfl) (by show fr.tmps.getD 9 undef = _; rw [h9])
      · intro w9 hb9 fr hout hin
        have h34 : fr.tmps.getD 34 undef = .int .u64 (x : Nat) := hin 34 (by decide) (by decide)
        have h35 : fr.tmps.getD 35 undef = .int .u64 (x : Nat) := hin 35 (by decide) (by decide)
        clear hout hin
        exact op_eqU (.tmp 34) (.tmp 35) _ rfl h34 h35 (wanted_none rfl) rfl
      · intro w9 hb9 fr hout hin
        have h36 : fr.tmps.getD 36 undef = .bool true := hin 36 (by decide) (by decide)
        clear hout hin
        exact relStep_move (.tmp 36) rfl (wanted_none rfl) (by show fr.tmps.getD 36 undef = _; rw [h36])
      · intro w9 hb9 fr hout hin
        have h8 : fr.tmps.getD 8 undef = .bool true := hout 8 (by decide)
        have h37 : fr.tmps.getD 37 undef = .bool true := hin 37 (by decide) (by decide)
        clear hout hin
        exact relStep_move (.tmp 8) rfl (wanted_some (g := 3) (t := 37) (b := true) rfl rfl h37) (by show fr.tmps.getD 8 undef = _; rw [h8])
      · intro w9 hb9 fr hout hin
        have h10 : fr.tmps.getD 10 undef = .bool true := hout 10 (by decide)
        have h37 : fr.tmps.getD 37 undef = .bool true := hin 37 (by decide) (by decide)
        clear hout hin
        exact relStep_move (.tmp 10) rfl (wanted_some (g := 3) (t := 37) (b := true) rfl rfl h37) (by show fr.tmps.getD 10 undef = _; rw [h10])
      · intro w9 hb9 fr hout hin
        have h38 : fr.tmps.getD 38 undef = .bool true := hin 38 (by decide) (by decide)
        have h39 : fr.tmps.getD 39 undef = .bool true := hin 39 (by decide) (by decide)
        have h37 : fr.tmps.getD 37 undef = .bool true := hin 37 (by decide) (by decide)
        clear hout hin
        exact op_eqB (.tmp 38) (.tmp 39) _ rfl h38 h39 (wanted_some (g := 3) (t := 37) (b := true) rfl rfl h37) rfl
      · intro w9 hb9 fr hout hin
        have h37 : fr.tmps.getD 37 undef = .bool true := hin 37 (by decide) (by decide)
        have h40 : fr.tmps.getD 40 undef = .bool true := hin 40 (by decide) (by decide)
        clear hout hin
        exact relStep_pick (.tmp 37) (.tmp 40) (.const (.bool false)) rfl h37 (wanted_none rfl) (by show fr.tmps.getD 40 undef = _; rw [h40])
      · intro w9 hb9 fr hout hin
        have h41 : fr.tmps.getD 41 undef = .bool true := hin 41 (by decide) (by decide)
        clear hout hin
        exact relStep_move (.tmp 41) rfl (wanted_none rfl) (by show fr.tmps.getD 41 undef = _; rw [h41])
      · intro w9 hb9 fr hout hin
        have h8 : fr.tmps.getD 8 undef = .bool true := hout 8 (by decide)
        have h42 : fr.tmps.getD 42 undef = .bool true := hin 42 (by decide) (by decide)
        clear hout hin
        exact relStep_move (.tmp 8) rfl (wanted_some (g := 8) (t := 42) (b := true) rfl rfl h42) (by show fr.tmps.getD 8 undef = _; rw [h8])
      · intro w9 hb9 fr hout hin
        have h43 : fr.tmps.getD 43 undef = .bool true := hin 43 (by decide) (by decide)
        have h42 : fr.tmps.getD 42 undef = .bool true := hin 42 (by decide) (by decide)
        clear hout hin
        exact gs_not (b := true) (.tmp 43) _ rfl h43 (wanted_some (g := 8) (t := 42) (b := true) rfl rfl h42) rfl
      · intro w9 hb9 fr hout hin
        have h44 : fr.tmps.getD 44 undef = .bool false := hin 44 (by decide) (by decide)
        have h42 : fr.tmps.getD 42 undef = .bool true := hin 42 (by decide) (by decide)
        clear hout hin
        exact relStep_move (.tmp 44) rfl (wanted_some (g := 8) (t := 42) (b := true) rfl rfl h42) (by show fr.tmps.getD 44 undef = _; rw [h44])
      · intro w9 hb9 fr hout hin
        have h7 : fr.tmps.getD 7 undef = .int .u64 (x : Nat) := hout 7 (by decide)
        have h45 : fr.tmps.getD 45 undef = .bool false := hin 45 (by decide) (by decide)
        clear hout hin
        exact relStep_move (.tmp 7) rfl (wanted_some (g := 11) (t := 45) (b := false) rfl rfl h45) (by show fr.tmps.getD 7 undef = _; rw [h7])
      · intro w9 hb9 fr hout hin
        have h3 : fr.tmps.getD 3 undef = .int .u64 (left : Nat) := hout 3 (by decide)
        have h45 : fr.tmps.getD 45 undef = .bool false := hin 45 (by decide) (by decide)
        clear hout hin
        exact relStep_move (.tmp 3) rfl (wanted_some (g := 11) (t := 45) (b := false) rfl rfl h45) (by show fr.tmps.getD 3 undef = _; rw [h3])
      · intro w9 hb9 fr hout hin
        have h46 : fr.tmps.getD 46 undef = .int .u64 (x : Nat) := hin 46 (by decide) (by decide)
        have h47 : fr.tmps.getD 47 undef = .int .u64 (left : Nat) := hin 47 (by decide) (by decide)
        have h45 : fr.tmps.getD 45 undef = .bool false := hin 45 (by decide) (by decide)
        clear hout hin
        exact gs_bin .leq 22 (.tmp 46) (.tmp 47) _ rfl h46 h47 (fun w => by go_simp) (fun w => by have := HXL.out; go_simp) (wanted_some (g := 11) (t := 45) (b := false) rfl rfl h45) rfl
      · intro w9 hb9 fr hout hin
        have h45 : fr.tmps.getD 45 undef = .bool false := hin 45 (by decide) (by decide)
        have h48 : fr.tmps.getD 48 undef = .bool true := hin 48 (by decide) (by decide)
        have h42 : fr.tmps.getD 42 undef = .bool true := hin 42 (by decide) (by decide)
        clear hout hin
        exact relStep_pickF (.tmp 45) (.const (.bool true)) (.tmp 48) rfl h45 (wanted_some (g := 8) (t := 42) (b := true) rfl rfl h42) (by show fr.tmps.getD 48 undef = _; rw [h48])
      · intro w9 hb9 fr hout hin
        have h42 : fr.tmps.getD 42 undef = .bool true := hin 42 (by decide) (by decide)
        have h49 : fr.tmps.getD 49 undef = .bool true := hin 49 (by decide) (by decide)
        clear hout hin
        exact relStep_pick (.tmp 42) (.tmp 49) (.const (.bool false)) rfl h42 (wanted_none rfl) (by show fr.tmps.getD 49 undef = _; rw [h49])
      · intro w9 hb9 fr hout hin
        have h50 : fr.tmps.getD 50 undef = .bool true := hin 50 (by decide) (by decide)
        clear hout hin
        exact relStep_move (.tmp 50) rfl (wanted_none rfl) (by show fr.tmps.getD 50 undef = _; rw [h50])
      · intro w9 hb9 fr hout hin
        have h6 : fr.tmps.getD 6 undef = .pointer (some ⟨w1.heap.size, 0, none⟩) := hout 6 (by decide)
        have h51 : fr.tmps.getD 51 undef = .bool true := hin 51 (by decide) (by decide)
        clear hout hin
        exact gs_loadAt (.tmp 6) rfl h6 (HR.out.below hb9 HR.out.lt).load (wanted_some (g := 17) (t := 51) (b := true) rfl rfl h51) rfl
      · intro w9 hb9 fr hout hin
        have h3 : fr.tmps.getD 3 undef = .int .u64 (left : Nat) := hout 3 (by decide)
        have h51 : fr.tmps.getD 51 undef = .bool true := hin 51 (by decide) (by decide)
        clear hout hin
        exact relStep_move (.tmp 3) rfl (wanted_some (g := 17) (t := 51) (b := true) rfl rfl h51) (by show fr.tmps.getD 3 undef = _; rw [h3])
      · intro w9 hb9 fr hout hin
        have h5 : fr.tmps.getD 5 undef = .int .u64 (refund : Nat) := hout 5 (by decide)
        have h51 : fr.tmps.getD 51 undef = .bool true := hin 51 (by decide) (by decide)
        clear hout hin
        exact relStep_move (.tmp 5) rfl (wanted_some (g := 17) (t := 51) (b := true) rfl rfl h51) (by show fr.tmps.getD 5 undef = _; rw [h5])
      · intro w9 hb9 fr hout hin
        have h52 : fr.tmps.getD 52 undef = .agg (RulesK g (kf g)) := hin 52 (by decide) (by decide)
        have h53 : fr.tmps.getD 53 undef = .int .u64 (left : Nat) := hin 53 (by decide) (by decide)
        have h54 : fr.tmps.getD 54 undef = .int .u64 (refund : Nat) := hin 54 (by decide) (by decide)
        have h51 : fr.tmps.getD 51 undef = .bool true := hin 51 (by decide) (by decide)
        clear hout hin
        exact gs_call3 (.tmp 52) (.tmp 53) (.tmp 54) rfl en_gsBack (wanted_some (g := 17) (t := 51) (b := true) rfl rfl h51) (by rw [show fr.eval (.tmp 52) = _ from h52, show fr.eval (.tmp 53) = _ from h53, show fr.eval (.tmp 54) = _ from h54]; exact (KB1.out w9).mono fun _ _ h => RetV.gs h) (fun _ _ h => h)
      · intro w9 hb9 fr hout hin
        have h6 : fr.tmps.getD 6 undef = .pointer (some ⟨w1.heap.size, 0, none⟩) := hout 6 (by decide)
        have h51 : fr.tmps.getD 51 undef = .bool true := hin 51 (by decide) (by decide)
        clear hout hin
        exact gs_loadAt (.tmp 6) rfl h6 (HR.out.below hb9 HR.out.lt).load (wanted_some (g := 17) (t := 51) (b := true) rfl rfl h51) rfl
      · intro w9 hb9 fr hout hin
        have h3 : fr.tmps.getD 3 undef = .int .u64 (left : Nat) := hout 3 (by decide)
        have h51 : fr.tmps.getD 51 undef = .bool true := hin 51 (by decide) (by decide)
        clear hout hin
        exact relStep_move (.tmp 3) rfl (wanted_some (g := 17) (t := 51) (b := true) rfl rfl h51) (by show fr.tmps.getD 3 undef = _; rw [h3])
      · intro w9 hb9 fr hout hin
        have h5 : fr.tmps.getD 5 undef = .int .u64 (refund : Nat) := hout 5 (by decide)
        have h51 : fr.tmps.getD 51 undef = .bool true := hin 51 (by decide) (by decide)
        clear hout hin
        exact relStep_move (.tmp 5) rfl (wanted_some (g := 17) (t := 51) (b := true) rfl rfl h51) (by show fr.tmps.getD 5 undef = _; rw [h5])
      · intro w9 hb9 fr hout hin
        have h56 : fr.tmps.getD 56 undef = .agg (RulesK g (kf g)) := hin 56 (by decide) (by decide)
        have h57 : fr.tmps.getD 57 undef = .int .u64 (left : Nat) := hin 57 (by decide) (by decide)
        have h58 : fr.tmps.getD 58 undef = .int .u64 (refund : Nat) := hin 58 (by decide) (by decide)
        have h51 : fr.tmps.getD 51 undef = .bool true := hin 51 (by decide) (by decide)
        clear hout hin
        exact gs_call3 (.tmp 56) (.tmp 57) (.tmp 58) rfl en_rBack (wanted_some (g := 17) (t := 51) (b := true) rfl rfl h51) (by rw [show fr.eval (.tmp 56) = _ from h56, show fr.eval (.tmp 57) = _ from h57, show fr.eval (.tmp 58) = _ from h58]; exact (KB2.out w9).mono fun _ _ h => RetV.gs h) (fun _ _ h => h)
      · intro w9 hb9 fr hout hin
        have h55 : fr.tmps.getD 55 undef = .int .u64 (z : Nat) := hin 55 (by decide) (by decide)
        have h59 : fr.tmps.getD 59 undef = .int .u64 (z : Nat) := hin 59 (by decide) (by decide)
        have h51 : fr.tmps.getD 51 undef = .bool true := hin 51 (by decide) (by decide)
        clear hout hin
        exact op_eqU (.tmp 55) (.tmp 59) _ rfl h55 h59 (wanted_some (g := 17) (t := 51) (b := true) rfl rfl h51) rfl
      · intro w9 hb9 fr hout hin
        have h51 : fr.tmps.getD 51 undef = .bool true := hin 51 (by decide) (by decide)
        have h60 : fr.tmps.getD 60 undef = .bool true := hin 60 (by decide) (by decide)
        clear hout hin
        exact relStep_pick (.tmp 51) (.tmp 60) (.const (.bool false)) rfl h51 (wanted_none rfl) (by show fr.tmps.getD 60 undef = _; rw [h60])
      · intro w9 hb9 fr hout hin
        have h61 : fr.tmps.getD 61 undef = .bool true := hin 61 (by decide) (by decide)
        clear hout hin
        exact relStep_move (.tmp 61) rfl (wanted_none rfl) (by show fr.tmps.getD 61 undef = _; rw [h61])
      · intro w9 hb9 fr hout hin
        have h62 : fr.tmps.getD 62 undef = .bool true := hin 62 (by decide) (by decide)
        clear hout hin
        exact gs_call0 rfl en_gsWakes (wanted_some (g := 28) (t := 62) (b := true) rfl rfl h62) (by exact (gswakes_c w9).mono fun _ _ h => RetV.gs h) (fun _ _ h => h)
      · intro w9 hb9 fr hout hin
        have h62 : fr.tmps.getD 62 undef = .bool true := hin 62 (by decide) (by decide)
        have h63 : fr.tmps.getD 63 undef = .bool true := hin 63 (by decide) (by decide)
        clear hout hin
        exact relStep_pick (.tmp 62) (.tmp 63) (.const (.bool false)) rfl h62 (wanted_none rfl) (by show fr.tmps.getD 63 undef = _; rw [h63])
      · intro w9 hb9 fr hout hin
        have h64 : fr.tmps.getD 64 undef = .bool true := hin 64 (by decide) (by decide)
        clear hout hin
        exact relStep_assign (.tmp 64) rfl (wanted_none rfl) (by show fr.tmps.getD 64 undef = _; rw [h64])
    intro X5 hb9
    refine relAsk_in (by rfl) ?_
    intro v34 h34
    obtain rfl : v34 = .int .u64 (x : Nat) := h34
    refine relAsk_in (by rfl) ?_
    intro v35 h35
    obtain rfl : v35 = .int .u64 (x : Nat) := h35
    refine relAsk_in (by rfl) ?_
    intro v36 h36
    obtain rfl : v36 = .bool true := h36
    refine relAsk_in (by rfl) ?_
    intro v37 h37
    obtain rfl : v37 = .bool true := h37
    refine relAsk_in (by rfl) ?_
    intro v38 h38
    obtain rfl : v38 = .bool true := h38
    refine relAsk_in (by rfl) ?_
    intro v39 h39
    obtain rfl : v39 = .bool true := h39
    refine relAsk_in (by rfl) ?_
    intro v40 h40
    obtain rfl : v40 = .bool true := h40
    refine relAsk_in (by rfl) ?_
    intro v41 h41
    obtain rfl : v41 = .bool true := h41
    refine relAsk_in (by rfl) ?_
    intro v42 h42
    obtain rfl : v42 = .bool true := h42
    refine relAsk_in (by rfl) ?_
    intro v43 h43
    obtain rfl : v43 = .bool true := h43
    refine relAsk_in (by rfl) ?_
    intro v44 h44
    obtain rfl : v44 = .bool false := h44
    refine relAsk_in (by rfl) ?_
    intro v45 h45
    obtain rfl : v45 = .bool false := h45
    refine relAsk_in (by rfl) ?_
    intro v46 h46
    obtain rfl : v46 = .int .u64 (x : Nat) := h46
    refine relAsk_in (by rfl) ?_
    intro v47 h47
    obtain rfl : v47 = .int .u64 (left : Nat) := h47
    refine relAsk_in (by rfl) ?_
    intro v48 h48
    obtain rfl : v48 = .bool true := h48
    refine relAsk_in (by rfl) ?_
    intro v49 h49
    obtain rfl : v49 = .bool true := h49
    refine relAsk_in (by rfl) ?_
    intro v50 h50
    obtain rfl : v50 = .bool true := h50
    refine relAsk_in (by rfl) ?_
    intro v51 h51
    obtain rfl : v51 = .bool true := h51
    refine relAsk_in (by rfl) ?_
    intro v52 h52
    obtain rfl : v52 = .agg (RulesK g (kf g)) := h52
    refine relAsk_in (by rfl) ?_
    intro v53 h53
    obtain rfl : v53 = .int .u64 (left : Nat) := h53
    refine relAsk_in (by rfl) ?_
    intro v54 h54
    obtain rfl : v54 = .int .u64 (refund : Nat) := h54
    refine relAsk_in (by rfl) ?_
    intro v55 h55
    obtain rfl : v55 = .int .u64 (z : Nat) := h55
    refine relAsk_in (by rfl) ?_
    intro v56 h56
    obtain rfl : v56 = .agg (RulesK g (kf g)) := h56
    refine relAsk_in (by rfl) ?_
    intro v57 h57
    obtain rfl : v57 = .int .u64 (left : Nat) := h57
    refine relAsk_in (by rfl) ?_
    intro v58 h58
    obtain rfl : v58 = .int .u64 (refund : Nat) := h58
    refine relAsk_in (by rfl) ?_
    intro v59 h59
    obtain rfl : v59 = .int .u64 (z : Nat) := h59
    refine relAsk_in (by rfl) ?_
    intro v60 h60
    obtain rfl : v60 = .bool true := h60
    refine relAsk_in (by rfl) ?_
    intro v61 h61
    obtain rfl : v61 = .bool true := h61
    refine relAsk_in (by rfl) ?_
    intro v62 h62
    obtain rfl : v62 = .bool true := h62
    refine relAsk_in (by rfl) ?_
    intro v63 h63
    obtain rfl : v63 = .bool true := h63
    refine relAsk_in (by rfl) ?_
    intro v64 h64
    obtain rfl : v64 = .bool true := h64
    refine relAsk_in (by rfl) ?_
    intro v2 h2
    obtain rfl : v2 = .bool true := h2
    refine relAsk_nil ?_
    refine wpList_nil ?_
    go_simp
    have HB9 := Lib.hid (HB.out.trans (hb9.mono HB.out.size))
    go_wp2_with fail
    go_ret
    exact ⟨rfl, HB9.out⟩
  | false =>
    have KP1 : Hid (∀ v, Calls Try.prog 25 #[.agg (RulesK (f % 16) (kf (f % 16))), .int .u64 (left : Nat), W a] v (RetV (.tuple #[.int .u64 (x : Nat), .bool false]) v)) := fun v => by have h := gPart (f % 16) hg0 hg1 hl ha v; rw [hv] at h; exact h
    have KP2 : Hid (∀ v, Calls Try.prog 26 #[.agg (RulesK (f % 16) (kf (f % 16))), .int .u64 (left : Nat), W a] v (RetV (.tuple #[.int .u64 (x : Nat), .bool false]) v)) := fun v => by have h := rpart_c (f % 16) (kf (f % 16)) hl ha v; rw [hv] at h; exact h
    skip
    clear hg0 hg1 hv ha hl hr hxl hz
    go_enter Try.func8, Try.ntmps8
    go_upto_region 1 with (fail)
    go_region
    rw [show ((w.alloc (.cells #[.int .i64 f, .int .u64 (left : Nat), .int .u64 (lim 0 a : Nat), .int .u64 (lim 1 a : Nat), .int .u64 (lim 2 a : Nat), .int .u64 (lim 3 a : Nat), .int .u64 (refund : Nat)] 48)).alloc (.cells #[.int .u64 (lim 0 a : Nat), .int .u64 (lim 1 a : Nat), .int .u64 (lim 2 a : Nat), .int .u64 (lim 3 a : Nat)] 24)).drew = X from HX.out.symm]
    go_wp2_with fail
    rename_i KK hKK
    (with_reducible refine (rules_c f _).mono ?_)
    rintro e1 w1 ⟨rfl, hb1⟩
    have HB1 := Lib.hid (HB0.out.trans (hb1.mono HB0.out.size))
    have HA1 := Lib.hid (HA0.out.below hb1 HA0.out.lt)
    clear hb1
    show KK _ _
    refine hKK _ _ ?_
    clear hKK KK
    refine wpList_plain rfl fun K hK => ?_; go_simp; refine hK _ _ ?_; clear hK K
    have hg : (w1.alloc (.cells RulesZ 26)).heap[w1.heap.size]? = some (.cells RulesZ 26 (0, 0)) := heap_alloc_new w1 _
    have hb2 := HB1.out.alloc HB1.out.size (.cells RulesZ 26)
    refine wpList_store_row rfl 26 (.tmp 6) (.tmp 19) rfl w1.heap.size (RulesK (f % 16) (kf (f % 16))) rfl rfl 26 RulesZ hg infoRules rfl (rulesK_one _ _) ?_
    have hR : RulesAt ((w1.alloc (.cells RulesZ 26)).setRow w1.heap.size (RulesK (f % 16) (kf (f % 16)))) w1.heap.size (f % 16) (kf (f % 16)) := setRow_heap _ _ _ _ _ _ hg
    have hb3 := below_setRow hb2 HB1.out.size (RulesK (f % 16) (kf (f % 16)))
    have hk1 : Below w1.heap.size w1 ((w1.alloc (.cells RulesZ 26)).setRow w1.heap.size (RulesK (f % 16) (kf (f % 16)))) := below_setRow ((Below.refl _ _).alloc (Nat.le_refl _) _) (Nat.le_refl _) _
    show wpList _ _ _ _ _ ((w1.alloc (.cells RulesZ 26)).setRow w1.heap.size (RulesK (f % 16) (kf (f % 16))))
    generalize (w1.alloc (.cells RulesZ 26)).setRow w1.heap.size (RulesK (f % 16) (kf (f % 16))) = Y at *
    have HR := Lib.hid hR
    have HB2 := Lib.hid hb3
    have HA := Lib.hid (HA1.out.below hk1 HA1.out.lt)
    clear hg hb2 hR hb3 hk1
    refine wpList_nil ?_
    go_simp
    clear HA0 HA1 HB0 HB1 c0 HX
    have HB := HB2
    clear HB2
    generalize f % 16 = g at *
    go_upto_region 3 with (fail)
    refine wp_region_seq 9 [21, 22, 23, 24, 20, 25, 26, 7, 8] [(21, .is (.agg (RulesK g (kf g)))), (22, .is (.int .u64 (left : Nat))), (23, .is (W a)), (24, .is (.tuple #[.int .u64 (x : Nat), .bool false])), (20, .is (.tuple #[.int .u64 (x : Nat), .bool false])), (25, .is (.int .u64 (x : Nat))), (26, .is (.bool false)), (7, .is (.int .u64 (x : Nat))), (8, .is (.bool false))] (by kernel_rfl) (by rfl) ?_ ?_
    · refine seeOps_cons ?_ (seeOps_cons ?_ (seeOps_cons ?_ (seeOps_cons ?_ (seeOps_cons ?_ (seeOps_cons ?_ (seeOps_cons ?_ (seeOps_cons ?_ (seeOps_cons ?_ seeOps_nil))))))))
      · intro w9 hb9 fr hout hin
        have h6 : fr.tmps.getD 6 undef = .pointer (some ⟨w1.heap.size, 0, none⟩) := hout 6 (by decide)
        clear hout hin
        exact gs_loadAt (.tmp 6) rfl h6 (HR.out.below hb9 HR.out.lt).load (wanted_none rfl) rfl
      · intro w9 hb9 fr hout hin
        have h3 : fr.tmps.getD 3 undef = .int .u64 (left : Nat) := hout 3 (by decide)
        clear hout hin
        exact relStep_move (.tmp 3) rfl (wanted_none rfl) (by show fr.tmps.getD 3 undef = _; rw [h3])
      · intro w9 hb9 fr hout hin
        have h4 : fr.tmps.getD 4 undef = .pointer (some ⟨w.heap.size + 1, 0, none⟩) := hout 4 (by decide)
        clear hout hin
        exact gs_loadW (n := a) (.tmp 4) rfl h4 (HA.out.below hb9 HA.out.lt).cells4 (wanted_none rfl) rfl
      · intro w9 hb9 fr hout hin
        have h21 : fr.tmps.getD 21 undef = .agg (RulesK g (kf g)) := hin 21 (by decide) (by decide)
        have h22 : fr.tmps.getD 22 undef = .int .u64 (left : Nat) := hin 22 (by decide) (by decide)
        have h23 : fr.tmps.getD 23 undef = W a := hin 23 (by decide) (by decide)
        clear hout hin
        exact gs_call3 (.tmp 21) (.tmp 22) (.tmp 23) rfl en_gsPart (wanted_none rfl) (by rw [show fr.eval (.tmp 21) = _ from h21, show fr.eval (.tmp 22) = _ from h22, show fr.eval (.tmp 23) = _ from h23]; exact (KP1.out w9).mono fun _ _ h => RetV.gs h) (fun _ _ h => h)
      · intro w9 hb9 fr hout hin
        have h24 : fr.tmps.getD 24 undef = .tuple #[.int .u64 (x : Nat), .bool false] := hin 24 (by decide) (by decide)
        clear hout hin
        exact relStep_move (.tmp 24) rfl (wanted_none rfl) (by show fr.tmps.getD 24 undef = _; rw [h24])
      · intro w9 hb9 fr hout hin
        have h20 : fr.tmps.getD 20 undef = .tuple #[.int .u64 (x : Nat), .bool false] := hin 20 (by decide) (by decide)
        clear hout hin
        exact gs_ext (.tmp 20) 0 rfl h20 rfl (wanted_none rfl) rfl
      · intro w9 hb9 fr hout hin
        have h20 : fr.tmps.getD 20 undef = .tuple #[.int .u64 (x : Nat), .bool false] := hin 20 (by decide) (by decide)
        clear hout hin
        exact gs_ext (.tmp 20) 1 rfl h20 rfl (wanted_none rfl) rfl
      · intro w9 hb9 fr hout hin
        have h25 : fr.tmps.getD 25 undef = .int .u64 (x : Nat) := hin 25 (by decide) (by decide)
        clear hout hin
        exact relStep_assign (.tmp 25) rfl (wanted_none rfl) (by show fr.tmps.getD 25 undef = _; rw [h25])
      · intro w9 hb9 fr hout hin
        have h26 : fr.tmps.getD 26 undef = .bool false := hin 26 (by decide) (by decide)
        clear hout hin
        exact relStep_assign (.tmp 26) rfl (wanted_none rfl) (by show fr.tmps.getD 26 undef = _; rw [h26])
    intro X3 hbn
    refine relAsk_in (by rfl) ?_
    intro v21 h21
    obtain rfl : v21 = .agg (RulesK g (kf g)) := h21
    refine relAsk_in (by rfl) ?_
    intro v22 h22
    obtain rfl : v22 = .int .u64 (left : Nat) := h22
    refine relAsk_in (by rfl) ?_
    intro v23 h23
    obtain rfl : v23 = W a := h23
    refine relAsk_in (by rfl) ?_
    intro v24 h24
    obtain rfl : v24 = .tuple #[.int .u64 (x : Nat), .bool false] := h24
    refine relAsk_in (by rfl) ?_
    intro v20 h20
    obtain rfl : v20 = .tuple #[.int .u64 (x : Nat), .bool false] := h20
    refine relAsk_in (by rfl) ?_
    intro v25 h25
    obtain rfl : v25 = .int .u64 (x : Nat) := h25
    refine relAsk_in (by rfl) ?_
    intro v26 h26
    obtain rfl : v26 = .bool false := h26
    refine relAsk_in (by rfl) ?_
    intro v7 h7
    obtain rfl : v7 = .int .u64 (x : Nat) := h7
    refine relAsk_in (by rfl) ?_
    intro v8 h8
    obtain rfl : v8 = .bool false := h8
    refine relAsk_nil ?_
    refine wpList_nil ?_
    replace HR := Lib.hid (HR.out.below hbn HR.out.lt)
    replace HA := Lib.hid (HA.out.below hbn HA.out.lt)
    have HB2 := Lib.hid (HB.out.trans (hbn.mono HB.out.size))
    replace HB := HB2
    clear hbn
    go_simp
    go_upto_region 4 with (fail)
    refine wp_region_seq 9 [28, 29, 30, 31, 27, 32, 33, 9, 10] [(28, .is (.agg (RulesK g (kf g)))), (29, .is (.int .u64 (left : Nat))), (30, .is (W a)), (31, .is (.tuple #[.int .u64 (x : Nat), .bool false])), (27, .is (.tuple #[.int .u64 (x : Nat), .bool false])), (32, .is (.int .u64 (x : Nat))), (33, .is (.bool false)), (9, .is (.int .u64 (x : Nat))), (10, .is (.bool false))] (by kernel_rfl) (by rfl) ?_ ?_
    · refine seeOps_cons ?_ (seeOps_cons ?_ (seeOps_cons ?_ (seeOps_cons ?_ (seeOps_cons ?_ (seeOps_cons ?_ (seeOps_cons ?_ (seeOps_cons ?_ (seeOps_cons ?_ seeOps_nil))))))))
      · intro w9 hb9 fr hout hin
        have h6 : fr.tmps.getD 6 undef = .pointer (some ⟨w1.heap.size, 0, none⟩) := hout 6 (by decide)
        clear hout hin
        exact gs_loadAt (.tmp 6) rfl h6 (HR.out.below hb9 HR.out.lt).load (wanted_none rfl) rfl
      · intro w9 hb9 fr hout hin
        have h3 : fr.tmps.getD 3 undef = .int .u64 (left : Nat) := hout 3 (by decide)
        clear hout hin
        exact relStep_move (.tmp 3) rfl (wanted_none rfl) (by show fr.tmps.getD 3 undef = _; rw [h3])
      · intro w9 hb9 fr hout hin
        have h4 : fr.tmps.getD 4 undef = .pointer (some ⟨w.heap.size + 1, 0, none⟩) := hout 4 (by decide)
        clear hout hin
        exact gs_loadW (n := a) (.tmp 4) rfl h4 (HA.out.below hb9 HA.out.lt).cells4 (wanted_none rfl) rfl
      · intro w9 hb9 fr hout hin
        have h28 : fr.tmps.getD 28 undef = .agg (RulesK g (kf g)) := hin 28 (by decide) (by decide)
        have h29 : fr.tmps.getD 29 undef = .int .u64 (left : Nat) := hin 29 (by decide) (by decide)
        have h30 : fr.tmps.getD 30 undef = W a := hin 30 (by decide) (by decide)
        clear hout hin
        exact gs_call3 (.tmp 28) (.tmp 29) (.tmp 30) rfl en_rPart (wanted_none rfl) (by rw [show fr.eval (.tmp 28) = _ from h28, show fr.eval (.tmp 29) = _ from h29, show fr.eval (.tmp 30) = _ from h30]; exact (KP2.out w9).mono fun _ _ h => RetV.gs h) (fun _ _ h => h)
      · intro w9 hb9 fr hout hin
        have h31 : fr.tmps.getD 31 undef = .tuple #[.int .u64 (x : Nat), .bool false] := hin 31 (by decide) (by decide)
        clear hout hin
        exact relStep_move (.tmp 31) rfl (wanted_none rfl) (by show fr.tmps.getD 31 undef = _; rw [h31])
      · intro w9 hb9 fr hout hin
        have h27 : fr.tmps.getD 27 undef = .tuple #[.int .u64 (x : Nat), .bool false] := hin 27 (by decide) (by decide)
        clear hout hin
        exact gs_ext (.tmp 27) 0 rfl h27 rfl (wanted_none rfl) rfl
      · intro w9 hb9 fr hout hin
        have h27 : fr.tmps.getD 27 undef = .tuple #[.int .u64 (x : Nat), .bool false] := hin 27 (by decide) (by decide)
        clear hout hin
        exact gs_ext (.tmp 27) 1 rfl h27 rfl (wanted_none rfl) rfl
      · intro w9 hb9 fr hout hin
        have h32 : fr.tmps.getD 32 undef = .int .u64 (x : Nat) := hin 32 (by decide) (by decide)
        clear hout hin
        exact relStep_assign (.tmp 32) rfl (wanted_none rfl) (by show fr.tmps.getD 32 undef = _; rw [h32])
      · intro w9 hb9 fr hout hin
        have h33 : fr.tmps.getD 33 undef = .bool false := hin 33 (by decide) (by decide)
        clear hout hin
        exact relStep_assign (.tmp 33) rfl (wanted_none rfl) (by show fr.tmps.getD 33 undef = _; rw [h33])
    intro X4 hbn
    refine relAsk_in (by rfl) ?_
    intro v28 h28
    obtain rfl : v28 = .agg (RulesK g (kf g)) := h28
    refine relAsk_in (by rfl) ?_
    intro v29 h29
    obtain rfl : v29 = .int .u64 (left : Nat) := h29
    refine relAsk_in (by rfl) ?_
    intro v30 h30
    obtain rfl : v30 = W a := h30
    refine relAsk_in (by rfl) ?_
    intro v31 h31
    obtain rfl : v31 = .tuple #[.int .u64 (x : Nat), .bool false] := h31
    refine relAsk_in (by rfl) ?_
    intro v27 h27
    obtain rfl : v27 = .tuple #[.int .u64 (x : Nat), .bool false] := h27
    refine relAsk_in (by rfl) ?_
    intro v32 h32
    obtain rfl : v32 = .int .u64 (x : Nat) := h32
    refine relAsk_in (by rfl) ?_
    intro v33 h33
    obtain rfl : v33 = .bool false := h33
    refine relAsk_in (by rfl) ?_
    intro v9 h9
    obtain rfl : v9 = .int .u64 (x : Nat) := h9
    refine relAsk_in (by rfl) ?_
    intro v10 h10
    obtain rfl : v10 = .bool false := h10
    refine relAsk_nil ?_
    refine wpList_nil ?_
    replace HR := Lib.hid (HR.out.below hbn HR.out.lt)
    replace HA := Lib.hid (HA.out.below hbn HA.out.lt)
    have HB2 := Lib.hid (HB.out.trans (hbn.mono HB.out.size))
    replace HB := HB2
    clear hbn
    go_simp
    clear KP1 KP2
    go_upto_region 5 with (fail)
    refine wp_region_see 32 [34, 35, 36, 37, 38, 39, 40, 41, 42, 43, 44, 45, 46, 47, 48, 49, 50, 51, 52, 53, 54, 55, 56, 57, 58, 59, 60, 61, 62, 63, 64, 2] [(34, .is (.int .u64 (x : Nat))), (35, .is (.int .u64 (x : Nat))), (36, .is (.bool true)), (37, .is (.bool true)), (38, .is (.bool false)), (39, .is (.bool false)), (40, .is (.bool true)), (41, .is (.bool true)), (42, .is (.bool true)), (43, .is (.bool false)), (44, .is (.bool true)), (45, .is (.bool true)), (46, .is (undef)), (47, .is (undef)), (48, .is (undef)), (49, .is (.bool true)), (50, .is (.bool true)), (51, .is (.bool true)), (52, .is (.agg (RulesK g (kf g)))), (53, .is (.int .u64 (left : Nat))), (54, .is (.int .u64 (refund : Nat))), (55, .is (.int .u64 (z : Nat))), (56, .is (.agg (RulesK g (kf g)))), (57, .is (.int .u64 (left : Nat))), (58, .is (.int .u64 (refund : Nat))), (59, .is (.int .u64 (z : Nat))), (60, .is (.bool true)), (61, .is (.bool true)), (62, .is (.bool true)), (63, .is (.bool true)), (64, .is (.bool true)), (2, .is (.bool true))] (by kernel_rfl) (by kernel_rfl) (by rfl) ?_ ?_
    · refine seeOps_cons ?_ (seeOps_cons ?_ (seeOps_cons ?_ (seeOps_cons ?_ (seeOps_cons ?_ (seeOps_cons ?_ (seeOps_cons ?_ (seeOps_cons ?_ (seeOps_cons ?_ (seeOps_cons ?_ (seeOps_cons ?_ (seeOps_cons ?_ (seeOps_cons ?_ (seeOps_cons ?_ (seeOps_cons ?_ (seeOps_cons ?_ (seeOps_cons ?_ (seeOps_cons ?_ (seeOps_cons ?_ (seeOps_cons ?_ (seeOps_cons ?_ (seeOps_cons ?_ (seeOps_cons ?_ (seeOps_cons ?_ (seeOps_cons ?_ (seeOps_cons ?_ (seeOps_cons ?_ (seeOps_cons ?_ (seeOps_cons ?_ (seeOps_cons ?_ (seeOps_cons ?_ (seeOps_cons ?_ seeOps_nil)))))))))))))))))))))))))))))))
      · intro w9 hb9 fr hout hin
        have h7 : fr.tmps.getD 7 undef = .int .u64 (x : Nat) := hout 7 (by decide)
        clear hout hin
        exact relStep_move (.tmp 7) rfl (wanted_none rfl) (by show fr.tmps.getD 7 undef = _; rw [h7])
      · intro w9 hb9 fr hout hin
        have h9 : fr.tmps.getD 9 undef = .int .u64 (x : Nat) := hout 9 (by decide)
        clear hout hin
        exact relStep_move (.tmp 9) rfl (wanted_none rfl) (by show fr.tmps.getD 9 undef = _; rw [h9])
      · intro w9 hb9 fr hout hin
        have h34 : fr.tmps.getD 34 undef = .int .u64 (x : Nat) := hin 34 (by decide) (by decide)
        have h35 : fr.tmps.getD 35 undef = .int .u64 (x : Nat) := hin 35 (by decide) (by decide)
        clear hout hin
        exact op_eqU (.tmp 34) (.tmp 35) _ rfl h34 h35 (wanted_none rfl) rfl
      · intro w9 hb9 fr hout hin
        have h36 : fr.tmps.getD 36 undef = .bool true := hin 36 (by decide) (by decide)
        clear hout hin
        exact relStep_move (.tmp 36) rfl (wanted_none rfl) (by show fr.tmps.getD 36 undef = _; rw [h36])
      · intro w9 hb9 fr hout hin
        have h8 : fr.tmps.getD 8 undef = .bool false := hout 8 (by decide)
        have h37 : fr.tmps.getD 37 undef = .bool true := hin 37 (by decide) (by decide)
        clear hout hin
        exact relStep_move (.tmp 8) rfl (wanted_some (g := 3) (t := 37) (b := true) rfl rfl h37) (by show fr.tmps.getD 8 undef = _; rw [h8])
      · intro w9 hb9 fr hout hin
        have h10 : fr.tmps.getD 10 undef = .bool false := hout 10 (by decide)
        have h37 : fr.tmps.getD 37 undef = .bool true := hin 37 (by decide) (by decide)
        clear hout hin
        exact relStep_move (.tmp 10) rfl (wanted_some (g := 3) (t := 37) (b := true) rfl rfl h37) (by show fr.tmps.getD 10 undef = _; rw [h10])
      · intro w9 hb9 fr hout hin
        have h38 : fr.tmps.getD 38 undef = .bool false := hin 38 (by decide) (by decide)
        have h39 : fr.tmps.getD 39 undef = .bool false := hin 39 (by decide) (by decide)
        have h37 : fr.tmps.getD 37 undef = .bool true := hin 37 (by decide) (by decide)
        clear hout hin
        exact op_eqB (.tmp 38) (.tmp 39) _ rfl h38 h39 (wanted_some (g := 3) (t := 37) (b := true) rfl rfl h37) rfl
      · intro w9 hb9 fr hout hin
        have h37 : fr.tmps.getD 37 undef = .bool true := hin 37 (by decide) (by decide)
        have h40 : fr.tmps.getD 40 undef = .bool true := hin 40 (by decide) (by decide)
        clear hout hin
        exact relStep_pick (.tmp 37) (.tmp 40) (.const (.bool false)) rfl h37 (wanted_none rfl) (by show fr.tmps.getD 40 undef = _; rw [h40])
      · intro w9 hb9 fr hout hin
        have h41 : fr.tmps.getD 41 undef = .bool true := hin 41 (by decide) (by decide)
        clear hout hin
        exact relStep_move (.tmp 41) rfl (wanted_none rfl) (by show fr.tmps.getD 41 undef = _; rw [h41])
      · intro w9 hb9 fr hout hin
        have h8 : fr.tmps.getD 8 undef = .bool false := hout 8 (by decide)
        have h42 : fr.tmps.getD 42 undef = .bool true := hin 42 (by decide) (by decide)
        clear hout hin
        exact relStep_move (.tmp 8) rfl (wanted_some (g := 8) (t := 42) (b := true) rfl rfl h42) (by show fr.tmps.getD 8 undef = _; rw [h8])
      · intro w9 hb9 fr hout hin
        have h43 : fr.tmps.getD 43 undef = .bool false := hin 43 (by decide) (by decide)
        have h42 : fr.tmps.getD 42 undef = .bool true := hin 42 (by decide) (by decide)
        clear hout hin
        exact gs_not (b := false) (.tmp 43) _ rfl h43 (wanted_some (g := 8) (t := 42) (b := true) rfl rfl h42) rfl
      · intro w9 hb9 fr hout hin
        have h44 : fr.tmps.getD 44 undef = .bool true := hin 44 (by decide) (by decide)
        have h42 : fr.tmps.getD 42 undef = .bool true := hin 42 (by decide) (by decide)
        clear hout hin
        exact relStep_move (.tmp 44) rfl (wanted_some (g := 8) (t := 42) (b := true) rfl rfl h42) (by show fr.tmps.getD 44 undef = _; rw [h44])
      · intro w9 hb9 fr hout hin
        have h45 : fr.tmps.getD 45 undef = .bool true := hin 45 (by decide) (by decide)
        clear hout hin
        exact relStep_skip (gs_wanted_not (g := 11) (t := 45) (b := false) (c := true) rfl rfl h45 rfl) rfl
      · intro w9 hb9 fr hout hin
        have h45 : fr.tmps.getD 45 undef = .bool true := hin 45 (by decide) (by decide)
        clear hout hin
        exact relStep_skip (gs_wanted_not (g := 11) (t := 45) (b := false) (c := true) rfl rfl h45 rfl) rfl
      · intro w9 hb9 fr hout hin
        have h45 : fr.tmps.getD 45 undef = .bool true := hin 45 (by decide) (by decide)
        clear hout hin
        exact relStep_skip (gs_wanted_not (g := 11) (t := 45) (b := false) (c := true) rfl rfl h45 rfl) rfl
      · intro w9 hb9 fr hout hin
        have h45 : fr.tmps.getD 45 undef = .bool true := hin 45 (by decide) (by decide)
        have h42 : fr.tmps.getD 42 undef = .bool true := hin 42 (by decide) (by decide)
        clear hout hin
        exact relStep_pick (.tmp 45) (.const (.bool true)) (.tmp 48) rfl h45 (wanted_some (g := 8) (t := 42) (b := true) rfl rfl h42) rfl
      · intro w9 hb9 fr hout hin
        have h42 : fr.tmps.getD 42 undef = .bool true := hin 42 (by decide) (by decide)
        have h49 : fr.tmps.getD 49 undef = .bool true := hin 49 (by decide) (by decide)
        clear hout hin
        exact relStep_pick (.tmp 42) (.tmp 49) (.const (.bool false)) rfl h42 (wanted_none rfl) (by show fr.tmps.getD 49 undef = _; rw [h49])
      · intro w9 hb9 fr hout hin
        have h50 : fr.tmps.getD 50 undef = .bool true := hin 50 (by decide) (by decide)
        clear hout hin
        exact relStep_move (.tmp 50) rfl (wanted_none rfl) (by show fr.tmps.getD 50 undef = _; rw [h50])
      · intro w9 hb9 fr hout hin
        have h6 : fr.tmps.getD 6 undef = .pointer (some ⟨w1.heap.size, 0, none⟩) := hout 6 (by decide)
        have h51 : fr.tmps.getD 51 undef = .bool true := hin 51 (by decide) (by decide)
        clear hout hin
        exact gs_loadAt (.tmp 6) rfl h6 (HR.out.below hb9 HR.out.lt).load (wanted_some (g := 17) (t := 51) (b := true) rfl rfl h51) rfl
      · intro w9 hb9 fr hout hin
        have h3 : fr.tmps.getD 3 undef = .int .u64 (left : Nat) := hout 3 (by decide)
        have h51 : fr.tmps.getD 51 undef = .bool true := hin 51 (by decide) (by decide)
        clear hout hin
        exact relStep_move (.tmp 3) rfl (wanted_some (g := 17) (t := 51) (b := true) rfl rfl h51) (by show fr.tmps.getD 3 undef = _; rw [h3])
      · intro w9 hb9 fr hout hin
        have h5 : fr.tmps.getD 5 undef = .int .u64 (refund : Nat) := hout 5 (by decide)
        have h51 : fr.tmps.getD 51 undef = .bool true := hin 51 (by decide) (by decide)
        clear hout hin
        exact relStep_move (.tmp 5) rfl (wanted_some (g := 17) (t := 51) (b := true) rfl rfl h51) (by show fr.tmps.getD 5 undef = _; rw [h5])
      · intro w9 hb9 fr hout hin
        have h52 : fr.tmps.getD 52 undef = .agg (RulesK g (kf g)) := hin 52 (by decide) (by decide)
        have h53 : fr.tmps.getD 53 undef = .int .u64 (left : Nat) := hin 53 (by decide) (by decide)
        have h54 : fr.tmps.getD 54 undef = .int .u64 (refund : Nat) := hin 54 (by decide) (by decide)
        have h51 : fr.tmps.getD 51 undef = .bool true := hin 51 (by decide) (by decide)
        clear hout hin
        exact gs_call3 (.tmp 52) (.tmp 53) (.tmp 54) rfl en_gsBack (wanted_some (g := 17) (t := 51) (b := true) rfl rfl h51) (by rw [show fr.eval (.tmp 52) = _ from h52, show fr.eval (.tmp 53) = _ from h53, show fr.eval (.tmp 54) = _ from h54]; exact (KB1.out w9).mono fun _ _ h => RetV.gs h) (fun _ _ h => h)
      · intro w9 hb9 fr hout hin
        have h6 : fr.tmps.getD 6 undef = .pointer (some ⟨w1.heap.size, 0, none⟩) := hout 6 (by decide)
        have h51 : fr.tmps.getD 51 undef = .bool true := hin 51 (by decide) (by decide)
        clear hout hin
        exact gs_loadAt (.tmp 6) rfl h6 (HR.out.below hb9 HR.out.lt).load (wanted_some (g := 17) (t := 51) (b := true) rfl rfl h51) rfl
      · intro w9 hb9 fr hout hin
        have h3 : fr.tmps.getD 3 undef = .int .u64 (left : Nat) := hout 3 (by decide)
        have h51 : fr.tmps.getD 51 undef = .bool true := hin 51 (by decide) (by decide)
        clear hout hin
        exact relStep_move (.tmp 3) rfl (wanted_some (g := 17) (t := 51) (b := true) rfl rfl h51) (by show fr.tmps.getD 3 undef = _; rw [h3])
      · intro w9 hb9 fr hout hin
        have h5 : fr.tmps.getD 5 undef = .int .u64 (refund : Nat) := hout 5 (by decide)
        have h51 : fr.tmps.getD 51 undef = .bool true := hin 51 (by decide) (by decide)
        clear hout hin
        exact relStep_move (.tmp 5) rfl (wanted_some (g := 17) (t := 51) (b := true) rfl rfl h51) (by show fr.tmps.getD 5 undef = _; rw [h5])
      · intro w9 hb9 fr hout hin
        have h56 : fr.tmps.getD 56 undef = .agg (RulesK g (kf g)) := hin 56 (by decide) (by decide)
        have h57 : fr.tmps.getD 57 undef = .int .u64 (left : Nat) := hin 57 (by decide) (by decide)
        have h58 : fr.tmps.getD 58 undef = .int .u64 (refund : Nat) := hin 58 (by decide) (by decide)
        have h51 : fr.tmps.getD 51 undef = .bool true := hin 51 (by decide) (by decide)
        clear hout hin
        exact gs_call3 (.tmp 56) (.tmp 57) (.tmp 58) rfl en_rBack (wanted_some (g := 17) (t := 51) (b := true) rfl rfl h51) (by rw [show fr.eval (.tmp 56) = _ from h56, show fr.eval (.tmp 57) = _ from h57, show fr.eval (.tmp 58) = _ from h58]; exact (KB2.out w9).mono fun _ _ h => RetV.gs h) (fun _ _ h => h)
      · intro w9 hb9 fr hout hin
        have h55 : fr.tmps.getD 55 undef = .int .u64 (z : Nat) := hin 55 (by decide) (by decide)
        have h59 : fr.tmps.getD 59 undef = .int .u64 (z : Nat) := hin 59 (by decide) (by decide)
        have h51 : fr.tmps.getD 51 undef = .bool true := hin 51 (by decide) (by decide)
        clear hout hin
        exact op_eqU (.tmp 55) (.tmp 59) _ rfl h55 h59 (wanted_some (g := 17) (t := 51) (b := true) rfl rfl h51) rfl
      · intro w9 hb9 fr hout hin
        have h51 : fr.tmps.getD 51 undef = .bool true := hin 51 (by decide) (by decide)
        have h60 : fr.tmps.getD 60 undef = .bool true := hin 60 (by decide) (by decide)
        clear hout hin
        exact relStep_pick (.tmp 51) (.tmp 60) (.const (.bool false)) rfl h51 (wanted_none rfl) (by show fr.tmps.getD 60 undef = _; rw [h60])
      · intro w9 hb9 fr hout hin
        have h61 : fr.tmps.getD 61 undef = .bool true := hin 61 (by decide) (by decide)
        clear hout hin
        exact relStep_move (.tmp 61) rfl (wanted_none rfl) (by show fr.tmps.getD 61 undef = _; rw [h61])
      · intro w9 hb9 fr hout hin
        have h62 : fr.tmps.getD 62 undef = .bool true := hin 62 (by decide) (by decide)
        clear hout hin
        exact gs_call0 rfl en_gsWakes (wanted_some (g := 28) (t := 62) (b := true) rfl rfl h62) (by exact (gswakes_c w9).mono fun _ _ h => RetV.gs h) (fun _ _ h => h)
      · intro w9 hb9 fr hout hin
        have h62 : fr.tmps.getD 62 undef = .bool true := hin 62 (by decide) (by decide)
        have h63 : fr.tmps.getD 63 undef = .bool true := hin 63 (by decide) (by decide)
        clear hout hin
        exact relStep_pick (.tmp 62) (.tmp 63) (.const (.bool false)) rfl h62 (wanted_none rfl) (by show fr.tmps.getD 63 undef = _; rw [h63])
      · intro w9 hb9 fr hout hin
        have h64 : fr.tmps.getD 64 undef = .bool true := hin 64 (by decide) (by decide)
        clear hout hin
        exact relStep_assign (.tmp 64) rfl (wanted_none rfl) (by show fr.tmps.getD 64 undef = _; rw [h64])
    intro X5 hb9
    refine relAsk_in (by rfl) ?_
    intro v34 h34
    obtain rfl : v34 = .int .u64 (x : Nat) := h34
    refine relAsk_in (by rfl) ?_
    intro v35 h35
    obtain rfl : v35 = .int .u64 (x : Nat) := h35
    refine relAsk_in (by rfl) ?_
    intro v36 h36
    obtain rfl : v36 = .bool true := h36
    refine relAsk_in (by rfl) ?_
    intro v37 h37
    obtain rfl : v37 = .bool true := h37
    refine relAsk_in (by rfl) ?_
    intro v38 h38
    obtain rfl : v38 = .bool false := h38
    refine relAsk_in (by rfl) ?_
    intro v39 h39
    obtain rfl : v39 = .bool false := h39
    refine relAsk_in (by rfl) ?_
    intro v40 h40
    obtain rfl : v40 = .bool true := h40
    refine relAsk_in (by rfl) ?_
    intro v41 h41
    obtain rfl : v41 = .bool true := h41
    refine relAsk_in (by rfl) ?_
    intro v42 h42
    obtain rfl : v42 = .bool true := h42
    refine relAsk_in (by rfl) ?_
    intro v43 h43
    obtain rfl : v43 = .bool false := h43
    refine relAsk_in (by rfl) ?_
    intro v44 h44
    obtain rfl : v44 = .bool true := h44
    refine relAsk_in (by rfl) ?_
    intro v45 h45
    obtain rfl : v45 = .bool true := h45
    refine relAsk_in (by rfl) ?_
    intro v46 h46
    obtain rfl : v46 = undef := h46
    refine relAsk_in (by rfl) ?_
    intro v47 h47
    obtain rfl : v47 = undef := h47
    refine relAsk_in (by rfl) ?_
    intro v48 h48
    obtain rfl : v48 = undef := h48
    refine relAsk_in (by rfl) ?_
    intro v49 h49
    obtain rfl : v49 = .bool true := h49
    refine relAsk_in (by rfl) ?_
    intro v50 h50
    obtain rfl : v50 = .bool true := h50
    refine relAsk_in (by rfl) ?_
    intro v51 h51
    obtain rfl : v51 = .bool true := h51
    refine relAsk_in (by rfl) ?_
    intro v52 h52
    obtain rfl : v52 = .agg (RulesK g (kf g)) := h52
    refine relAsk_in (by rfl) ?_
    intro v53 h53
    obtain rfl : v53 = .int .u64 (left : Nat) := h53
    refine relAsk_in (by rfl) ?_
    intro v54 h54
    obtain rfl : v54 = .int .u64 (refund : Nat) := h54
    refine relAsk_in (by rfl) ?_
    intro v55 h55
    obtain rfl : v55 = .int .u64 (z : Nat) := h55
    refine relAsk_in (by rfl) ?_
    intro v56 h56
    obtain rfl : v56 = .agg (RulesK g (kf g)) := h56
    refine relAsk_in (by rfl) ?_
    intro v57 h57
    obtain rfl : v57 = .int .u64 (left : Nat) := h57
    refine relAsk_in (by rfl) ?_
    intro v58 h58
    obtain rfl : v58 = .int .u64 (refund : Nat) := h58
    refine relAsk_in (by rfl) ?_
    intro v59 h59
    obtain rfl : v59 = .int .u64 (z : Nat) := h59
    refine relAsk_in (by rfl) ?_
    intro v60 h60
    obtain rfl : v60 = .bool true := h60
    refine relAsk_in (by rfl) ?_
    intro v61 h61
    obtain rfl : v61 = .bool true := h61
    refine relAsk_in (by rfl) ?_
    intro v62 h62
    obtain rfl : v62 = .bool true := h62
    refine relAsk_in (by rfl) ?_
    intro v63 h63
    obtain rfl : v63 = .bool true := h63
    refine relAsk_in (by rfl) ?_
    intro v64 h64
    obtain rfl : v64 = .bool true := h64
    refine relAsk_in (by rfl) ?_
    intro v2 h2
    obtain rfl : v2 = .bool true := h2
    refine relAsk_nil ?_
    refine wpList_nil ?_
    go_simp
    have HB9 := Lib.hid (HB.out.trans (hb9.mono HB.out.size))
    go_wp2_with fail
    go_ret
    exact ⟨rfl, HB9.out⟩
end Go.Proofs.Ytiflfcdegpmhnaa
