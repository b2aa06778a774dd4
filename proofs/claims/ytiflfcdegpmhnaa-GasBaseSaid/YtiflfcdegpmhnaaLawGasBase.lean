/- The law GasBase. (Written by wip/gengsbaselaw.py.) -/
import Derived.Test.YtiflfcdegpmhnaaGsWakes
namespace Go.Proofs.Ytiflfcdegpmhnaa
open Go.RowKit

theorem en_gsWords (args : Array Value) (w : World) : (callFunc 11 args).run Try.prog w = .ok (.enter 11 args) w := by go_simp
theorem en_rWords (args : Array Value) (w : World) : (callFunc 12 args).run Try.prog w = .ok (.enter 12 args) w := by go_simp
theorem en_gsLog (args : Array Value) (w : World) : (callFunc 13 args).run Try.prog w = .ok (.enter 13 args) w := by go_simp
theorem en_rLog (args : Array Value) (w : World) : (callFunc 14 args).run Try.prog w = .ok (.enter 14 args) w := by go_simp
theorem wordsV_form (a e : Nat) : ∃ (x : Int) (b : Bool), wordsV a e = .tuple #[.int .u64 x, .bool b] := by unfold wordsV; split <;> exact ⟨_, _, rfl⟩
theorem logV_form (a e : Nat) : ∃ (x : Int) (b : Bool), logV a e = .tuple #[.int .u64 x, .bool b] := by unfold logV; split <;> exact ⟨_, _, rfl⟩
theorem and7 (op : Int) : ∃ q : Nat, q ≤ 7 ∧ bits .and .i64 op 7 = (q : Int) := by
  refine ⟨(BitVec.ofInt 64 op).toNat % 8, by omega, ?_⟩
  have h7 : (BitVec.ofInt 64 7).toNat = 7 := by decide
  show IntKind.i64.wrap ((BitVec.ofInt 64 op &&& BitVec.ofInt 64 7).toNat : Int) = _
  rw [BitVec.toNat_and, h7, show (7 : Nat) = 2 ^ 3 - 1 from rfl, Nat.and_two_pow_sub_one_eq_mod]
  exact IntWalk.i64_in _ (by omega)

set_option maxRecDepth 100000 in
set_option maxHeartbeats 12800000 in
theorem gasBase_c (w : World) (f : Int) (hf0 : -9223372036854775808 ≤ f) (hf1 : f < 9223372036854775808) (op : Int) (_ : -9223372036854775808 ≤ op) (_ : op < 9223372036854775808) (a : Nat) (ha : Big a) : Calls Try.prog 3 #[.int .i64 f, .int .i64 op, W a] w (RetV (.bool true) w) := by
  obtain ⟨q7, hq7, hand⟩ := and7 op
  obtain ⟨e, he⟩ : ∃ e, e = q7 % 7 := ⟨_, rfl⟩
  have he6 : e ≤ 6 := by omega
  have d1 : IntKind.u64.wrap (q7 : Int) = (q7 : Int) := by rw [IntKind.wrap_u64]; omega
  have d2 : (q7 : Int).tmod 7 = (e : Int) := by rw [Int.tmod_eq_emod_of_nonneg (by omega)]; omega
  have d3 : (q7 : Int) % 7 = (e : Int) := by omega
  have d4 : IntKind.u64.wrap (e : Int) = (e : Int) := by rw [IntKind.wrap_u64]; omega
  have t0 : (op.tmod 5 = op % 5 ∧ 0 ≤ op) ∨ (op.tmod 5 = op % 5 - 5 ∧ op.tmod 5 < 0) ∨ (op.tmod 5 = 0 ∧ op % 5 = 0) := by
    have := Int.tmod_eq_emod (a := op) (b := 5)
    split at this
    · rename_i h; rcases h with h | h
      · exact .inl ⟨by omega, h⟩
      · exact .inr (.inr ⟨by omega, by omega⟩)
    · right; left; constructor <;> omega
  obtain ⟨t, ht⟩ : ∃ t, t = (op % 5).toNat := ⟨_, rfl⟩
  have ht2 : (t : Int) = op % 5 := by omega
  have ht4 : t ≤ 4 := by omega
  obtain ⟨m, hm⟩ : ∃ m, m = op.tmod 5 := ⟨_, rfl⟩
  have t1 : IntKind.i64.wrap (m + 5) = m + 5 := IntWalk.i64_in _ (by omega)
  have t3 : IntKind.i64.wrap m = m := IntWalk.i64_in _ (by omega)
  have t2 : (m + 5).tmod 5 = (t : Int) := by rw [Int.tmod_eq_emod_of_nonneg (by omega)]; omega
  have t4 : (m + 5) % 5 = (t : Int) := by omega
  obtain ⟨s, hs⟩ : ∃ s, s = m + 5 := ⟨_, rfl⟩
  rw [← hs] at t1 t2 t4
  have t5 : IntKind.i64.wrap (t : Int) = (t : Int) := IntWalk.i64_in _ (by omega)
  have hm' := hm.symm
  have hs' := hs.symm
  obtain ⟨x, b, hx⟩ := wordsV_form a e
  obtain ⟨y, c, hy⟩ := logV_form t a
  have KW1 : Hid (∀ v, Calls Try.prog 11 #[W a, .int .u64 (e : Nat)] v (RetV (.tuple #[.int .u64 x, .bool b]) v)) := fun v => by have h := gWords ha he6 v; rw [hx] at h; exact h
  have KW2 : Hid (∀ v, Calls Try.prog 12 #[W a, .int .u64 (e : Nat)] v (RetV (.tuple #[.int .u64 x, .bool b]) v)) := fun v => by have h := rwords_c ha he6 v; rw [hx] at h; exact h
  have KL1 : Hid (∀ v, Calls Try.prog 13 #[.int .i64 (t : Nat), W a] v (RetV (.tuple #[.int .u64 y, .bool c]) v)) := fun v => by have h := gLog ha ht4 v; rw [hy] at h; exact h
  have KL2 : Hid (∀ v, Calls Try.prog 14 #[.int .i64 (t : Nat), W a] v (RetV (.tuple #[.int .u64 y, .bool c]) v)) := fun v => by have h := rlog_c ha ht4 v; rw [hy] at h; exact h
  have hg0 : 0 ≤ f % 16 := by omega
  have hg1 : f % 16 ≤ 15 := by omega
  obtain ⟨z, hz⟩ : ∃ z, z = baseZ (f % 16) (kf (f % 16)) op := ⟨_, rfl⟩
  obtain ⟨q, hq⟩ : ∃ q, q = expZ (kf (f % 16) 21) a := ⟨_, rfl⟩
  have KB1 : Hid (∀ v, Calls Try.prog 15 #[.agg (RulesK (f % 16) (kf (f % 16))), .int .i64 op] v (RetV (.int .u64 z) v)) := fun v => by have h := gBase (f % 16) op hg0 hg1 v; rw [← hz] at h; exact h
  have KB2 : Hid (∀ v, Calls Try.prog 16 #[.agg (RulesK (f % 16) (kf (f % 16))), .int .i64 op] v (RetV (.int .u64 z) v)) := fun v => by have h := rbase_c (f % 16) op (kf (f % 16)) v; rw [← hz] at h; exact h
  have KE1 : Hid (∀ v, Calls Try.prog 17 #[.agg (RulesK (f % 16) (kf (f % 16))), W a] v (RetV (.int .u64 q) v)) := fun v => by have h := gExp (f % 16) hg0 hg1 ha v; rw [← hq] at h; exact h
  have KE2 : Hid (∀ v, Calls Try.prog 18 #[.agg (RulesK (f % 16) (kf (f % 16))), W a] v (RetV (.int .u64 q) v)) := fun v => by have h := rexp_c (f % 16) (kf (f % 16)) ha v; rw [← hq] at h; exact h
  have hA := Arr.new4 w 24 (lim 0 a) (lim 1 a) (lim 2 a) (lim 3 a)
  have hB := (Below.refl w.heap.size w).alloc (Nat.le_refl _) (.cells #[.int .u64 (lim 0 a : Nat), .int .u64 (lim 1 a : Nat), .int .u64 (lim 2 a : Nat), .int .u64 (lim 3 a : Nat)] 24)
  clear hq7 he he6 t0 ht ht2 ht4 hm hs hx hy hg0 hg1 hz hq ha
  have HF : Hid (-9223372036854775808 ≤ f ∧ f < 9223372036854775808) := ⟨hf0, hf1⟩
  clear hf0 hf1
  go_enter Try.func3, Try.ntmps3
  go_upto_region 1 with (fail)
  generalize w.alloc (.cells #[.int .u64 (lim 0 a : Nat), .int .u64 (lim 1 a : Nat), .int .u64 (lim 2 a : Nat), .int .u64 (lim 3 a : Nat)] 24) = X at *
  have HA0 := Lib.hid hA
  have HB0 := Lib.hid hB
  clear hA hB
  go_wp2_with fail
  rename_i KK hKK
  (with_reducible refine (rules_c f _).mono ?_)
  rintro e1 w1 ⟨rfl, hb1⟩
  have HB1 := Lib.hid (HB0.out.trans (hb1.mono HB0.out.size))
  have HA1 := Lib.hid (HA0.out.below hb1 HA0.out.lt)
  clear hb1
  show KK _ _
  refine hKK _ _ ?_
  clear hKK KK
  refine wpList_plain rfl fun K hK => ?_; go_simp; refine hK _ _ ?_; clear hK K
  have hg : (w1.alloc (.cells RulesZ 26)).heap[w1.heap.size]? = some (.cells RulesZ 26 (0, 0)) := heap_alloc_new w1 _
  have hb2 := HB1.out.alloc HB1.out.size (.cells RulesZ 26)
  refine wpList_store_row rfl 26 (.tmp 7) (.tmp 19) rfl w1.heap.size (RulesK (f % 16) (kf (f % 16))) rfl rfl 26 RulesZ hg infoRules rfl (rulesK_one _ _) ?_
  have hR : RulesAt ((w1.alloc (.cells RulesZ 26)).setRow w1.heap.size (RulesK (f % 16) (kf (f % 16)))) w1.heap.size (f % 16) (kf (f % 16)) := setRow_heap _ _ _ _ _ _ hg
  have hb3 := below_setRow hb2 HB1.out.size (RulesK (f % 16) (kf (f % 16)))
  have hk1 : Below w1.heap.size w1 ((w1.alloc (.cells RulesZ 26)).setRow w1.heap.size (RulesK (f % 16) (kf (f % 16)))) := below_setRow ((Below.refl _ _).alloc (Nat.le_refl _) _) (Nat.le_refl _) _
  show wpList _ _ _ _ _ ((w1.alloc (.cells RulesZ 26)).setRow w1.heap.size (RulesK (f % 16) (kf (f % 16))))
  generalize (w1.alloc (.cells RulesZ 26)).setRow w1.heap.size (RulesK (f % 16) (kf (f % 16))) = Y at *
  have HR := Lib.hid hR
  have HB2 := Lib.hid hb3
  have HA := Lib.hid (HA1.out.below hk1 HA1.out.lt)
  clear hg hb2 hR hb3 hk1
  refine wpList_nil ?_
  go_simp
  clear HA0 HA1 HB0 HB1
  have HB := HB2
  clear HB2
  generalize f % 16 = g at *
  go_upto_region 3 with (fail)
  clear d1 d2 d3 d4 hand
  refine wp_region_seq 8 [25, 26, 27, 24, 28, 29, 9, 10] [(25, .is (W a)), (26, .is (.int .u64 (e : Nat))), (27, .is (.tuple #[.int .u64 x, .bool b])), (24, .is (.tuple #[.int .u64 x, .bool b])), (28, .is (.int .u64 x)), (29, .is (.bool b)), (9, .is (.int .u64 x)), (10, .is (.bool b))] (by kernel_rfl) (by rfl) ?_ ?_
  · refine seeOps_cons ?_ (seeOps_cons ?_ (seeOps_cons ?_ (seeOps_cons ?_ (seeOps_cons ?_ (seeOps_cons ?_ (seeOps_cons ?_ (seeOps_cons ?_ seeOps_nil)))))))
    · intro w9 hb9 fr hout hin
      have h5 : fr.tmps.getD 5 undef = .pointer (some ⟨w.heap.size, 0, none⟩) := hout 5 (by decide)
      clear hout hin
      exact gs_loadW (n := a) (.tmp 5) rfl h5 (HA.out.below hb9 HA.out.lt).cells4 (wanted_none rfl) rfl
    · intro w9 hb9 fr hout hin
      have h8 : fr.tmps.getD 8 undef = .int .u64 (e : Nat) := hout 8 (by decide)
      clear hout hin
      exact relStep_move (.tmp 8) rfl (wanted_none rfl) (by show fr.tmps.getD 8 undef = _; rw [h8])
    · intro w9 hb9 fr hout hin
      have h25 : fr.tmps.getD 25 undef = W a := hin 25 (by decide) (by decide)
      have h26 : fr.tmps.getD 26 undef = .int .u64 (e : Nat) := hin 26 (by decide) (by decide)
      clear hout hin
      exact gs_call2 (.tmp 25) (.tmp 26) rfl en_gsWords (wanted_none rfl) (by rw [show fr.eval (.tmp 25) = _ from h25, show fr.eval (.tmp 26) = _ from h26]; exact (KW1.out w9).mono fun _ _ h => RetV.gs h) (fun _ _ h => h)
    · intro w9 hb9 fr hout hin
      have h27 : fr.tmps.getD 27 undef = .tuple #[.int .u64 x, .bool b] := hin 27 (by decide) (by decide)
      clear hout hin
      exact relStep_move (.tmp 27) rfl (wanted_none rfl) (by show fr.tmps.getD 27 undef = _; rw [h27])
    · intro w9 hb9 fr hout hin
      have h24 : fr.tmps.getD 24 undef = .tuple #[.int .u64 x, .bool b] := hin 24 (by decide) (by decide)
      clear hout hin
      exact gs_ext (.tmp 24) 0 rfl h24 rfl (wanted_none rfl) rfl
    · intro w9 hb9 fr hout hin
      have h24 : fr.tmps.getD 24 undef = .tuple #[.int .u64 x, .bool b] := hin 24 (by decide) (by decide)
      clear hout hin
      exact gs_ext (.tmp 24) 1 rfl h24 rfl (wanted_none rfl) rfl
    · intro w9 hb9 fr hout hin
      have h28 : fr.tmps.getD 28 undef = .int .u64 x := hin 28 (by decide) (by decide)
      clear hout hin
      exact relStep_assign (.tmp 28) rfl (wanted_none rfl) (by show fr.tmps.getD 28 undef = _; rw [h28])
    · intro w9 hb9 fr hout hin
      have h29 : fr.tmps.getD 29 undef = .bool b := hin 29 (by decide) (by decide)
      clear hout hin
      exact relStep_assign (.tmp 29) rfl (wanted_none rfl) (by show fr.tmps.getD 29 undef = _; rw [h29])
  intro X3 hbn
  refine relAsk_in (by rfl) ?_
  intro v25 h25
  obtain rfl : v25 = W a := h25
  refine relAsk_in (by rfl) ?_
  intro v26 h26
  obtain rfl : v26 = .int .u64 (e : Nat) := h26
  refine relAsk_in (by rfl) ?_
  intro v27 h27
  obtain rfl : v27 = .tuple #[.int .u64 x, .bool b] := h27
  refine relAsk_in (by rfl) ?_
  intro v24 h24
  obtain rfl : v24 = .tuple #[.int .u64 x, .bool b] := h24
  refine relAsk_in (by rfl) ?_
  intro v28 h28
  obtain rfl : v28 = .int .u64 x := h28
  refine relAsk_in (by rfl) ?_
  intro v29 h29
  obtain rfl : v29 = .bool b := h29
  refine relAsk_in (by rfl) ?_
  intro v9 h9
  obtain rfl : v9 = .int .u64 x := h9
  refine relAsk_in (by rfl) ?_
  intro v10 h10
  obtain rfl : v10 = .bool b := h10
  refine relAsk_nil ?_
  refine wpList_nil ?_
  replace HR := Lib.hid (HR.out.below hbn HR.out.lt)
  replace HA := Lib.hid (HA.out.below hbn HA.out.lt)
  have HB2 := Lib.hid (HB.out.trans (hbn.mono HB.out.size))
  replace HB := HB2
  clear hbn
  go_simp
  go_upto_region 4 with (fail)
  refine wp_region_seq 8 [31, 32, 33, 30, 34, 35, 11, 12] [(31, .is (W a)), (32, .is (.int .u64 (e : Nat))), (33, .is (.tuple #[.int .u64 x, .bool b])), (30, .is (.tuple #[.int .u64 x, .bool b])), (34, .is (.int .u64 x)), (35, .is (.bool b)), (11, .is (.int .u64 x)), (12, .is (.bool b))] (by kernel_rfl) (by rfl) ?_ ?_
  · refine seeOps_cons ?_ (seeOps_cons ?_ (seeOps_cons ?_ (seeOps_cons ?_ (seeOps_cons ?_ (seeOps_cons ?_ (seeOps_cons ?_ (seeOps_cons ?_ seeOps_nil)))))))
    · intro w9 hb9 fr hout hin
      have h5 : fr.tmps.getD 5 undef = .pointer (some ⟨w.heap.size, 0, none⟩) := hout 5 (by decide)
      clear hout hin
      exact gs_loadW (n := a) (.tmp 5) rfl h5 (HA.out.below hb9 HA.out.lt).cells4 (wanted_none rfl) rfl
    · intro w9 hb9 fr hout hin
      have h8 : fr.tmps.getD 8 undef = .int .u64 (e : Nat) := hout 8 (by decide)
      clear hout hin
      exact relStep_move (.tmp 8) rfl (wanted_none rfl) (by show fr.tmps.getD 8 undef = _; rw [h8])
    · intro w9 hb9 fr hout hin
      have h31 : fr.tmps.getD 31 undef = W a := hin 31 (by decide) (by decide)
      have h32 : fr.tmps.getD 32 undef = .int .u64 (e : Nat) := hin 32 (by decide) (by decide)
      clear hout hin
      exact gs_call2 (.tmp 31) (.tmp 32) rfl en_rWords (wanted_none rfl) (by rw [show fr.eval (.tmp 31) = _ from h31, show fr.eval (.tmp 32) = _ from h32]; exact (KW2.out w9).mono fun _ _ h => RetV.gs h) (fun _ _ h => h)
    · intro w9 hb9 fr hout hin
      have h33 : fr.tmps.getD 33 undef = .tuple #[.int .u64 x, .bool b] := hin 33 (by decide) (by decide)
      clear hout hin
      exact relStep_move (.tmp 33) rfl (wanted_none rfl) (by show fr.tmps.getD 33 undef = _; rw [h33])
    · intro w9 hb9 fr hout hin
      have h30 : fr.tmps.getD 30 undef = .tuple #[.int .u64 x, .bool b] := hin 30 (by decide) (by decide)
      clear hout hin
      exact gs_ext (.tmp 30) 0 rfl h30 rfl (wanted_none rfl) rfl
    · intro w9 hb9 fr hout hin
      have h30 : fr.tmps.getD 30 undef = .tuple #[.int .u64 x, .bool b] := hin 30 (by decide) (by decide)
      clear hout hin
      exact gs_ext (.tmp 30) 1 rfl h30 rfl (wanted_none rfl) rfl
    · intro w9 hb9 fr hout hin
      have h34 : fr.tmps.getD 34 undef = .int .u64 x := hin 34 (by decide) (by decide)
      clear hout hin
      exact relStep_assign (.tmp 34) rfl (wanted_none rfl) (by show fr.tmps.getD 34 undef = _; rw [h34])
    · intro w9 hb9 fr hout hin
      have h35 : fr.tmps.getD 35 undef = .bool b := hin 35 (by decide) (by decide)
      clear hout hin
      exact relStep_assign (.tmp 35) rfl (wanted_none rfl) (by show fr.tmps.getD 35 undef = _; rw [h35])
  intro X4 hbn
  refine relAsk_in (by rfl) ?_
  intro v31 h31
  obtain rfl : v31 = W a := h31
  refine relAsk_in (by rfl) ?_
  intro v32 h32
  obtain rfl : v32 = .int .u64 (e : Nat) := h32
  refine relAsk_in (by rfl) ?_
  intro v33 h33
  obtain rfl : v33 = .tuple #[.int .u64 x, .bool b] := h33
  refine relAsk_in (by rfl) ?_
  intro v30 h30
  obtain rfl : v30 = .tuple #[.int .u64 x, .bool b] := h30
  refine relAsk_in (by rfl) ?_
  intro v34 h34
  obtain rfl : v34 = .int .u64 x := h34
  refine relAsk_in (by rfl) ?_
  intro v35 h35
  obtain rfl : v35 = .bool b := h35
  refine relAsk_in (by rfl) ?_
  intro v11 h11
  obtain rfl : v11 = .int .u64 x := h11
  refine relAsk_in (by rfl) ?_
  intro v12 h12
  obtain rfl : v12 = .bool b := h12
  refine relAsk_nil ?_
  refine wpList_nil ?_
  replace HR := Lib.hid (HR.out.below hbn HR.out.lt)
  replace HA := Lib.hid (HA.out.below hbn HA.out.lt)
  have HB2 := Lib.hid (HB.out.trans (hbn.mono HB.out.size))
  replace HB := HB2
  clear hbn
  go_simp
  clear KW1 KW2
  go_upto_region 6 with (fail)
  clear t1 t2 t3 t4 t5 hm' hs'
  refine wp_region_seq 8 [41, 42, 43, 40, 44, 45, 14, 15] [(41, .is (.int .i64 (t : Nat))), (42, .is (W a)), (43, .is (.tuple #[.int .u64 y, .bool c])), (40, .is (.tuple #[.int .u64 y, .bool c])), (44, .is (.int .u64 y)), (45, .is (.bool c)), (14, .is (.int .u64 y)), (15, .is (.bool c))] (by kernel_rfl) (by rfl) ?_ ?_
  · refine seeOps_cons ?_ (seeOps_cons ?_ (seeOps_cons ?_ (seeOps_cons ?_ (seeOps_cons ?_ (seeOps_cons ?_ (seeOps_cons ?_ (seeOps_cons ?_ seeOps_nil)))))))
    · intro w9 hb9 fr hout hin
      have h13 : fr.tmps.getD 13 undef = .int .i64 (t : Nat) := hout 13 (by decide)
      clear hout hin
      exact relStep_move (.tmp 13) rfl (wanted_none rfl) (by show fr.tmps.getD 13 undef = _; rw [h13])
    · intro w9 hb9 fr hout hin
      have h5 : fr.tmps.getD 5 undef = .pointer (some ⟨w.heap.size, 0, none⟩) := hout 5 (by decide)
      clear hout hin
      exact gs_loadW (n := a) (.tmp 5) rfl h5 (HA.out.below hb9 HA.out.lt).cells4 (wanted_none rfl) rfl
    · intro w9 hb9 fr hout hin
      have h41 : fr.tmps.getD 41 undef = .int .i64 (t : Nat) := hin 41 (by decide) (by decide)
      have h42 : fr.tmps.getD 42 undef = W a := hin 42 (by decide) (by decide)
      clear hout hin
      exact gs_call2 (.tmp 41) (.tmp 42) rfl en_gsLog (wanted_none rfl) (by rw [show fr.eval (.tmp 41) = _ from h41, show fr.eval (.tmp 42) = _ from h42]; exact (KL1.out w9).mono fun _ _ h => RetV.gs h) (fun _ _ h => h)
    · intro w9 hb9 fr hout hin
      have h43 : fr.tmps.getD 43 undef = .tuple #[.int .u64 y, .bool c] := hin 43 (by decide) (by decide)
      clear hout hin
      exact relStep_move (.tmp 43) rfl (wanted_none rfl) (by show fr.tmps.getD 43 undef = _; rw [h43])
    · intro w9 hb9 fr hout hin
      have h40 : fr.tmps.getD 40 undef = .tuple #[.int .u64 y, .bool c] := hin 40 (by decide) (by decide)
      clear hout hin
      exact gs_ext (.tmp 40) 0 rfl h40 rfl (wanted_none rfl) rfl
    · intro w9 hb9 fr hout hin
      have h40 : fr.tmps.getD 40 undef = .tuple #[.int .u64 y, .bool c] := hin 40 (by decide) (by decide)
      clear hout hin
      exact gs_ext (.tmp 40) 1 rfl h40 rfl (wanted_none rfl) rfl
    · intro w9 hb9 fr hout hin
      have h44 : fr.tmps.getD 44 undef = .int .u64 y := hin 44 (by decide) (by decide)
      clear hout hin
      exact relStep_assign (.tmp 44) rfl (wanted_none rfl) (by show fr.tmps.getD 44 undef = _; rw [h44])
    · intro w9 hb9 fr hout hin
      have h45 : fr.tmps.getD 45 undef = .bool c := hin 45 (by decide) (by decide)
      clear hout hin
      exact relStep_assign (.tmp 45) rfl (wanted_none rfl) (by show fr.tmps.getD 45 undef = _; rw [h45])
  intro X6 hbn
  refine relAsk_in (by rfl) ?_
  intro v41 h41
  obtain rfl : v41 = .int .i64 (t : Nat) := h41
  refine relAsk_in (by rfl) ?_
  intro v42 h42
  obtain rfl : v42 = W a := h42
  refine relAsk_in (by rfl) ?_
  intro v43 h43
  obtain rfl : v43 = .tuple #[.int .u64 y, .bool c] := h43
  refine relAsk_in (by rfl) ?_
  intro v40 h40
  obtain rfl : v40 = .tuple #[.int .u64 y, .bool c] := h40
  refine relAsk_in (by rfl) ?_
  intro v44 h44
  obtain rfl : v44 = .int .u64 y := h44
  refine relAsk_in (by rfl) ?_
  intro v45 h45
  obtain rfl : v45 = .bool c := h45
  refine relAsk_in (by rfl) ?_
  intro v14 h14
  obtain rfl : v14 = .int .u64 y := h14
  refine relAsk_in (by rfl) ?_
  intro v15 h15
  obtain rfl : v15 = .bool c := h15
  refine relAsk_nil ?_
  refine wpList_nil ?_
  replace HR := Lib.hid (HR.out.below hbn HR.out.lt)
  replace HA := Lib.hid (HA.out.below hbn HA.out.lt)
  have HB2 := Lib.hid (HB.out.trans (hbn.mono HB.out.size))
  replace HB := HB2
  clear hbn
  go_simp
  go_upto_region 7 with (fail)
  refine wp_region_seq 8 [47, 48, 49, 46, 50, 51, 16, 17] [(47, .is (.int .i64 (t : Nat))), (48, .is (W a)), (49, .is (.tuple #[.int .u64 y, .bool c])), (46, .is (.tuple #[.int .u64 y, .bool c])), (50, .is (.int .u64 y)), (51, .is (.bool c)), (16, .is (.int .u64 y)), (17, .is (.bool c))] (by kernel_rfl) (by rfl) ?_ ?_
  · refine seeOps_cons ?_ (seeOps_cons ?_ (seeOps_cons ?_ (seeOps_cons ?_ (seeOps_cons ?_ (seeOps_cons ?_ (seeOps_cons ?_ (seeOps_cons ?_ seeOps_nil)))))))
    · intro w9 hb9 fr hout hin
      have h13 : fr.tmps.getD 13 undef = .int .i64 (t : Nat) := hout 13 (by decide)
      clear hout hin
      exact relStep_move (.tmp 13) rfl (wanted_none rfl) (by show fr.tmps.getD 13 undef = _; rw [h13])
    · intro w9 hb9 fr hout hin
      have h5 : fr.tmps.getD 5 undef = .pointer (some ⟨w.heap.size, 0, none⟩) := hout 5 (by decide)
      clear hout hin
      exact gs_loadW (n := a) (.tmp 5) rfl h5 (HA.out.below hb9 HA.out.lt).cells4 (wanted_none rfl) rfl
    · intro w9 hb9 fr hout hin
      have h47 : fr.tmps.getD 47 undef = .int .i64 (t : Nat) := hin 47 (by decide) (by decide)
      have h48 : fr.tmps.getD 48 undef = W a := hin 48 (by decide) (by decide)
      clear hout hin
      exact gs_call2 (.tmp 47) (.tmp 48) rfl en_rLog (wanted_none rfl) (by rw [show fr.eval (.tmp 47) = _ from h47, show fr.eval (.tmp 48) = _ from h48]; exact (KL2.out w9).mono fun _ _ h => RetV.gs h) (fun _ _ h => h)
    · intro w9 hb9 fr hout hin
      have h49 : fr.tmps.getD 49 undef = .tuple #[.int .u64 y, .bool c] := hin 49 (by decide) (by decide)
      clear hout hin
      exact relStep_move (.tmp 49) rfl (wanted_none rfl) (by show fr.tmps.getD 49 undef = _; rw [h49])
    · intro w9 hb9 fr hout hin
      have h46 : fr.tmps.getD 46 undef = .tuple #[.int .u64 y, .bool c] := hin 46 (by decide) (by decide)
      clear hout hin
      exact gs_ext (.tmp 46) 0 rfl h46 rfl (wanted_none rfl) rfl
    · intro w9 hb9 fr hout hin
      have h46 : fr.tmps.getD 46 undef = .tuple #[.int .u64 y, .bool c] := hin 46 (by decide) (by decide)
      clear hout hin
      exact gs_ext (.tmp 46) 1 rfl h46 rfl (wanted_none rfl) rfl
    · intro w9 hb9 fr hout hin
      have h50 : fr.tmps.getD 50 undef = .int .u64 y := hin 50 (by decide) (by decide)
      clear hout hin
      exact relStep_assign (.tmp 50) rfl (wanted_none rfl) (by show fr.tmps.getD 50 undef = _; rw [h50])
    · intro w9 hb9 fr hout hin
      have h51 : fr.tmps.getD 51 undef = .bool c := hin 51 (by decide) (by decide)
      clear hout hin
      exact relStep_assign (.tmp 51) rfl (wanted_none rfl) (by show fr.tmps.getD 51 undef = _; rw [h51])
  intro X7 hbn
  refine relAsk_in (by rfl) ?_
  intro v47 h47
  obtain rfl : v47 = .int .i64 (t : Nat) := h47
  refine relAsk_in (by rfl) ?_
  intro v48 h48
  obtain rfl : v48 = W a := h48
  refine relAsk_in (by rfl) ?_
  intro v49 h49
  obtain rfl : v49 = .tuple #[.int .u64 y, .bool c] := h49
  refine relAsk_in (by rfl) ?_
  intro v46 h46
  obtain rfl : v46 = .tuple #[.int .u64 y, .bool c] := h46
  refine relAsk_in (by rfl) ?_
  intro v50 h50
  obtain rfl : v50 = .int .u64 y := h50
  refine relAsk_in (by rfl) ?_
  intro v51 h51
  obtain rfl : v51 = .bool c := h51
  refine relAsk_in (by rfl) ?_
  intro v16 h16
  obtain rfl : v16 = .int .u64 y := h16
  refine relAsk_in (by rfl) ?_
  intro v17 h17
  obtain rfl : v17 = .bool c := h17
  refine relAsk_nil ?_
  refine wpList_nil ?_
  replace HR := Lib.hid (HR.out.below hbn HR.out.lt)
  replace HA := Lib.hid (HA.out.below hbn HA.out.lt)
  have HB2 := Lib.hid (HB.out.trans (hbn.mono HB.out.size))
  replace HB := HB2
  clear hbn
  go_simp
  clear KL1 KL2
  go_upto_region 8 with (fail)
  refine wp_region_see 40 [52, 53, 54, 55, 56, 57, 58, 59, 60, 61, 62, 63, 64, 65, 66, 67, 68, 69, 70, 71, 72, 73, 74, 75, 76, 77, 78, 79, 80, 81, 82, 83, 84, 85, 86, 87, 88, 89, 90, 6] [(52, .is (.agg (RulesK g (kf g)))), (53, .is (.int .i64 op)), (54, .is (.int .u64 z)), (55, .is (.agg (RulesK g (kf g)))), (56, .is (.int .i64 op)), (57, .is (.int .u64 z)), (58, .is (.bool true)), (59, .is (.bool true)), (60, .is (.agg (RulesK g (kf g)))), (61, .is (W a)), (62, .is (.int .u64 q)), (63, .is (.agg (RulesK g (kf g)))), (64, .is (W a)), (65, .is (.int .u64 q)), (66, .is (.bool true)), (67, .is (.bool true)), (68, .is (.bool true)), (69, .is (.int .u64 x)), (70, .is (.int .u64 x)), (71, .is (.bool true)), (72, .is (.bool true)), (73, .is (.bool true)), (74, .is (.bool b)), (75, .is (.bool b)), (76, .is (.bool true)), (77, .is (.bool true)), (78, .is (.bool true)), (79, .is (.int .u64 y)), (80, .is (.int .u64 y)), (81, .is (.bool true)), (82, .is (.bool true)), (83, .is (.bool true)), (84, .is (.bool c)), (85, .is (.bool c)), (86, .is (.bool true)), (87, .is (.bool true)), (88, .is (.bool true)), (89, .is (.bool true)), (90, .is (.bool true)), (6, .is (.bool true))] (by kernel_rfl) (by kernel_rfl) (by rfl) ?_ ?_
  · refine seeOps_cons ?_ (seeOps_cons ?_ (seeOps_cons ?_ (seeOps_cons ?_ (seeOps_cons ?_ (seeOps_cons ?_ (seeOps_cons ?_ (seeOps_cons ?_ (seeOps_cons ?_ (seeOps_cons ?_ (seeOps_cons ?_ (seeOps_cons ?_ (seeOps_cons ?_ (seeOps_cons ?_ (seeOps_cons ?_ (seeOps_cons ?_ (seeOps_cons ?_ (seeOps_cons ?_ (seeOps_cons ?_ (seeOps_cons ?_ (seeOps_cons ?_ (seeOps_cons ?_ (seeOps_cons ?_ (seeOps_cons ?_ (seeOps_cons ?_ (seeOps_cons ?_ (seeOps_cons ?_ (seeOps_cons ?_ (seeOps_cons ?_ (seeOps_cons ?_ (seeOps_cons ?_ (seeOps_cons ?_ (seeOps_cons ?_ (seeOps_cons ?_ (seeOps_cons ?_ (seeOps_cons ?_ (seeOps_cons ?_ (seeOps_cons ?_ (seeOps_cons ?_ (seeOps_cons ?_ seeOps_nil)))))))))))))))))))))))))))))))))))))))
    · intro w9 hb9 fr hout hin
      have h7 : fr.tmps.getD 7 undef = .pointer (some ⟨w1.heap.size, 0, none⟩) := hout 7 (by decide)
      clear hout hin
      exact gs_loadAt (.tmp 7) rfl h7 (HR.out.below hb9 HR.out.lt).load (wanted_none rfl) rfl
    · intro w9 hb9 fr hout hin
      have h1 : fr.tmps.getD 1 undef = .int .i64 op := hout 1 (by decide)
      clear hout hin
      exact relStep_move (.tmp 1) rfl (wanted_none rfl) (by show fr.tmps.getD 1 undef = _; rw [h1])
    · intro w9 hb9 fr hout hin
      have h52 : fr.tmps.getD 52 undef = .agg (RulesK g (kf g)) := hin 52 (by decide) (by decide)
      have h53 : fr.tmps.getD 53 undef = .int .i64 op := hin 53 (by decide) (by decide)
      clear hout hin
      exact gs_call2 (.tmp 52) (.tmp 53) rfl en_gBase (wanted_none rfl) (by rw [show fr.eval (.tmp 52) = _ from h52, show fr.eval (.tmp 53) = _ from h53]; exact (KB1.out w9).mono fun _ _ h => RetV.gs h) (fun _ _ h => h)
    · intro w9 hb9 fr hout hin
      have h7 : fr.tmps.getD 7 undef = .pointer (some ⟨w1.heap.size, 0, none⟩) := hout 7 (by decide)
      clear hout hin
      exact gs_loadAt (.tmp 7) rfl h7 (HR.out.below hb9 HR.out.lt).load (wanted_none rfl) rfl
    · intro w9 hb9 fr hout hin
      have h1 : fr.tmps.getD 1 undef = .int .i64 op := hout 1 (by decide)
      clear hout hin
      exact relStep_move (.tmp 1) rfl (wanted_none rfl) (by show fr.tmps.getD 1 undef = _; rw [h1])
    · intro w9 hb9 fr hout hin
      have h55 : fr.tmps.getD 55 undef = .agg (RulesK g (kf g)) := hin 55 (by decide) (by decide)
      have h56 : fr.tmps.getD 56 undef = .int .i64 op := hin 56 (by decide) (by decide)
      clear hout hin
      exact gs_call2 (.tmp 55) (.tmp 56) rfl en_rBase (wanted_none rfl) (by rw [show fr.eval (.tmp 55) = _ from h55, show fr.eval (.tmp 56) = _ from h56]; exact (KB2.out w9).mono fun _ _ h => RetV.gs h) (fun _ _ h => h)
    · intro w9 hb9 fr hout hin
      have h54 : fr.tmps.getD 54 undef = .int .u64 z := hin 54 (by decide) (by decide)
      have h57 : fr.tmps.getD 57 undef = .int .u64 z := hin 57 (by decide) (by decide)
      clear hout hin
      exact op_eqU (.tmp 54) (.tmp 57) _ rfl h54 h57 (wanted_none rfl) rfl
    · intro w9 hb9 fr hout hin
      have h58 : fr.tmps.getD 58 undef = .bool true := hin 58 (by decide) (by decide)
      clear hout hin
      exact relStep_move (.tmp 58) rfl (wanted_none rfl) (by show fr.tmps.getD 58 undef = _; rw [h58])
    · intro w9 hb9 fr hout hin
      have h7 : fr.tmps.getD 7 undef = .pointer (some ⟨w1.heap.size, 0, none⟩) := hout 7 (by decide)
      have h59 : fr.tmps.getD 59 undef = .bool true := hin 59 (by decide) (by decide)
      clear hout hin
      exact gs_loadAt (.tmp 7) rfl h7 (HR.out.below hb9 HR.out.lt).load (wanted_some (g := 7) (t := 59) (b := true) rfl rfl h59) rfl
    · intro w9 hb9 fr hout hin
      have h5 : fr.tmps.getD 5 undef = .pointer (some ⟨w.heap.size, 0, none⟩) := hout 5 (by decide)
      have h59 : fr.tmps.getD 59 undef = .bool true := hin 59 (by decide) (by decide)
      clear hout hin
      exact gs_loadW (n := a) (.tmp 5) rfl h5 (HA.out.below hb9 HA.out.lt).cells4 (wanted_some (g := 7) (t := 59) (b := true) rfl rfl h59) rfl
    · intro w9 hb9 fr hout hin
      have h60 : fr.tmps.getD 60 undef = .agg (RulesK g (kf g)) := hin 60 (by decide) (by decide)
      have h61 : fr.tmps.getD 61 undef = W a := hin 61 (by decide) (by decide)
      have h59 : fr.tmps.getD 59 undef = .bool true := hin 59 (by decide) (by decide)
      clear hout hin
      exact gs_call2 (.tmp 60) (.tmp 61) rfl en_gExp (wanted_some (g := 7) (t := 59) (b := true) rfl rfl h59) (by rw [show fr.eval (.tmp 60) = _ from h60, show fr.eval (.tmp 61) = _ from h61]; exact (KE1.out w9).mono fun _ _ h => RetV.gs h) (fun _ _ h => h)
    · intro w9 hb9 fr hout hin
      have h7 : fr.tmps.getD 7 undef = .pointer (some ⟨w1.heap.size, 0, none⟩) := hout 7 (by decide)
      have h59 : fr.tmps.getD 59 undef = .bool true := hin 59 (by decide) (by decide)
      clear hout hin
      exact gs_loadAt (.tmp 7) rfl h7 (HR.out.below hb9 HR.out.lt).load (wanted_some (g := 7) (t := 59) (b := true) rfl rfl h59) rfl
    · intro w9 hb9 fr hout hin
      have h5 : fr.tmps.getD 5 undef = .pointer (some ⟨w.heap.size, 0, none⟩) := hout 5 (by decide)
      have h59 : fr.tmps.getD 59 undef = .bool true := hin 59 (by decide) (by decide)
      clear hout hin
      exact gs_loadW (n := a) (.tmp 5) rfl h5 (HA.out.below hb9 HA.out.lt).cells4 (wanted_some (g := 7) (t := 59) (b := true) rfl rfl h59) rfl
    · intro w9 hb9 fr hout hin
      have h63 : fr.tmps.getD 63 undef = .agg (RulesK g (kf g)) := hin 63 (by decide) (by decide)
      have h64 : fr.tmps.getD 64 undef = W a := hin 64 (by decide) (by decide)
      have h59 : fr.tmps.getD 59 undef = .bool true := hin 59 (by decide) (by decide)
      clear hout hin
      exact gs_call2 (.tmp 63) (.tmp 64) rfl en_rExp (wanted_some (g := 7) (t := 59) (b := true) rfl rfl h59) (by rw [show fr.eval (.tmp 63) = _ from h63, show fr.eval (.tmp 64) = _ from h64]; exact (KE2.out w9).mono fun _ _ h => RetV.gs h) (fun _ _ h => h)
    · intro w9 hb9 fr hout hin
      have h62 : fr.tmps.getD 62 undef = .int .u64 q := hin 62 (by decide) (by decide)
      have h65 : fr.tmps.getD 65 undef = .int .u64 q := hin 65 (by decide) (by decide)
      have h59 : fr.tmps.getD 59 undef = .bool true := hin 59 (by decide) (by decide)
      clear hout hin
      exact op_eqU (.tmp 62) (.tmp 65) _ rfl h62 h65 (wanted_some (g := 7) (t := 59) (b := true) rfl rfl h59) rfl
    · intro w9 hb9 fr hout hin
      have h59 : fr.tmps.getD 59 undef = .bool true := hin 59 (by decide) (by decide)
      have h66 : fr.tmps.getD 66 undef = .bool true := hin 66 (by decide) (by decide)
      clear hout hin
      exact relStep_pick (.tmp 59) (.tmp 66) (.const (.bool false)) rfl h59 (wanted_none rfl) (by show fr.tmps.getD 66 undef = _; rw [h66])
    · intro w9 hb9 fr hout hin
      have h67 : fr.tmps.getD 67 undef = .bool true := hin 67 (by decide) (by decide)
      clear hout hin
      exact relStep_move (.tmp 67) rfl (wanted_none rfl) (by show fr.tmps.getD 67 undef = _; rw [h67])
    · intro w9 hb9 fr hout hin
      have h9 : fr.tmps.getD 9 undef = .int .u64 x := hout 9 (by decide)
      have h68 : fr.tmps.getD 68 undef = .bool true := hin 68 (by decide) (by decide)
      clear hout hin
      exact relStep_move (.tmp 9) rfl (wanted_some (g := 16) (t := 68) (b := true) rfl rfl h68) (by show fr.tmps.getD 9 undef = _; rw [h9])
    · intro w9 hb9 fr hout hin
      have h11 : fr.tmps.getD 11 undef = .int .u64 x := hout 11 (by decide)
      have h68 : fr.tmps.getD 68 undef = .bool true := hin 68 (by decide) (by decide)
      clear hout hin
      exact relStep_move (.tmp 11) rfl (wanted_some (g := 16) (t := 68) (b := true) rfl rfl h68) (by show fr.tmps.getD 11 undef = _; rw [h11])
    · intro w9 hb9 fr hout hin
      have h69 : fr.tmps.getD 69 undef = .int .u64 x := hin 69 (by decide) (by decide)
      have h70 : fr.tmps.getD 70 undef = .int .u64 x := hin 70 (by decide) (by decide)
      have h68 : fr.tmps.getD 68 undef = .bool true := hin 68 (by decide) (by decide)
      clear hout hin
      exact op_eqU (.tmp 69) (.tmp 70) _ rfl h69 h70 (wanted_some (g := 16) (t := 68) (b := true) rfl rfl h68) rfl
    · intro w9 hb9 fr hout hin
      have h68 : fr.tmps.getD 68 undef = .bool true := hin 68 (by decide) (by decide)
      have h71 : fr.tmps.getD 71 undef = .bool true := hin 71 (by decide) (by decide)
      clear hout hin
      exact relStep_pick (.tmp 68) (.tmp 71) (.const (.bool false)) rfl h68 (wanted_none rfl) (by show fr.tmps.getD 71 undef = _; rw [h71])
    · intro w9 hb9 fr hout hin
      have h72 : fr.tmps.getD 72 undef = .bool true := hin 72 (by decide) (by decide)
      clear hout hin
      exact relStep_move (.tmp 72) rfl (wanted_none rfl) (by show fr.tmps.getD 72 undef = _; rw [h72])
    · intro w9 hb9 fr hout hin
      have h10 : fr.tmps.getD 10 undef = .bool b := hout 10 (by decide)
      have h73 : fr.tmps.getD 73 undef = .bool true := hin 73 (by decide) (by decide)
      clear hout hin
      exact relStep_move (.tmp 10) rfl (wanted_some (g := 21) (t := 73) (b := true) rfl rfl h73) (by show fr.tmps.getD 10 undef = _; rw [h10])
    · intro w9 hb9 fr hout hin
      have h12 : fr.tmps.getD 12 undef = .bool b := hout 12 (by decide)
      have h73 : fr.tmps.getD 73 undef = .bool true := hin 73 (by decide) (by decide)
      clear hout hin
      exact relStep_move (.tmp 12) rfl (wanted_some (g := 21) (t := 73) (b := true) rfl rfl h73) (by show fr.tmps.getD 12 undef = _; rw [h12])
    · intro w9 hb9 fr hout hin
      have h74 : fr.tmps.getD 74 undef = .bool b := hin 74 (by decide) (by decide)
      have h75 : fr.tmps.getD 75 undef = .bool b := hin 75 (by decide) (by decide)
      have h73 : fr.tmps.getD 73 undef = .bool true := hin 73 (by decide) (by decide)
      clear hout hin
      exact op_eqB (.tmp 74) (.tmp 75) _ rfl h74 h75 (wanted_some (g := 21) (t := 73) (b := true) rfl rfl h73) rfl
    · intro w9 hb9 fr hout hin
      have h73 : fr.tmps.getD 73 undef = .bool true := hin 73 (by decide) (by decide)
      have h76 : fr.tmps.getD 76 undef = .bool true := hin 76 (by decide) (by decide)
      clear hout hin
      exact relStep_pick (.tmp 73) (.tmp 76) (.const (.bool false)) rfl h73 (wanted_none rfl) (by show fr.tmps.getD 76 undef = _; rw [h76])
    · intro w9 hb9 fr hout hin
      have h77 : fr.tmps.getD 77 undef = .bool true := hin 77 (by decide) (by decide)
      clear hout hin
      exact relStep_move (.tmp 77) rfl (wanted_none rfl) (by show fr.tmps.getD 77 undef = _; rw [h77])
    · intro w9 hb9 fr hout hin
      have h14 : fr.tmps.getD 14 undef = .int .u64 y := hout 14 (by decide)
      have h78 : fr.tmps.getD 78 undef = .bool true := hin 78 (by decide) (by decide)
      clear hout hin
      exact relStep_move (.tmp 14) rfl (wanted_some (g := 26) (t := 78) (b := true) rfl rfl h78) (by show fr.tmps.getD 14 undef = _; rw [h14])
    · intro w9 hb9 fr hout hin
      have h16 : fr.tmps.getD 16 undef = .int .u64 y := hout 16 (by decide)
      have h78 : fr.tmps.getD 78 undef = .bool true := hin 78 (by decide) (by decide)
      clear hout hin
      exact relStep_move (.tmp 16) rfl (wanted_some (g := 26) (t := 78) (b := true) rfl rfl h78) (by show fr.tmps.getD 16 undef = _; rw [h16])
    · intro w9 hb9 fr hout hin
      have h79 : fr.tmps.getD 79 undef = .int .u64 y := hin 79 (by decide) (by decide)
      have h80 : fr.tmps.getD 80 undef = .int .u64 y := hin 80 (by decide) (by decide)
      have h78 : fr.tmps.getD 78 undef = .bool true := hin 78 (by decide) (by decide)
      clear hout hin
      exact op_eqU (.tmp 79) (.tmp 80) _ rfl h79 h80 (wanted_some (g := 26) (t := 78) (b := true) rfl rfl h78) rfl
    · intro w9 hb9 fr hout hin
      have h78 : fr.tmps.getD 78 undef = .bool true := hin 78 (by decide) (by decide)
      have h81 : fr.tmps.getD 81 undef = .bool true := hin 81 (by decide) (by decide)
      clear hout hin
      exact relStep_pick (.tmp 78) (.tmp 81) (.const (.bool false)) rfl h78 (wanted_none rfl) (by show fr.tmps.getD 81 undef = _; rw [h81])
    · intro w9 hb9 fr hout hin
      have h82 : fr.tmps.getD 82 undef = .bool true := hin 82 (by decide) (by decide)
      clear hout hin
      exact relStep_move (.tmp 82) rfl (wanted_none rfl) (by show fr.tmps.getD 82 undef = _; rw [h82])
    · intro w9 hb9 fr hout hin
      have h15 : fr.tmps.getD 15 undef = .bool c := hout 15 (by decide)
      have h83 : fr.tmps.getD 83 undef = .bool true := hin 83 (by decide) (by decide)
      clear hout hin
      exact relStep_move (.tmp 15) rfl (wanted_some (g := 31) (t := 83) (b := true) rfl rfl h83) (by show fr.tmps.getD 15 undef = _; rw [h15])
    · intro w9 hb9 fr hout hin
      have h17 : fr.tmps.getD 17 undef = .bool c := hout 17 (by decide)
      have h83 : fr.tmps.getD 83 undef = .bool true := hin 83 (by decide) (by decide)
      clear hout hin
      exact relStep_move (.tmp 17) rfl (wanted_some (g := 31) (t := 83) (b := true) rfl rfl h83) (by show fr.tmps.getD 17 undef = _; rw [h17])
    · intro w9 hb9 fr hout hin
      have h84 : fr.tmps.getD 84 undef = .bool c := hin 84 (by decide) (by decide)
      have h85 : fr.tmps.getD 85 undef = .bool c := hin 85 (by decide) (by decide)
      have h83 : fr.tmps.getD 83 undef = .bool true := hin 83 (by decide) (by decide)
      clear hout hin
      exact op_eqB (.tmp 84) (.tmp 85) _ rfl h84 h85 (wanted_some (g := 31) (t := 83) (b := true) rfl rfl h83) rfl
    · intro w9 hb9 fr hout hin
      have h83 : fr.tmps.getD 83 undef = .bool true := hin 83 (by decide) (by decide)
      have h86 : fr.tmps.getD 86 undef = .bool true := hin 86 (by decide) (by decide)
      clear hout hin
      exact relStep_pick (.tmp 83) (.tmp 86) (.const (.bool false)) rfl h83 (wanted_none rfl) (by show fr.tmps.getD 86 undef = _; rw [h86])
    · intro w9 hb9 fr hout hin
      have h87 : fr.tmps.getD 87 undef = .bool true := hin 87 (by decide) (by decide)
      clear hout hin
      exact relStep_move (.tmp 87) rfl (wanted_none rfl) (by show fr.tmps.getD 87 undef = _; rw [h87])
    · intro w9 hb9 fr hout hin
      have h88 : fr.tmps.getD 88 undef = .bool true := hin 88 (by decide) (by decide)
      clear hout hin
      exact gs_call0 rfl en_gsWakes (wanted_some (g := 36) (t := 88) (b := true) rfl rfl h88) (by exact (gswakes_c w9).mono fun _ _ h => RetV.gs h) (fun _ _ h => h)
    · intro w9 hb9 fr hout hin
      have h88 : fr.tmps.getD 88 undef = .bool true := hin 88 (by decide) (by decide)
      have h89 : fr.tmps.getD 89 undef = .bool true := hin 89 (by decide) (by decide)
      clear hout hin
      exact relStep_pick (.tmp 88) (.tmp 89) (.const (.bool false)) rfl h88 (wanted_none rfl) (by show fr.tmps.getD 89 undef = _; rw [h89])
    · intro w9 hb9 fr hout hin
      have h90 : fr.tmps.getD 90 undef = .bool true := hin 90 (by decide) (by decide)
      clear hout hin
      exact relStep_assign (.tmp 90) rfl (wanted_none rfl) (by show fr.tmps.getD 90 undef = _; rw [h90])
  intro X8 hb9
  refine relAsk_in (by rfl) ?_
  intro v52 h52
  obtain rfl : v52 = .agg (RulesK g (kf g)) := h52
  refine relAsk_in (by rfl) ?_
  intro v53 h53
  obtain rfl : v53 = .int .i64 op := h53
  refine relAsk_in (by rfl) ?_
  intro v54 h54
  obtain rfl : v54 = .int .u64 z := h54
  refine relAsk_in (by rfl) ?_
  intro v55 h55
  obtain rfl : v55 = .agg (RulesK g (kf g)) := h55
  refine relAsk_in (by rfl) ?_
  intro v56 h56
  obtain rfl : v56 = .int .i64 op := h56
  refine relAsk_in (by rfl) ?_
  intro v57 h57
  obtain rfl : v57 = .int .u64 z := h57
  refine relAsk_in (by rfl) ?_
  intro v58 h58
  obtain rfl : v58 = .bool true := h58
  refine relAsk_in (by rfl) ?_
  intro v59 h59
  obtain rfl : v59 = .bool true := h59
  refine relAsk_in (by rfl) ?_
  intro v60 h60
  obtain rfl : v60 = .agg (RulesK g (kf g)) := h60
  refine relAsk_in (by rfl) ?_
  intro v61 h61
  obtain rfl : v61 = W a := h61
  refine relAsk_in (by rfl) ?_
  intro v62 h62
  obtain rfl : v62 = .int .u64 q := h62
  refine relAsk_in (by rfl) ?_
  intro v63 h63
  obtain rfl : v63 = .agg (RulesK g (kf g)) := h63
  refine relAsk_in (by rfl) ?_
  intro v64 h64
  obtain rfl : v64 = W a := h64
  refine relAsk_in (by rfl) ?_
  intro v65 h65
  obtain rfl : v65 = .int .u64 q := h65
  refine relAsk_in (by rfl) ?_
  intro v66 h66
  obtain rfl : v66 = .bool true := h66
  refine relAsk_in (by rfl) ?_
  intro v67 h67
  obtain rfl : v67 = .bool true := h67
  refine relAsk_in (by rfl) ?_
  intro v68 h68
  obtain rfl : v68 = .bool true := h68
  refine relAsk_in (by rfl) ?_
  intro v69 h69
  obtain rfl : v69 = .int .u64 x := h69
  refine relAsk_in (by rfl) ?_
  intro v70 h70
  obtain rfl : v70 = .int .u64 x := h70
  refine relAsk_in (by rfl) ?_
  intro v71 h71
  obtain rfl : v71 = .bool true := h71
  refine relAsk_in (by rfl) ?_
  intro v72 h72
  obtain rfl : v72 = .bool true := h72
  refine relAsk_in (by rfl) ?_
  intro v73 h73
  obtain rfl : v73 = .bool true := h73
  refine relAsk_in (by rfl) ?_
  intro v74 h74
  obtain rfl : v74 = .bool b := h74
  refine relAsk_in (by rfl) ?_
  intro v75 h75
  obtain rfl : v75 = .bool b := h75
  refine relAsk_in (by rfl) ?_
  intro v76 h76
  obtain rfl : v76 = .bool true := h76
  refine relAsk_in (by rfl) ?_
  intro v77 h77
  obtain rfl : v77 = .bool true := h77
  refine relAsk_in (by rfl) ?_
  intro v78 h78
  obtain rfl : v78 = .bool true := h78
  refine relAsk_in (by rfl) ?_
  intro v79 h79
  obtain rfl : v79 = .int .u64 y := h79
  refine relAsk_in (by rfl) ?_
  intro v80 h80
  obtain rfl : v80 = .int .u64 y := h80
  refine relAsk_in (by rfl) ?_
  intro v81 h81
  obtain rfl : v81 = .bool true := h81
  refine relAsk_in (by rfl) ?_
  intro v82 h82
  obtain rfl : v82 = .bool true := h82
  refine relAsk_in (by rfl) ?_
  intro v83 h83
  obtain rfl : v83 = .bool true := h83
  refine relAsk_in (by rfl) ?_
  intro v84 h84
  obtain rfl : v84 = .bool c := h84
  refine relAsk_in (by rfl) ?_
  intro v85 h85
  obtain rfl : v85 = .bool c := h85
  refine relAsk_in (by rfl) ?_
  intro v86 h86
  obtain rfl : v86 = .bool true := h86
  refine relAsk_in (by rfl) ?_
  intro v87 h87
  obtain rfl : v87 = .bool true := h87
  refine relAsk_in (by rfl) ?_
  intro v88 h88
  obtain rfl : v88 = .bool true := h88
  refine relAsk_in (by rfl) ?_
  intro v89 h89
  obtain rfl : v89 = .bool true := h89
  refine relAsk_in (by rfl) ?_
  intro v90 h90
  obtain rfl : v90 = .bool true := h90
  refine relAsk_in (by rfl) ?_
  intro v6 h6
  obtain rfl : v6 = .bool true := h6
  refine relAsk_nil ?_
  refine wpList_nil ?_
  go_simp
  have HB9 := Lib.hid (HB.out.trans (hb9.mono HB.out.size))
  go_wp2_with fail
  go_ret
  exact ⟨rfl, HB9.out⟩
end Go.Proofs.Ytiflfcdegpmhnaa
