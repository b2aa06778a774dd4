/- The laws' wakes of layer 17: the document's runs. (Written by wip/gengswakes.py.) -/
import Derived.Test.YtiflfcdegpmhnaaGsApi
import Derived.Laws.StructEq
namespace Go.Proofs.Ytiflfcdegpmhnaa
open Go.RowKit

theorem rulesK_one (f : Int) (k : Nat → Int) : (RulesK f k).all (·.oneCell') = true := by simp [RulesK, Value.oneCell']
def RulesZ : Array Value := #[.int .i64 0, .int .u64 0, .int .u64 0, .int .u64 0, .int .u64 0, .int .u64 0, .int .u64 0, .int .u64 0, .int .i64 0, .int .i64 0, .int .u64 0, .int .u64 0, .int .u64 0, .int .u64 0, .int .u64 0, .int .u64 0, .int .u64 0, .int .u64 0, .int .u64 0, .int .u64 0, .int .u64 0, .int .u64 0, .int .u64 0, .int .u64 0, .int .u64 0, .int .u64 0]

set_option maxRecDepth 100000 in
set_option maxHeartbeats 6400000 in
theorem rules_c (f : Int) (w : World) : Calls Try.prog 10 #[.int .i64 f] w (RetV (RK (f % 16)) w) := by
  have hp : 0 ≤ f % 16 := by omega
  have hq : f % 16 ≤ 15 := by omega
  have t0 : (f.tmod 16 = f % 16 ∧ 0 ≤ f) ∨ (f.tmod 16 = f % 16 - 16 ∧ f.tmod 16 < 0) ∨ (f.tmod 16 = 0 ∧ f % 16 = 0) := by
    have := Int.tmod_eq_emod (a := f) (b := 16)
    split at this
    · rename_i h; rcases h with h | h
      · exact .inl ⟨by omega, h⟩
      · exact .inr (.inr ⟨by omega, by omega⟩)
    · right; left; constructor <;> omega
  obtain ⟨g, hg⟩ : ∃ g, g = f % 16 := ⟨_, rfl⟩
  obtain ⟨m, hm⟩ : ∃ m, m = f.tmod 16 := ⟨_, rfl⟩
  have t1 : IntKind.i64.wrap (m + 16) = m + 16 := IntWalk.i64_in _ (by omega)
  have t3 : IntKind.i64.wrap m = m := IntWalk.i64_in _ (by omega)
  have t2 : (m + 16).tmod 16 = g := by rw [Int.tmod_eq_emod_of_nonneg (by omega)]; omega
  have t4 : (m + 16) % 16 = g := by omega
  obtain ⟨s, hs⟩ : ∃ s, s = m + 16 := ⟨_, rfl⟩
  rw [← hs] at t1 t2 t4
  have t5 : IntKind.i64.wrap g = g := IntWalk.i64_in _ (by omega)
  have K : Hid (∀ W, Calls Try.prog 32 #[.int .i64 g] W (RetV (.tuple #[.agg (RulesK g (kf g)), .bool true]) W)) := fun W => rfkof_c g W (by omega) (by omega)
  rw [← hg]
  have hm' := hm.symm
  have HS : Hid (s = m + 16) := hs
  clear t0 hp hq hs hg hm
  have hs' : m + 16 = s := HS.out.symm
  unfold RK
  have H1 := Lib.hid (rulesK_one g (kf g))
  have HSZ : Hid ((RulesK g (kf g)).size = 26) := rfl
  generalize RulesK g (kf g) = C at *
  go_enter Try.func10, Try.ntmps10
  go_wp2_with fail
  rename_i KK hKK
  have hX0 : (w.alloc (.cells RulesZ 26)).heap[w.heap.size]? = some (.cells RulesZ 26 (0, 0)) := heap_alloc_new w _
  have hXB : Below w.heap.size w (w.alloc (.cells RulesZ 26)) := (Below.refl _ _).alloc (Nat.le_refl _) _
  have hXs : w.heap.size < (w.alloc (.cells RulesZ 26)).heap.size := by simp
  unfold RulesZ at hX0 hXB hXs
  generalize w.alloc (.cells #[.int .i64 0, .int .u64 0, .int .u64 0, .int .u64 0, .int .u64 0, .int .u64 0, .int .u64 0, .int .u64 0, .int .i64 0, .int .i64 0, .int .u64 0, .int .u64 0, .int .u64 0, .int .u64 0, .int .u64 0, .int .u64 0, .int .u64 0, .int .u64 0, .int .u64 0, .int .u64 0, .int .u64 0, .int .u64 0, .int .u64 0, .int .u64 0, .int .u64 0, .int .u64 0] 26) = X at *
  (with_reducible refine (K.out _).mono ?_)
  rintro e w1 ⟨rfl, hb1⟩
  have hY0 := (hb1.block _ hXs).trans hX0
  have hYs := Nat.lt_of_lt_of_le hXs hb1.size
  have hYB := hXB.trans (hb1.mono hXB.size)
  clear hX0 hXB hXs hb1 K
  show KK _ _
  refine hKK _ _ ?_
  clear hKK KK
  iterate 4 (refine wpList_plain rfl fun K hK => ?_; go_simp; refine hK _ _ ?_; clear hK K)
  have hg : (w1.alloc (.cells RulesZ 26)).heap[w1.heap.size]? = some (.cells RulesZ 26 (0, 0)) := heap_alloc_new w1 _
  have hb : Below w.heap.size w (w1.alloc (.cells RulesZ 26)) := hYB.alloc hYB.size _
  have h0 : (w1.alloc (.cells RulesZ 26)).heap[w.heap.size]? = some (.cells RulesZ 26 (0, 0)) := (Below.heap_alloc w1 _ _ hYs).trans hY0
  refine wpList_store_row rfl 26 (.tmp 3) (.tmp 11) rfl w1.heap.size C rfl rfl 26 RulesZ hg (by rw [infoRules, HSZ.out]) (by rw [HSZ.out]; rfl) H1.out ?_
  have hg2 := setRow_heap (w1.alloc (.cells RulesZ 26)) w1.heap.size _ C 26 (0, 0) hg
  have hb2 := below_setRow hb hYB.size C
  have h02 : ((w1.alloc (.cells RulesZ 26)).setRow w1.heap.size C).heap[w.heap.size]? = some (.cells RulesZ 26 (0, 0)) := ((below_setRow (Below.refl w1.heap.size (w1.alloc (.cells RulesZ 26))) (Nat.le_refl _) C).block _ hYs).trans h0
  show wpList _ _ _ _ _ ((w1.alloc (.cells RulesZ 26)).setRow w1.heap.size C)
  generalize (w1.alloc (.cells RulesZ 26)).setRow w1.heap.size C = Y at *
  refine wpList_plain rfl fun K hK => ?_; go_simp; refine hK _ _ ?_; clear hK K
  refine wpList_nil ?_
  go_simp
  clear hg hb h0 hY0 hYB hYs
  go_upto_region 2 with (fail)
  refine wp_region_lit ?_
  refine wpList_load_row rfl 26 (.tmp 3) rfl w1.heap.size rfl 26 C (0, 0) _ hg2 Try.underlying26 rfl (by rw [infoRules, HSZ.out]) ?_
  refine wpList_store_row rfl 26 (.tmp 2) (.tmp 13) rfl w.heap.size C rfl rfl 26 RulesZ h02 (by rw [infoRules, HSZ.out]) (by rw [HSZ.out]; rfl) H1.out ?_
  have hg3 := setRow_heap Y w.heap.size _ C 26 (0, 0) h02
  have hb3 := below_setRow hb2 (Nat.le_refl _) C
  generalize Y.setRow w.heap.size C = Z at *
  refine wpList_nil ?_
  go_simp
  go_wp2_with fail
  exact bodyPost_ret (v := .agg C) (results_cell_row Try.results10 _ _ w.heap.size 26 C (0, 0) _ rfl hg3 Try.underlying26 rfl (by rw [infoRules, HSZ.out])) rfl ⟨rfl, hb3⟩
set_option maxRecDepth 100000 in
theorem size_c (n : Nat) (hn : n < 18446744073709551616) (w : World) : Calls Try.prog 21 #[.int .u64 (n : Nat)] w (RetV (.int .u64 ((n % 34359738369 * 32 : Nat) : Int)) w) := by
  have d1 : (n : Int).tmod 34359738369 = ((n % 34359738369 : Nat) : Int) := by rw [Int.tmod_eq_emod_of_nonneg (by omega)]; omega
  have d2 : (n : Int) % 34359738369 = ((n % 34359738369 : Nat) : Int) := by omega
  obtain ⟨q, hq⟩ : ∃ q, q = n % 34359738369 := ⟨_, rfl⟩
  have hq2 : q < 34359738369 := by omega
  rw [← hq] at d1 d2 ⊢
  have d3 : IntKind.u64.wrap ((q : Int) * 32) = ((q * 32 : Nat) : Int) := by rw [IntKind.wrap_u64]; omega
  have d4 : IntKind.u64.wrap (q : Int) = (q : Int) := by rw [IntKind.wrap_u64]; omega
  obtain ⟨r, hr⟩ : ∃ r, r = q * 32 := ⟨_, rfl⟩
  rw [← hr] at d3 ⊢
  clear hq hq2 hr hn
  go_enter Try.func21, Try.ntmps21
  go_wp2_with fail
  go_ret
  exact ⟨rfl, Below.refl _ _⟩
end Go.Proofs.Ytiflfcdegpmhnaa
namespace Go.Proofs.Ytiflfcdegpmhnaa
open Go.RowKit

theorem en_gBase (args : Array Value) (w : World) : (callFunc 15 args).run Try.prog w = .ok (.enter 15 args) w := by go_simp
theorem en_gExp (args : Array Value) (w : World) : (callFunc 17 args).run Try.prog w = .ok (.enter 17 args) w := by go_simp
theorem en_rBase (args : Array Value) (w : World) : (callFunc 16 args).run Try.prog w = .ok (.enter 16 args) w := by go_simp
theorem en_rExp (args : Array Value) (w : World) : (callFunc 18 args).run Try.prog w = .ok (.enter 18 args) w := by go_simp
theorem en_gsWakes (args : Array Value) (w : World) : (callFunc 19 args).run Try.prog w = .ok (.enter 19 args) w := by go_simp
section
variable {ops : Array Oper} {T : Facts} {o : Oper} {a : Act} {w : World}
theorem gs_build255 (ho : o.op = .build 24 #[(0, .const (.int .u64 255))]) (hw : Region.wanted o (yielded ops a.tmps) = true) (hf : factTo T o.dst (.agg #[.int .u64 255, .int .u64 0, .int .u64 0, .int .u64 0]) w) : relStep Try.prog ops T o a w :=
  relStep_val _ hw hf (by
    unfold execOp
    rw [ho]
    go_simp)
end
theorem W_lit (k : Nat) (h : k < 18446744073709551616) : W k = .agg #[.int .u64 (k : Nat), .int .u64 0, .int .u64 0, .int .u64 0] := W_small h
theorem runs_base1 : baseZ 0 (kf 0) 1 = 3 := by decide
theorem runs_base84 : baseZ 0 (kf 0) 84 = 50 := by decide
theorem runs_exp : expZ (kf 0 21) 255 = 10 := by
  have h : (shortv 255).length = 1 := by
    unfold shortv
    rw [List.length_drop, bytes32_len]
    have : blen 255 = 8 := by decide
    rw [this]
  unfold expZ
  rw [h]
  decide

set_option maxRecDepth 100000 in
set_option maxHeartbeats 12800000 in
theorem gswakes_c (w : World) : Calls Try.prog 19 #[] w (RetV (.bool true) w) := by
  have K0 : Hid (∀ W, Calls Try.prog 32 #[.int .i64 0] W (RetV (.tuple #[.agg (RulesK 0 (kf 0)), .bool true]) W)) := fun W => rfkof_c 0 W (by omega) (by omega)
  have KG : Hid (∀ W, Calls Try.prog 20 #[.int .u64 0, .agg #[.int .u64 31, .int .u64 0, .int .u64 0, .int .u64 0], .agg #[.int .u64 2, .int .u64 0, .int .u64 0, .int .u64 0]] W (RetV (.tuple #[.int .u64 64, .int .u64 6, .bool true]) W)) := fun W => by
    have h := gGrow (s := 0) (a := 31) (n := 2) (by omega) rfl (by unfold Big; omega) (by unfold Big; omega) W
    rw [W_lit 31 (by omega), W_lit 2 (by omega)] at h
    exact h
  have KB1 : Hid (∀ W, Calls Try.prog 15 #[.agg (RulesK 0 (kf 0)), .int .i64 1] W (RetV (.int .u64 3) W)) := fun W => by
    have h := gBase 0 1 (by omega) (by omega) W
    rw [runs_base1] at h; exact h
  have KB2 : Hid (∀ W, Calls Try.prog 15 #[.agg (RulesK 0 (kf 0)), .int .i64 84] W (RetV (.int .u64 50) W)) := fun W => by
    have h := gBase 0 84 (by omega) (by omega) W
    rw [runs_base84] at h; exact h
  have KE : Hid (∀ W, Calls Try.prog 17 #[.agg (RulesK 0 (kf 0)), .agg #[.int .u64 255, .int .u64 0, .int .u64 0, .int .u64 0]] W (RetV (.int .u64 10) W)) := fun W => by
    have h := gExp 0 (by omega) (by omega) (a := 255) (by unfold Big; omega) W
    rw [runs_exp, W_lit 255 (by omega)] at h; exact h
  have HSZ : Hid ((RulesK 0 (kf 0)).size = 26) := rfl
  go_enter Try.func19, Try.ntmps19
  go_wp2_with fail
  rename_i KK hKK
  (with_reducible refine (K0.out _).mono ?_)
  rintro e1 w1 ⟨rfl, hb1⟩
  have HB1 := Lib.hid hb1
  clear hb1 K0
  show KK _ _
  refine hKK _ _ ?_
  clear hKK KK
  iterate 4 (refine wpList_plain rfl fun K hK => ?_; go_simp; refine hK _ _ ?_; clear hK K)
  have hg : (w1.alloc (.cells RulesZ 26)).heap[w1.heap.size]? = some (.cells RulesZ 26 (0, 0)) := heap_alloc_new w1 _
  have hb2 := HB1.out.alloc HB1.out.size (.cells RulesZ 26)
  refine wpList_store_row rfl 26 (.tmp 1) (.tmp 8) rfl w1.heap.size (RulesK 0 (kf 0)) rfl rfl 26 RulesZ hg infoRules rfl (rulesK_one _ _) ?_
  have hR : RulesAt ((w1.alloc (.cells RulesZ 26)).setRow w1.heap.size (RulesK 0 (kf 0))) w1.heap.size 0 (kf 0) := setRow_heap _ _ _ _ _ _ hg
  have hb3 := below_setRow hb2 HB1.out.size (RulesK 0 (kf 0))
  show wpList _ _ _ _ _ ((w1.alloc (.cells RulesZ 26)).setRow w1.heap.size (RulesK 0 (kf 0)))
  generalize (w1.alloc (.cells RulesZ 26)).setRow w1.heap.size (RulesK 0 (kf 0)) = Y at *
  have HR0 := Lib.hid hR
  have HB2 := Lib.hid hb3
  clear hg hb2 hR hb3
  refine wpList_plain rfl fun K hK => ?_; go_simp; refine hK _ _ ?_; clear hK K
  refine wpList_nil ?_
  go_simp
  go_wp2_with fail
  (with_reducible refine (KG.out _).mono ?_)
  rintro e2 w2 ⟨rfl, hb4⟩
  have HR := Lib.hid (HR0.out.below hb4 HR0.out.lt)
  have HB3 := Lib.hid (HB2.out.trans (hb4.mono HB2.out.size))
  clear hb4 HR0 HB2 KG HB1
  go_upto_region 3 with (fail)
  refine wp_region_seq 26 [17, 18, 19, 20, 21, 22, 23, 24, 25, 26, 27, 28, 29, 30, 31, 32, 33, 34, 35, 36, 37, 38, 39, 40, 41, 0] [(17, .is (.agg (RulesK 0 (kf 0)))), (18, .is (.int .u64 3)), (19, .is (.bool true)), (20, .is (.bool true)), (21, .is (.agg (RulesK 0 (kf 0)))), (22, .is (.int .u64 50)), (23, .is (.bool true)), (24, .is (.bool true)), (25, .is (.bool true)), (26, .is (.int .u64 64)), (27, .is (.bool true)), (28, .is (.bool true)), (29, .is (.bool true)), (30, .is (.int .u64 6)), (31, .is (.bool true)), (32, .is (.bool true)), (33, .is (.bool true)), (34, .is (.bool true)), (35, .is (.bool true)), (36, .is (.bool true)), (37, .is (.agg (RulesK 0 (kf 0)))), (38, .is (.agg #[.int .u64 255, .int .u64 0, .int .u64 0, .int .u64 0])), (39, .is (.int .u64 10)), (40, .is (.bool true)), (41, .is (.bool true)), (0, .is (.bool true))] (by kernel_rfl) (by rfl) ?_ ?_
  · refine seeOps_cons ?_ (seeOps_cons ?_ (seeOps_cons ?_ (seeOps_cons ?_ (seeOps_cons ?_ (seeOps_cons ?_ (seeOps_cons ?_ (seeOps_cons ?_ (seeOps_cons ?_ (seeOps_cons ?_ (seeOps_cons ?_ (seeOps_cons ?_ (seeOps_cons ?_ (seeOps_cons ?_ (seeOps_cons ?_ (seeOps_cons ?_ (seeOps_cons ?_ (seeOps_cons ?_ (seeOps_cons ?_ (seeOps_cons ?_ (seeOps_cons ?_ (seeOps_cons ?_ (seeOps_cons ?_ (seeOps_cons ?_ (seeOps_cons ?_ (seeOps_cons ?_ seeOps_nil)))))))))))))))))))))))))
    · intro w9 hb9 fr hout hin
      have h1 : fr.tmps.getD 1 undef = .pointer (some ⟨w1.heap.size, 0, none⟩) := hout 1 (by decide)
      clear hout hin
      exact gs_loadAt (.tmp 1) rfl h1 (HR.out.below hb9 HR.out.lt).load (wanted_none rfl) rfl
    · intro w9 hb9 fr hout hin
      have h17 : fr.tmps.getD 17 undef = .agg (RulesK 0 (kf 0)) := hin 17 (by decide) (by decide)
      clear hout hin
      exact gs_call2 (.tmp 17) (.const (.int .i64 1)) rfl en_gBase (wanted_none rfl) (by rw [show fr.eval (.tmp 17) = _ from h17]; exact (KB1.out w9).mono fun _ _ h => RetV.gs h) (fun _ _ h => h)
    · intro w9 hb9 fr hout hin
      have h18 : fr.tmps.getD 18 undef = .int .u64 3 := hin 18 (by decide) (by decide)
      clear hout hin
      exact gs_bin .eql 22 (.tmp 18) (.const (.int .u64 3)) _ rfl h18 rfl (fun w => by go_simp) (fun w => by go_simp) (wanted_none rfl) rfl
    · intro w9 hb9 fr hout hin
      have h19 : fr.tmps.getD 19 undef = .bool true := hin 19 (by decide) (by decide)
      clear hout hin
      exact relStep_move (.tmp 19) rfl (wanted_none rfl) (by show fr.tmps.getD 19 undef = _; rw [h19])
    · intro w9 hb9 fr hout hin
      have h1 : fr.tmps.getD 1 undef = .pointer (some ⟨w1.heap.size, 0, none⟩) := hout 1 (by decide)
      have h20 : fr.tmps.getD 20 undef = .bool true := hin 20 (by decide) (by decide)
      clear hout hin
      exact gs_loadAt (.tmp 1) rfl h1 (HR.out.below hb9 HR.out.lt).load (wanted_some (g := 3) (t := 20) (b := true) rfl rfl h20) rfl
    · intro w9 hb9 fr hout hin
      have h21 : fr.tmps.getD 21 undef = .agg (RulesK 0 (kf 0)) := hin 21 (by decide) (by decide)
      have h20 : fr.tmps.getD 20 undef = .bool true := hin 20 (by decide) (by decide)
      clear hout hin
      exact gs_call2 (.tmp 21) (.const (.int .i64 84)) rfl en_gBase (wanted_some (g := 3) (t := 20) (b := true) rfl rfl h20) (by rw [show fr.eval (.tmp 21) = _ from h21]; exact (KB2.out w9).mono fun _ _ h => RetV.gs h) (fun _ _ h => h)
    · intro w9 hb9 fr hout hin
      have h22 : fr.tmps.getD 22 undef = .int .u64 50 := hin 22 (by decide) (by decide)
      have h20 : fr.tmps.getD 20 undef = .bool true := hin 20 (by decide) (by decide)
      clear hout hin
      exact gs_bin .eql 22 (.tmp 22) (.const (.int .u64 50)) _ rfl h22 rfl (fun w => by go_simp) (fun w => by go_simp) (wanted_some (g := 3) (t := 20) (b := true) rfl rfl h20) rfl
    · intro w9 hb9 fr hout hin
      have h20 : fr.tmps.getD 20 undef = .bool true := hin 20 (by decide) (by decide)
      have h23 : fr.tmps.getD 23 undef = .bool true := hin 23 (by decide) (by decide)
      clear hout hin
      exact relStep_pick (.tmp 20) (.tmp 23) (.const (.bool false)) rfl h20 (wanted_none rfl) (by show fr.tmps.getD 23 undef = _; rw [h23])
    · intro w9 hb9 fr hout hin
      have h24 : fr.tmps.getD 24 undef = .bool true := hin 24 (by decide) (by decide)
      clear hout hin
      exact relStep_move (.tmp 24) rfl (wanted_none rfl) (by show fr.tmps.getD 24 undef = _; rw [h24])
    · intro w9 hb9 fr hout hin
      have h3 : fr.tmps.getD 3 undef = .int .u64 64 := hout 3 (by decide)
      have h25 : fr.tmps.getD 25 undef = .bool true := hin 25 (by decide) (by decide)
      clear hout hin
      exact relStep_move (.tmp 3) rfl (wanted_some (g := 8) (t := 25) (b := true) rfl rfl h25) (by show fr.tmps.getD 3 undef = _; rw [h3])
    · intro w9 hb9 fr hout hin
      have h26 : fr.tmps.getD 26 undef = .int .u64 64 := hin 26 (by decide) (by decide)
      have h25 : fr.tmps.getD 25 undef = .bool true := hin 25 (by decide) (by decide)
      clear hout hin
      exact gs_bin .eql 22 (.tmp 26) (.const (.int .u64 64)) _ rfl h26 rfl (fun w => by go_simp) (fun w => by go_simp) (wanted_some (g := 8) (t := 25) (b := true) rfl rfl h25) rfl
    · intro w9 hb9 fr hout hin
      have h25 : fr.tmps.getD 25 undef = .bool true := hin 25 (by decide) (by decide)
      have h27 : fr.tmps.getD 27 undef = .bool true := hin 27 (by decide) (by decide)
      clear hout hin
      exact relStep_pick (.tmp 25) (.tmp 27) (.const (.bool false)) rfl h25 (wanted_none rfl) (by show fr.tmps.getD 27 undef = _; rw [h27])
    · intro w9 hb9 fr hout hin
      have h28 : fr.tmps.getD 28 undef = .bool true := hin 28 (by decide) (by decide)
      clear hout hin
      exact relStep_move (.tmp 28) rfl (wanted_none rfl) (by show fr.tmps.getD 28 undef = _; rw [h28])
    · intro w9 hb9 fr hout hin
      have h4 : fr.tmps.getD 4 undef = .int .u64 6 := hout 4 (by decide)
      have h29 : fr.tmps.getD 29 undef = .bool true := hin 29 (by decide) (by decide)
      clear hout hin
      exact relStep_move (.tmp 4) rfl (wanted_some (g := 12) (t := 29) (b := true) rfl rfl h29) (by show fr.tmps.getD 4 undef = _; rw [h4])
    · intro w9 hb9 fr hout hin
      have h30 : fr.tmps.getD 30 undef = .int .u64 6 := hin 30 (by decide) (by decide)
      have h29 : fr.tmps.getD 29 undef = .bool true := hin 29 (by decide) (by decide)
      clear hout hin
      exact gs_bin .eql 22 (.tmp 30) (.const (.int .u64 6)) _ rfl h30 rfl (fun w => by go_simp) (fun w => by go_simp) (wanted_some (g := 12) (t := 29) (b := true) rfl rfl h29) rfl
    · intro w9 hb9 fr hout hin
      have h29 : fr.tmps.getD 29 undef = .bool true := hin 29 (by decide) (by decide)
      have h31 : fr.tmps.getD 31 undef = .bool true := hin 31 (by decide) (by decide)
      clear hout hin
      exact relStep_pick (.tmp 29) (.tmp 31) (.const (.bool false)) rfl h29 (wanted_none rfl) (by show fr.tmps.getD 31 undef = _; rw [h31])
    · intro w9 hb9 fr hout hin
      have h32 : fr.tmps.getD 32 undef = .bool true := hin 32 (by decide) (by decide)
      clear hout hin
      exact relStep_move (.tmp 32) rfl (wanted_none rfl) (by show fr.tmps.getD 32 undef = _; rw [h32])
    · intro w9 hb9 fr hout hin
      have h5 : fr.tmps.getD 5 undef = .bool true := hout 5 (by decide)
      have h33 : fr.tmps.getD 33 undef = .bool true := hin 33 (by decide) (by decide)
      clear hout hin
      exact relStep_move (.tmp 5) rfl (wanted_some (g := 16) (t := 33) (b := true) rfl rfl h33) (by show fr.tmps.getD 5 undef = _; rw [h5])
    · intro w9 hb9 fr hout hin
      have h33 : fr.tmps.getD 33 undef = .bool true := hin 33 (by decide) (by decide)
      have h34 : fr.tmps.getD 34 undef = .bool true := hin 34 (by decide) (by decide)
      clear hout hin
      exact relStep_pick (.tmp 33) (.tmp 34) (.const (.bool false)) rfl h33 (wanted_none rfl) (by show fr.tmps.getD 34 undef = _; rw [h34])
    · intro w9 hb9 fr hout hin
      have h35 : fr.tmps.getD 35 undef = .bool true := hin 35 (by decide) (by decide)
      clear hout hin
      exact relStep_move (.tmp 35) rfl (wanted_none rfl) (by show fr.tmps.getD 35 undef = _; rw [h35])
    · intro w9 hb9 fr hout hin
      have h1 : fr.tmps.getD 1 undef = .pointer (some ⟨w1.heap.size, 0, none⟩) := hout 1 (by decide)
      have h36 : fr.tmps.getD 36 undef = .bool true := hin 36 (by decide) (by decide)
      clear hout hin
      exact gs_loadAt (.tmp 1) rfl h1 (HR.out.below hb9 HR.out.lt).load (wanted_some (g := 19) (t := 36) (b := true) rfl rfl h36) rfl
    · intro w9 hb9 fr hout hin
      have h36 : fr.tmps.getD 36 undef = .bool true := hin 36 (by decide) (by decide)
      clear hout hin
      exact gs_build255 rfl (wanted_some (g := 19) (t := 36) (b := true) rfl rfl h36) rfl
    · intro w9 hb9 fr hout hin
      have h37 : fr.tmps.getD 37 undef = .agg (RulesK 0 (kf 0)) := hin 37 (by decide) (by decide)
      have h38 : fr.tmps.getD 38 undef = .agg #[.int .u64 255, .int .u64 0, .int .u64 0, .int .u64 0] := hin 38 (by decide) (by decide)
      have h36 : fr.tmps.getD 36 undef = .bool true := hin 36 (by decide) (by decide)
      clear hout hin
      exact gs_call2 (.tmp 37) (.tmp 38) rfl en_gExp (wanted_some (g := 19) (t := 36) (b := true) rfl rfl h36) (by rw [show fr.eval (.tmp 37) = _ from h37, show fr.eval (.tmp 38) = _ from h38]; exact (KE.out w9).mono fun _ _ h => RetV.gs h) (fun _ _ h => h)
    · intro w9 hb9 fr hout hin
      have h39 : fr.tmps.getD 39 undef = .int .u64 10 := hin 39 (by decide) (by decide)
      have h36 : fr.tmps.getD 36 undef = .bool true := hin 36 (by decide) (by decide)
      clear hout hin
      exact gs_bin .eql 22 (.tmp 39) (.const (.int .u64 10)) _ rfl h39 rfl (fun w => by go_simp) (fun w => by go_simp) (wanted_some (g := 19) (t := 36) (b := true) rfl rfl h36) rfl
    · intro w9 hb9 fr hout hin
      have h36 : fr.tmps.getD 36 undef = .bool true := hin 36 (by decide) (by decide)
      have h40 : fr.tmps.getD 40 undef = .bool true := hin 40 (by decide) (by decide)
      clear hout hin
      exact relStep_pick (.tmp 36) (.tmp 40) (.const (.bool false)) rfl h36 (wanted_none rfl) (by show fr.tmps.getD 40 undef = _; rw [h40])
    · intro w9 hb9 fr hout hin
      have h41 : fr.tmps.getD 41 undef = .bool true := hin 41 (by decide) (by decide)
      clear hout hin
      exact relStep_assign (.tmp 41) rfl (wanted_none rfl) (by show fr.tmps.getD 41 undef = _; rw [h41])
  intro X9 hb9
  refine relAsk_in (by rfl) ?_
  intro v17 h17
  obtain rfl : v17 = .agg (RulesK 0 (kf 0)) := h17
  refine relAsk_in (by rfl) ?_
  intro v18 h18
  obtain rfl : v18 = .int .u64 3 := h18
  refine relAsk_in (by rfl) ?_
  intro v19 h19
  obtain rfl : v19 = .bool true := h19
  refine relAsk_in (by rfl) ?_
  intro v20 h20
  obtain rfl : v20 = .bool true := h20
  refine relAsk_in (by rfl) ?_
  intro v21 h21
  obtain rfl : v21 = .agg (RulesK 0 (kf 0)) := h21
  refine relAsk_in (by rfl) ?_
  intro v22 h22
  obtain rfl : v22 = .int .u64 50 := h22
  refine relAsk_in (by rfl) ?_
  intro v23 h23
  obtain rfl : v23 = .bool true := h23
  refine relAsk_in (by rfl) ?_
  intro v24 h24
  obtain rfl : v24 = .bool true := h24
  refine relAsk_in (by rfl) ?_
  intro v25 h25
  obtain rfl : v25 = .bool true := h25
  refine relAsk_in (by rfl) ?_
  intro v26 h26
  obtain rfl : v26 = .int .u64 64 := h26
  refine relAsk_in (by rfl) ?_
  intro v27 h27
  obtain rfl : v27 = .bool true := h27
  refine relAsk_in (by rfl) ?_
  intro v28 h28
  obtain rfl : v28 = .bool true := h28
  refine relAsk_in (by rfl) ?_
  intro v29 h29
  obtain rfl : v29 = .bool true := h29
  refine relAsk_in (by rfl) ?_
  intro v30 h30
  obtain rfl : v30 = .int .u64 6 := h30
  refine relAsk_in (by rfl) ?_
  intro v31 h31
  obtain rfl : v31 = .bool true := h31
  refine relAsk_in (by rfl) ?_
  intro v32 h32
  obtain rfl : v32 = .bool true := h32
  refine relAsk_in (by rfl) ?_
  intro v33 h33
  obtain rfl : v33 = .bool true := h33
  refine relAsk_in (by rfl) ?_
  intro v34 h34
  obtain rfl : v34 = .bool true := h34
  refine relAsk_in (by rfl) ?_
  intro v35 h35
  obtain rfl : v35 = .bool true := h35
  refine relAsk_in (by rfl) ?_
  intro v36 h36
  obtain rfl : v36 = .bool true := h36
  refine relAsk_in (by rfl) ?_
  intro v37 h37
  obtain rfl : v37 = .agg (RulesK 0 (kf 0)) := h37
  refine relAsk_in (by rfl) ?_
  intro v38 h38
  obtain rfl : v38 = .agg #[.int .u64 255, .int .u64 0, .int .u64 0, .int .u64 0] := h38
  refine relAsk_in (by rfl) ?_
  intro v39 h39
  obtain rfl : v39 = .int .u64 10 := h39
  refine relAsk_in (by rfl) ?_
  intro v40 h40
  obtain rfl : v40 = .bool true := h40
  refine relAsk_in (by rfl) ?_
  intro v41 h41
  obtain rfl : v41 = .bool true := h41
  refine relAsk_in (by rfl) ?_
  intro v0 h0
  obtain rfl : v0 = .bool true := h0
  refine relAsk_nil ?_
  refine wpList_nil ?_
  go_simp
  have HB9 := Lib.hid (HB3.out.trans (hb9.mono HB3.out.size))
  go_wp2_with fail
  go_ret
  exact ⟨rfl, HB9.out⟩
end Go.Proofs.Ytiflfcdegpmhnaa
