/- The law ForkRules. -/
import Derived.Test.YtijoafmbmplgcaaDoorFkOps
import Derived.Laws.StructEq
namespace Go.Proofs.YtijoafmbmplgcaaDoor
open Go.RowKit

theorem eqFields_same {P : Program} {d : Nat} {xs : Array Value} (w : World) : ∀ fs : List Field, (∀ f ∈ fs, ∃ v, (part f.type xs f.offset).run P w = .ok v w ∧ (Op.equalIn d f.type v v).run P w = .ok true w) → (Op.eqFields d xs xs fs).run P w = .ok true w := by
  intro fs
  induction fs with
  | nil => intro _; simp [Op.eqFields]
  | cons f fs ih =>
    intro h
    obtain ⟨v, h1, h2⟩ := h f (by simp)
    have h3 := ih fun g hg => h g (by simp [hg])
    simp only [Op.eqFields, Sem.run_bind, Sem.run_ite, h1, h2, Result.andThen_ok]
    split
    · simp [h3]
    · simp [h3]
theorem rules_int (f : Int) : ∀ i, i < 26 → ∃ k z, (RulesC f)[i]? = some (.int k z) := by
  intro i hi
  rcases (show i = 0 ∨ i = 1 ∨ i = 2 ∨ i = 3 ∨ i = 4 ∨ i = 5 ∨ i = 6 ∨ i = 7 ∨ i = 8 ∨ i = 9 ∨ i = 10 ∨ i = 11 ∨ i = 12 ∨ i = 13 ∨ i = 14 ∨ i = 15 ∨ i = 16 ∨ i = 17 ∨ i = 18 ∨ i = 19 ∨ i = 20 ∨ i = 21 ∨ i = 22 ∨ i = 23 ∨ i = 24 ∨ i = 25 by omega) with rfl | rfl | rfl | rfl | rfl | rfl | rfl | rfl | rfl | rfl | rfl | rfl | rfl | rfl | rfl | rfl | rfl | rfl | rfl | rfl | rfl | rfl | rfl | rfl | rfl | rfl <;> exact ⟨_, _, rfl⟩
theorem rules0_int : ∀ i, i < 26 → ∃ k z, Rules0C[i]? = some (.int k z) := by
  intro i hi
  rcases (show i = 0 ∨ i = 1 ∨ i = 2 ∨ i = 3 ∨ i = 4 ∨ i = 5 ∨ i = 6 ∨ i = 7 ∨ i = 8 ∨ i = 9 ∨ i = 10 ∨ i = 11 ∨ i = 12 ∨ i = 13 ∨ i = 14 ∨ i = 15 ∨ i = 16 ∨ i = 17 ∨ i = 18 ∨ i = 19 ∨ i = 20 ∨ i = 21 ∨ i = 22 ∨ i = 23 ∨ i = 24 ∨ i = 25 by omega) with rfl | rfl | rfl | rfl | rfl | rfl | rfl | rfl | rfl | rfl | rfl | rfl | rfl | rfl | rfl | rfl | rfl | rfl | rfl | rfl | rfl | rfl | rfl | rfl | rfl | rfl <;> exact ⟨_, _, rfl⟩
theorem rulesFields : (Tryd.prog.fieldsOf 41).toList.all (fun f => (f.type == 3 || f.type == 22) && decide (f.offset < 26)) = true := by kernel_rfl
theorem rulesStruct : Tryd.prog.underlying 41 = some (.struct (Tryd.prog.fieldsOf 41)) := by kernel_rfl
theorem rulesStood : Tryd.prog.stoodInHeld 41 = false := by kernel_rfl
theorem eqRules {cs : Array Value} (hcs : ∀ i, i < 26 → ∃ k z, cs[i]? = some (.int k z)) (w : World) : (Op.equalIn 10000 41 (.agg cs) (.agg cs)).run Tryd.prog w = .ok true w := by
  rw [run_equalIn_struct w 9999 _ _ _ rulesStruct rulesStood]
  refine eqFields_same w _ fun f hf => ?_
  have h := List.all_eq_true.1 rulesFields f hf
  simp only [Bool.and_eq_true, Bool.or_eq_true, beq_iff_eq, decide_eq_true_eq] at h
  obtain ⟨ht, ho⟩ := h
  obtain ⟨k, z, hk⟩ := hcs f.offset ho
  refine ⟨.int k z, ?_, ?_⟩
  · have ha : (isAgg f.type).run Tryd.prog w = .ok false w := by rcases ht with e | e <;> rw [e] <;> kernel_rfl
    unfold part
    rw [Sem.run_bind, ha]
    simp [hk]
  · rcases ht with e | e
    · rw [e, run_equalIn_int w 9998 _ _ _ _ _ Tryd.underlying3]; simp
    · rw [e, run_equalIn_int w 9998 _ _ _ _ _ Tryd.underlying22]; simp
/-- The cells that Of tells, whatever the fork. -/
def ofC (f : Int) : Array Value := if 0 ≤ f ∧ f ≤ 15 then RulesC f else Rules0C
theorem ofC_size (f : Int) : (ofC f).size = 26 := by unfold ofC; split <;> rfl
theorem ofC_int (f : Int) : ∀ i, i < 26 → ∃ k z, (ofC f)[i]? = some (.int k z) := by
  unfold ofC
  split
  · exact rules_int f
  · exact rules0_int
theorem ofC_one (f : Int) : (ofC f).all (·.oneCell') = true := by
  unfold ofC
  split
  · exact rules_one f
  · simp [Rules0C, Value.oneCell']

set_option maxRecDepth 100000 in
set_option maxHeartbeats 6400000 in
theorem forkRules_c (w : World) (hN : NamesAt w) (f : Int) (hf0 : -9223372036854775808 ≤ f) (hf1 : f < 9223372036854775808) : Calls Tryd.prog 4 #[.int .i64 f] w (RetV (.bool true) w) := by
  obtain ⟨b, hb⟩ : ∃ b : Bool, b = decide (0 ≤ f ∧ f ≤ 15) := ⟨_, rfl⟩
  obtain ⟨z, hz⟩ : ∃ z : Int, z = if 0 ≤ f ∧ f ≤ 15 then 0 else 1 := ⟨_, rfl⟩
  have KO : Hid (∀ W, Calls Tryd.prog 14 #[.int .i64 f] W (RetV (.tuple #[.agg (ofC f), .int .i64 z]) W)) := fun W => by
    have h := cOf f W
    unfold ofV at h
    rw [hz]; unfold ofC
    by_cases c : 0 ≤ f ∧ f ≤ 15
    · rw [if_pos c] at h ⊢; rw [if_pos c]; exact h
    · rw [if_neg c] at h ⊢; rw [if_neg c]; exact h
  have KR : Hid (∀ W, Calls Tryd.prog 15 #[.int .i64 f] W (RetV (.tuple #[.agg (ofC f), .bool b]) W)) := fun W => by
    rw [hb]; unfold ofC
    by_cases c : 0 ≤ f ∧ f ≤ 15
    · rw [if_pos c, decide_eq_true c]; exact rfkof_c f W c.1 c.2
    · rw [if_neg c, decide_eq_false c]; exact rfkof_no f W (by omega)
  have hbz : (b = true ∧ z = 0) ∨ (b = false ∧ z = 1) := by
    by_cases c : 0 ≤ f ∧ f ≤ 15
    · exact .inl ⟨by rw [hb]; exact decide_eq_true c, by rw [hz, if_pos c]⟩
    · exact .inr ⟨by rw [hb]; exact decide_eq_false c, by rw [hz, if_neg c]⟩
  obtain ⟨S, hS⟩ : ∃ S, S = nameZ f := ⟨_, rfl⟩
  have KW : Hid (∀ W, Below w.heap.size w W → Calls Tryd.prog 13 #[] W (RetV (.bool true) W)) := fun W hW => fkwakes_c W (hN.below hW)
  have KN : Hid (∀ W, Below w.heap.size w W → Calls Tryd.prog 16 #[.int .i64 f] W (RetV (.string S) W)) := fun W hW => by rw [hS]; exact cName f ⟨hf0, by omega⟩ W (hN.below hW)
  clear hN
  have KM : Hid (∀ W, Calls Tryd.prog 17 #[.int .i64 f] W (RetV (.string S) W)) := fun W => by rw [hS]; exact rname_c f ⟨hf0, by omega⟩ W
  have HSZ := Lib.hid (ofC_size f)
  have H1 := Lib.hid (ofC_one f)
  have QE : Hid (∀ W, (Op.equalIn 10000 41 (.agg (ofC f)) (.agg (ofC f))).run Tryd.prog W = .ok true W) := fun W => eqRules (ofC_int f) W
  generalize ofC f = C at *
  clear hb hz hS hf0 hf1
  go_enter Tryd.func4, Tryd.ntmps4
  go_wp2_with fail
  rename_i KK hKK
  (with_reducible refine (KO.out _).mono ?_)
  rintro e w1 ⟨rfl, hb1⟩
  show KK _ _
  refine hKK _ _ ?_
  clear hKK KK
  iterate 4 (refine wpList_plain rfl fun K hK => ?_; go_simp; refine hK _ _ ?_; clear hK K)
  have hg : (w1.alloc (.cells Rules0C 41)).heap[w1.heap.size]? = some (.cells Rules0C 41 (0, 0)) := heap_alloc_new w1 _
  have hb : Below w.heap.size w (w1.alloc (.cells Rules0C 41)) := hb1.alloc hb1.size _
  refine wpList_store_row rfl 41 (.tmp 3) (.tmp 10) rfl w1.heap.size C rfl rfl 41 Rules0C hg (by rw [infoRules, HSZ.out]) (by rw [HSZ.out]; rfl) H1.out ?_
  have hg2 := setRow_heap (w1.alloc (.cells Rules0C 41)) w1.heap.size _ C 41 (0, 0) hg
  have hb2 := below_setRow hb hb1.size C
  have hs2 : w1.heap.size < ((w1.alloc (.cells Rules0C 41)).setRow w1.heap.size C).heap.size := (Array.getElem?_eq_some_iff.1 hg2).1
  show wpList _ _ _ _ _ ((w1.alloc (.cells Rules0C 41)).setRow w1.heap.size C)
  generalize (w1.alloc (.cells Rules0C 41)).setRow w1.heap.size C = Y at *
  have HG2 := Lib.hid hg2
  have HB2 := Lib.hid hb2
  have HS2 := Lib.hid hs2
  clear hg hg2 hb hb2 hb1 hs2
  refine wpList_plain rfl fun K hK => ?_; go_simp; refine hK _ _ ?_; clear hK K
  refine wpList_nil ?_
  go_simp
  go_wp2_with fail
  rename_i KK hKK
  (with_reducible refine (KR.out _).mono ?_)
  rintro e w2 ⟨rfl, hb3⟩
  show KK _ _
  refine hKK _ _ ?_
  clear hKK KK
  iterate 4 (refine wpList_plain rfl fun K hK => ?_; go_simp; refine hK _ _ ?_; clear hK K)
  have hg : (w2.alloc (.cells Rules0C 41)).heap[w2.heap.size]? = some (.cells Rules0C 41 (0, 0)) := heap_alloc_new w2 _
  have hb4 := hb3.alloc hb3.size (.cells Rules0C 41)
  refine wpList_store_row rfl 41 (.tmp 5) (.tmp 15) rfl w2.heap.size C rfl rfl 41 Rules0C hg (by rw [infoRules, HSZ.out]) (by rw [HSZ.out]; rfl) H1.out ?_
  have hg3 := setRow_heap (w2.alloc (.cells Rules0C 41)) w2.heap.size _ C 41 (0, 0) hg
  have hb5 := below_setRow hb4 hb3.size C
  show wpList _ _ _ _ _ ((w2.alloc (.cells Rules0C 41)).setRow w2.heap.size C)
  generalize (w2.alloc (.cells Rules0C 41)).setRow w2.heap.size C = Z at *
  have HG3 : Hid (Z.heap[w1.heap.size]? = some (.cells C 41 (0, 0))) := (hb5.block _ HS2.out).trans HG2.out
  have HG4 := Lib.hid hg3
  have HB5 := Lib.hid (HB2.out.trans (hb5.mono HB2.out.size))
  clear hg hg3 hb3 hb4 hb5 HG2 HB2 HS2
  refine wpList_plain rfl fun K hK => ?_; go_simp; refine hK _ _ ?_; clear hK K
  refine wpList_nil ?_
  go_simp
  have qe := QE.out
  rcases hbz with ⟨rfl, rfl⟩ | ⟨rfl, rfl⟩
  all_goals
    go_upto_region 3 with (fail)
    refine wp_region_lit ?_
    refine wpList_load_row rfl 41 (.tmp 3) rfl w1.heap.size rfl 41 C (0, 0) _ HG3.out Tryd.underlying41 rfl (by rw [infoRules, HSZ.out]) ?_
    refine wpList_load_row rfl 41 (.tmp 5) rfl w2.heap.size rfl 41 C (0, 0) _ HG4.out Tryd.underlying41 rfl (by rw [infoRules, HSZ.out]) ?_
    go_simp
    go_wp2_with fail
    (with_reducible refine (KN.out _ HB5.out).mono ?_)
    rintro e w3 ⟨rfl, hb6⟩
    have HB6 := Lib.hid (HB5.out.trans (hb6.mono HB5.out.size))
    clear hb6 HB5
    go_wp2_with fail
    (with_reducible refine (KM.out _).mono ?_)
    rintro e w4 ⟨rfl, hb7⟩
    have HB7 := Lib.hid (HB6.out.trans (hb7.mono HB6.out.size))
    clear hb7 HB6
    go_wp2_with fail
    (with_reducible refine (KW.out _ HB7.out).mono ?_)
    rintro e w5 ⟨rfl, hb8⟩
    have HB8 := Lib.hid (HB7.out.trans (hb8.mono HB7.out.size))
    clear hb8 HB7
    go_wp2_with fail
    go_ret
    exact ⟨rfl, HB8.out⟩
end Go.Proofs.YtijoafmbmplgcaaDoor
