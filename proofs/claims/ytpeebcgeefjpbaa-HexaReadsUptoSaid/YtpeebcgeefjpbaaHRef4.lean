/- The contract of the reference's Number: layer 4. -/
import Derived.Test.YtpeebcgeefjpbaaHSame
import Derived.Test.YtpeebcgeefjpbaaRefW
import Derived.Test.YtpeebcgeefjpbaaRShl
namespace Go.Proofs.Ytpeebcgeefjpbaa
open Go.RowKit

section
variable {ops : Array Oper} {T : Facts} {o : Oper} {a : Act} {w : World}
theorem op_callB {f : FuncId} {tys : Array TypeId} {R : World → Value → Prop} (x y : Operand) (ho : o.op = .call { callee := .value (.func f), args := #[x, y], argTypes := tys }) (he : ∀ args w, (callFunc f args).run Try.prog w = .ok (.enter f args) w) (hw : Region.wanted o (yielded ops a.tmps) = true)
    (h : Calls Try.prog f #[a.eval x, a.eval y] w (RetR R w)) (k : ∀ v w', R w' v → factTo T o.dst v w') : relStep Try.prog ops T o a w :=
  relStep_call f #[a.eval x, a.eval y] hw h k (by
    have hp : a.eval (.func f) = .func (.func f) #[] #[] := rfl
    have e := he #[a.eval x, a.eval y] w
    clear h hw k
    generalize a.eval = p at *
    unfold execOp
    rw [ho]
    go_simp)
end
theorem dv_take {ds : List Nat} {m : Nat} (h : m < ds.length) : dv 16 (ds.take (m + 1)).reverse = dv 16 (ds.take m).reverse * 2 ^ 4 + ds.getD m 0 := by
  have e1 : ds[m] = ds.getD m 0 := by rw [List.getD_eq_getElem?_getD, List.getElem?_eq_getElem (by omega)]; rfl
  rw [List.take_succ_eq_append_getElem h, List.reverse_append, e1]
  show ds.getD m 0 + 16 * dv 16 (ds.take m).reverse = _
  omega

set_option maxRecDepth 100000 in
set_option maxHeartbeats 6400000 in
theorem rnumber_c (s : ByteArray) (w : World) (hs : s.size ≤ 1073741824) : Calls Try.prog 10 #[.string s] w fun e w' =>
    e = .returned (.tuple #[W (rnumQ (rscan (runesAt s 0) 0 [])).1, .agg #[.int .i64 (rnumQ (rscan (runesAt s 0) 0 [])).2.1, .int .i64 (rnumQ (rscan (runesAt s 0) 0 [])).2.2]]) ∧ Below w.heap.size w w' := by
  obtain ⟨q, hq⟩ : ∃ q, q = rscan (runesAt s 0) 0 [] := ⟨_, rfl⟩
  have hds : Ds 16 q.1 := by rw [hq]; exact rscan_ds _ _ _ fun x hx => by cases hx
  have hln : q.1.length ≤ 1073741824 ∧ q.2 ≤ 1073741824 ∧ -1 ≤ q.2 := by
    rw [hq]
    have h1 := rscan_len (runesAt s 0) 0 []
    have h2 := runesAt_len s 0
    simp only [List.length_nil] at h1
    omega
  have r0 := (Arr.new4z w 30).alloc (.cells #[.int .i64 0, .int .i64 0] 25)
  have hw0 : ((w.alloc (.cells #[.int .u64 0, .int .u64 0, .int .u64 0, .int .u64 0] 30)).alloc (.cells #[.int .i64 0, .int .i64 0] 25)).heap[w.heap.size + 1]? = some (.cells #[.int .i64 0, .int .i64 0] 25 (0, 0)) := by
    have := heap_alloc_new (w.alloc (.cells #[.int .u64 0, .int .u64 0, .int .u64 0, .int .u64 0] 30)) (.cells #[.int .i64 0, .int .i64 0] 25)
    simpa using this
  have hX : ((w.alloc (.cells #[.int .u64 0, .int .u64 0, .int .u64 0, .int .u64 0] 30)).alloc (.cells #[.int .i64 0, .int .i64 0] 25)).heap.size = w.heap.size + 2 := by simp
  have C1 := rdigits_c s ((w.alloc (.cells #[.int .u64 0, .int .u64 0, .int .u64 0, .int .u64 0] 30)).alloc (.cells #[.int .i64 0, .int .i64 0] 25)) hs
  rw [← hq] at C1 ⊢
  have C1 := Lib.hid C1
  have HB0 := Lib.hid (((Below.refl w.heap.size w).alloc (Nat.le_refl _) (.cells #[.int .u64 0, .int .u64 0, .int .u64 0, .int .u64 0] 30)).alloc (by simp) (.cells #[.int .i64 0, .int .i64 0] 25))
  have HW0 := Lib.hid hw0
  have HR0 := Lib.hid r0
  have HX := Lib.hid hX
  have HDS := Lib.hid hds
  clear hq hds hw0 hX r0
  go_enter Try.func10, Try.ntmps10
  go_wp2_with fail
  (with_reducible refine C1.out.mono ?_)
  rintro e w1 ⟨v, rfl, hacc, hb1⟩
  have hf1 := (hb1.block (w.heap.size + 1) (by have := HX.out; omega)).trans HW0.out
  have hr1 := HR0.out.below hb1 (by have := HX.out; omega)
  have HB1 := Lib.hid (HB0.out.trans (hb1.mono (by have := HX.out; omega)))
  have hs1 : w.heap.size + 2 ≤ w1.heap.size := by have := hb1.size; have := HX.out; omega
  obtain ⟨A, c, rfl⟩ := hacc.form
  have HR := Lib.hid hacc.rd
  have HF1 := Lib.hid hf1
  have HR1 := Lib.hid hr1
  clear C1 HB0 HW0 HX HR0 hacc hb1 hf1 hr1
  obtain ⟨ds, at_⟩ := q
  obtain ⟨h1, h2, h3⟩ := hln
  dsimp only at *
  obtain ⟨L, hL⟩ : ∃ L, L = ds.length := ⟨_, rfl⟩
  obtain ⟨y, hy⟩ : ∃ y, y = ds.getD 0 0 := ⟨_, rfl⟩
  have hc0 : 0 < L → ∃ b o, A = some ⟨b, o, none⟩ ∧ w1.cell? ⟨b, o, none⟩ = some (.int .i64 (y : Nat)) := fun hp => by
    obtain ⟨b, o, e, _, hc⟩ := HR.out.at_ (by omega)
    exact ⟨b, o, e, by have := hc 0 (by omega); rw [Nat.add_zero, ← hy] at this; exact this⟩
  have hbr : rnumQ (ds, at_) = if 1 < L ∧ y = 0 then (0, 2, 3) else if 64 < L then (0, 3, 66) else if 0 ≤ at_ then (0, 2, at_) else if L = 0 then (0, 2, 2) else (dv 16 ds.reverse, 0, 0) := by
    unfold rnumQ; rw [hL, hy]
  rw [← hL] at h1 ⊢
  have HL := Lib.hid hL
  clear hL hy
  by_cases hA : 1 < L ∧ y = 0
  · rw [if_pos hA] at hbr
    have HBR := Lib.hid hbr
    obtain ⟨hA1, rfl⟩ := hA
    obtain ⟨b, o, rfl, cy⟩ := hc0 (by omega)
    have hA2 : (1 : Int) < (L : Int) := by omega
    have hA3 : (0 : Int) < (L : Int) := by omega
    clear hbr HR HDS hc0
    have C2 := Lib.hid (rfault_c 2 3 w1)
    go_wp2_with fail
    (with_reducible refine C2.out.mono ?_)
    rintro e w2 ⟨rfl, hb2⟩
    have hf2 := (hb2.block (w.heap.size + 1) (by omega)).trans HF1.out
    have hr2 := HR1.out.below hb2 (by omega)
    obtain ⟨c0, c1, f0, f1⟩ := two_cells hf2
    obtain ⟨y0, y1, y2, y3⟩ := hr2.cells4
    obtain ⟨z0, z1, z2, z3⟩ := hr2.free4
    have HB2 := Lib.hid (HB1.out.trans (hb2.mono (by omega)))
    clear C2 hf2 hb2 hr2
    go_wp2_with fail
    refine bodyPost_ret (v := .tuple #[W4 0 0 0 0, .agg #[.int .i64 2, .int .i64 3]]) (by simp [results, Try.results10, go_sem, c0, c1, y0, y1, y2, y3]) rfl ⟨?_, ?_⟩
    · rw [HBR.out]; show _ = Ending.returned (.tuple #[W 0, _]); rw [W_zero]; rfl
    · exact (below_put4 HB2.out (f := w.heap.size) (Nat.le_refl _) _ _ _ _).setCell (p := ⟨w.heap.size + 1, 0, none⟩) (by show w.heap.size ≤ w.heap.size + 1; omega) _ |>.setCell (p := ⟨w.heap.size + 1, 1, none⟩) (by show w.heap.size ≤ w.heap.size + 1; omega) _
  · rw [if_neg hA] at hbr
    have hcase : (¬ (1 : Int) < (L : Int)) ∨ ((1 : Int) < (L : Int) ∧ ((y : Int) == 0) = false) := by
      by_cases h : 1 < L
      · right; exact ⟨by omega, beq_eq_false_iff_ne.2 (by omega)⟩
      · left; omega
    clear hA
    by_cases hB : 64 < L
    · rw [if_pos hB] at hbr
      have HBR := Lib.hid hbr
      have hB2 : (64 : Int) < (L : Int) := by omega
      clear hbr HR HDS
      rcases hcase with hcase | ⟨hcase, hy0⟩
      · omega
      · obtain ⟨b, o, rfl, cy⟩ := hc0 (by omega)
        clear hc0
        have hA3 : (0 : Int) < (L : Int) := by omega
        have C2 := Lib.hid (rfault_c 3 66 w1)
        go_wp2_with fail
        (with_reducible refine C2.out.mono ?_)
        rintro e w2 ⟨rfl, hb2⟩
        have hf2 := (hb2.block (w.heap.size + 1) (by omega)).trans HF1.out
        have hr2 := HR1.out.below hb2 (by omega)
        obtain ⟨c0, c1, f0, f1⟩ := two_cells hf2
        obtain ⟨y0, y1, y2, y3⟩ := hr2.cells4
        obtain ⟨z0, z1, z2, z3⟩ := hr2.free4
        have HB2 := Lib.hid (HB1.out.trans (hb2.mono (by omega)))
        clear C2 hf2 hb2 hr2
        go_wp2_with fail
        refine bodyPost_ret (v := .tuple #[W4 0 0 0 0, .agg #[.int .i64 3, .int .i64 66]]) (by simp [results, Try.results10, go_sem, c0, c1, y0, y1, y2, y3]) rfl ⟨?_, ?_⟩
        · rw [HBR.out]; show _ = Ending.returned (.tuple #[W 0, _]); rw [W_zero]; rfl
        · exact (below_put4 HB2.out (f := w.heap.size) (Nat.le_refl _) _ _ _ _).setCell (p := ⟨w.heap.size + 1, 0, none⟩) (by show w.heap.size ≤ w.heap.size + 1; omega) _ |>.setCell (p := ⟨w.heap.size + 1, 1, none⟩) (by show w.heap.size ≤ w.heap.size + 1; omega) _
    · rw [if_neg hB] at hbr
      have hB2 : ¬ (64 : Int) < (L : Int) := by omega
      by_cases hC : 0 ≤ at_
      · rw [if_pos hC] at hbr
        have HBR := Lib.hid hbr
        clear hbr HR HDS
        rcases hcase with hcase | ⟨hcase, hy0⟩
        rotate_left
        · obtain ⟨b, o, rfl, cy⟩ := hc0 (by omega)
          have hA3 : (0 : Int) < (L : Int) := by omega
          clear hc0
          have C2 := Lib.hid (rfault_c 2 at_ w1)
          go_wp2_with fail
          (with_reducible refine C2.out.mono ?_)
          rintro e w2 ⟨rfl, hb2⟩
          have hf2 := (hb2.block (w.heap.size + 1) (by omega)).trans HF1.out
          have hr2 := HR1.out.below hb2 (by omega)
          obtain ⟨c0, c1, f0, f1⟩ := two_cells hf2
          obtain ⟨y0, y1, y2, y3⟩ := hr2.cells4
          obtain ⟨z0, z1, z2, z3⟩ := hr2.free4
          have HB2 := Lib.hid (HB1.out.trans (hb2.mono (by omega)))
          clear C2 hf2 hb2 hr2
          go_wp2_with fail
          refine bodyPost_ret (v := .tuple #[W4 0 0 0 0, .agg #[.int .i64 2, .int .i64 at_]]) (by simp [results, Try.results10, go_sem, c0, c1, y0, y1, y2, y3]) rfl ⟨?_, ?_⟩
          · rw [HBR.out]; show _ = Ending.returned (.tuple #[W 0, _]); rw [W_zero]; rfl
          · exact (below_put4 HB2.out (f := w.heap.size) (Nat.le_refl _) _ _ _ _).setCell (p := ⟨w.heap.size + 1, 0, none⟩) (by show w.heap.size ≤ w.heap.size + 1; omega) _ |>.setCell (p := ⟨w.heap.size + 1, 1, none⟩) (by show w.heap.size ≤ w.heap.size + 1; omega) _
        · clear hc0
          have C2 := Lib.hid (rfault_c 2 at_ w1)
          go_wp2_with fail
          (with_reducible refine C2.out.mono ?_)
          rintro e w2 ⟨rfl, hb2⟩
          have hf2 := (hb2.block (w.heap.size + 1) (by omega)).trans HF1.out
          have hr2 := HR1.out.below hb2 (by omega)
          obtain ⟨c0, c1, f0, f1⟩ := two_cells hf2
          obtain ⟨y0, y1, y2, y3⟩ := hr2.cells4
          obtain ⟨z0, z1, z2, z3⟩ := hr2.free4
          have HB2 := Lib.hid (HB1.out.trans (hb2.mono (by omega)))
          clear C2 hf2 hb2 hr2
          go_wp2_with fail
          refine bodyPost_ret (v := .tuple #[W4 0 0 0 0, .agg #[.int .i64 2, .int .i64 at_]]) (by simp [results, Try.results10, go_sem, c0, c1, y0, y1, y2, y3]) rfl ⟨?_, ?_⟩
          · rw [HBR.out]; show _ = Ending.returned (.tuple #[W 0, _]); rw [W_zero]; rfl
          · exact (below_put4 HB2.out (f := w.heap.size) (Nat.le_refl _) _ _ _ _).setCell (p := ⟨w.heap.size + 1, 0, none⟩) (by show w.heap.size ≤ w.heap.size + 1; omega) _ |>.setCell (p := ⟨w.heap.size + 1, 1, none⟩) (by show w.heap.size ≤ w.heap.size + 1; omega) _
      · rw [if_neg hC] at hbr
        by_cases hD : L = 0
        · rw [if_pos hD] at hbr
          have HBR := Lib.hid hbr
          have hD2 : (L : Int) = 0 := by omega
          have hD3 : ((L : Int) == 0) = true := by rw [hD2]; rfl
          clear hbr HR HDS
          rcases hcase with hcase | ⟨hcase, hy0⟩
          · clear hc0
            have C2 := Lib.hid (rfault_c 2 2 w1)
            go_wp2_with fail
            (with_reducible refine C2.out.mono ?_)
            rintro e w2 ⟨rfl, hb2⟩
            have hf2 := (hb2.block (w.heap.size + 1) (by omega)).trans HF1.out
            have hr2 := HR1.out.below hb2 (by omega)
            obtain ⟨c0, c1, f0, f1⟩ := two_cells hf2
            obtain ⟨y0, y1, y2, y3⟩ := hr2.cells4
            obtain ⟨z0, z1, z2, z3⟩ := hr2.free4
            have HB2 := Lib.hid (HB1.out.trans (hb2.mono (by omega)))
            clear C2 hf2 hb2 hr2
            go_wp2_with fail
            refine bodyPost_ret (v := .tuple #[W4 0 0 0 0, .agg #[.int .i64 2, .int .i64 2]]) (by simp [results, Try.results10, go_sem, c0, c1, y0, y1, y2, y3]) rfl ⟨?_, ?_⟩
            · rw [HBR.out]; show _ = Ending.returned (.tuple #[W 0, _]); rw [W_zero]; rfl
            · exact (below_put4 HB2.out (f := w.heap.size) (Nat.le_refl _) _ _ _ _).setCell (p := ⟨w.heap.size + 1, 0, none⟩) (by show w.heap.size ≤ w.heap.size + 1; omega) _ |>.setCell (p := ⟨w.heap.size + 1, 1, none⟩) (by show w.heap.size ≤ w.heap.size + 1; omega) _
          · omega
        · rw [if_neg hD] at hbr
          have HBR := Lib.hid hbr
          have hD2 : ¬ (L : Int) = 0 := by omega
          have hD3 : ((L : Int) == 0) = false := beq_eq_false_iff_ne.2 hD2
          have hC2 : ¬ (0 : Int) ≤ at_ := hC
          obtain ⟨b, o, rfl, cy⟩ := hc0 (by omega)
          have hA3 : (0 : Int) < (L : Int) := by omega
          have hL64 : L ≤ 64 := by omega
          clear hbr hc0 hC hD hB
          rcases hcase with hcase | ⟨hcase, hy0⟩
          all_goals
            go_wp2_with fail
            go_loopw [6, 7] (fun u i wr => ∃ (n cc m acc : Nat) (B : Option Addr), u = .slice B n cc ∧ i = .int .i64 (m : Int) ∧ m ≤ L ∧ Hid (acc = dv 16 (ds.take m).reverse) ∧ Hid (Num wr u acc (3 * m + 1)) ∧ Hid (Below w1.heap.size w1 wr))
              (fun _ i _ => L - (intOf i).toNat)
            case atStart => exact ⟨0, 0, 0, 0, none, rfl, rfl, Nat.zero_le _, rfl, (Num.nil _).mono (by omega), Below.refl _ _⟩
            case round =>
              obtain ⟨n, cc, m, acc, B, rfl, rfl, hm, hac, HN, hbel⟩ := hrel
              by_cases hlt : (m : Int) < (L : Int)
              · obtain ⟨b', o', e, hbb, hcell⟩ := HR.out.at_ (by have := HL.out; omega)
                injection e with e
                injection e with e1 e2
                subst e1 e2
                have cx := (hbel.out.cell (p := ⟨b, o + m, none⟩) hbb).trans (hcell m (by have := HL.out; omega))
                have hbW : b < wr.heap.size := Nat.lt_of_lt_of_le hbb hbel.out.size
                have hnext := dv_take (ds := ds) (m := m) (by have := HL.out; omega)
                obtain ⟨x, ex⟩ : ∃ x, x = ds.getD m 0 := ⟨_, rfl⟩
                have hx16 : x < 16 := by rw [ex]; exact HDS.out.get (by omega) m
                rw [← ex, ← hac.out] at hnext
                rw [← ex] at cx
                have wx : IntKind.u64.wrap (x : Int) = (x : Int) := by rw [wrapU, Nat.mod_eq_of_lt (by omega)]
                have HNX := Lib.hid hnext
                clear ex hcell hbb hnext hac cy
                go_wp2_with fail
                refine wp_region_see 9 [45, 46, 47, 48, 49, 50, 51, 52, 53] [(45, .num acc (3 * m + 1)), (46, .num (acc * 2 ^ 4) (3 * m + 1 + 4 / 32 + 1)), (47, .is (.slice (some ⟨b, o, none⟩) L c)), (48, .is (.int .i64 (m : Nat))), (49, .is (.pointer (some ⟨b, o + m, none⟩))), (50, .is (.int .i64 (x : Nat))), (51, .is (.int .u64 (x : Nat))), (52, .num x 2), (53, .num (acc * 2 ^ 4 + x) (max (3 * m + 1 + 4 / 32 + 1) 2 + 1))] (by kernel_rfl) (by kernel_rfl) (by rfl) ?_ ?_
                · refine seeOps_cons ?_ (seeOps_cons ?_ (seeOps_cons ?_ (seeOps_cons ?_ (seeOps_cons ?_ (seeOps_cons ?_ (seeOps_cons ?_ (seeOps_cons ?_ (seeOps_cons ?_ seeOps_nil))))))))
                  · intro w' hb' fr hout hin
                    have e6 : fr.tmps.getD 6 undef = .slice B n cc := hout 6 (by decide)
                    clear hout hin
                    exact relStep_move (.tmp 6) rfl (wanted_none rfl) (by show Num w' (fr.tmps.getD 6 undef) acc (3 * m + 1); rw [e6]; exact HN.out.below hb')
                  · intro w' hb' fr hout hin
                    have h45 : Num w' (fr.tmps.getD 45 undef) acc (3 * m + 1) := hin 45 (by decide) (by decide)
                    clear hout hin
                    exact op_callB (.tmp 45) (.const (.int .i64 4)) rfl (fun _ _ => by go_simp) (wanted_none rfl) (rshl_n w' h45 (by omega) 4 (by decide)) (fun _ _ h => h)
                  · intro w' hb' fr hout hin
                    have e1 : fr.tmps.getD 4 undef = (.slice (some ⟨b, o, none⟩) L c) := hout 4 (by decide)
                    clear hout hin
                    exact relStep_move (.tmp 4) rfl (wanted_none rfl) (by show fr.tmps.getD 4 undef = _; rw [e1])
                  · intro w' hb' fr hout hin
                    have e1 : fr.tmps.getD 7 undef = (.int .i64 (m : Nat)) := hout 7 (by decide)
                    clear hout hin
                    exact relStep_move (.tmp 7) rfl (wanted_none rfl) (by show fr.tmps.getD 7 undef = _; rw [e1])
                  · intro w' hb' fr hout hin
                    have h47 : fr.tmps.getD 47 undef = (.slice (some ⟨b, o, none⟩) L c) := hin 47 (by decide) (by decide)
                    have h48 : fr.tmps.getD 48 undef = (.int .i64 (m : Nat)) := hin 48 (by decide) (by decide)
                    clear hout hin
                    exact relStep_val (.pointer (some ⟨b, o + m, none⟩)) (wanted_none rfl) rfl (by have hh := And.intro h47 h48; go_simp)
                  · intro w' hb' fr hout hin
                    have h49 : fr.tmps.getD 49 undef = (.pointer (some ⟨b, o + m, none⟩)) := hin 49 (by decide) (by decide)
                    have cx := (hb'.cell (p := ⟨b, o + m, none⟩) hbW).trans cx
                    clear hout hin
                    exact relStep_val (.int .i64 (x : Nat)) (wanted_none rfl) rfl (by have hh := h49; go_simp)
                  · intro w' hb' fr hout hin
                    have h50 : fr.tmps.getD 50 undef = (.int .i64 (x : Nat)) := hin 50 (by decide) (by decide)
                    clear hout hin
                    exact relStep_val (.int .u64 (x : Nat)) (wanted_none rfl) rfl (by have hh := h50; go_simp)
                  · intro w' hb' fr hout hin
                    have h51 : fr.tmps.getD 51 undef = (.int .u64 (x : Nat)) := hin 51 (by decide) (by decide)
                    clear hout hin
                    exact relStep_call 35 #[.int .u64 (x : Nat)] (wanted_none rfl) (rof_c x (by omega) _) (fun _ _ h => h) (by have hh := h51; go_simp)
                  · intro w' hb' fr hout hin
                    have h46 : Num w' (fr.tmps.getD 46 undef) (acc * 2 ^ 4) (3 * m + 1 + 4 / 32 + 1) := hin 46 (by decide) (by decide)
                    have h52 : Num w' (fr.tmps.getD 52 undef) x 2 := hin 52 (by decide) (by decide)
                    clear hout hin
                    exact op_callB (.tmp 46) (.tmp 52) rfl (fun _ _ => by go_simp) (wanted_none rfl) (radd_n w' h46 h52 (by omega) (by omega)) (fun _ _ h => h)
                · intro w' hb'
                  refine relAsk_in (by rfl) ?_
                  intro v45 h45
                  refine relAsk_in (by rfl) ?_
                  intro v46 h46
                  refine relAsk_in (by rfl) ?_
                  intro v47 h47
                  refine relAsk_in (by rfl) ?_
                  intro v48 h48
                  refine relAsk_in (by rfl) ?_
                  intro v49 h49
                  refine relAsk_in (by rfl) ?_
                  intro v50 h50
                  refine relAsk_in (by rfl) ?_
                  intro v51 h51
                  refine relAsk_in (by rfl) ?_
                  intro v52 h52
                  refine relAsk_in (by rfl) ?_
                  intro v53 h53
                  refine relAsk_nil ?_
                  have HN2 : Hid (Num w' v53 (acc * 2 ^ 4 + x) (max (3 * m + 1 + 4 / 32 + 1) 2 + 1)) := h53
                  clear h45 h46 h47 h48 h49 h50 h51 h52 h53
                  obtain ⟨A3, c3, xs3, rfl, hrest⟩ := HN2.out
                  have HN3 : Hid (Num w' (.slice A3 xs3.length c3) (acc * 2 ^ 4 + x) (3 * (m + 1) + 1)) := Num.mono ⟨A3, c3, xs3, rfl, hrest⟩ (by omega)
                  generalize xs3.length = n3 at *
                  have HB3 := Lib.hid (hbel.out.trans (hb'.mono hbel.out.size))
                  clear HN2 HN hrest hbel hb' cx
                  go_simp
                  go_wp2_with fail
                  go_roundw
                  case rel => exact ⟨n3, c3, m + 1, _, A3, rfl, by go_num, by omega, HNX.out.symm, HN3.out, HB3.out⟩
                  case measure => simp [intOf]; omega
              · obtain rfl : m = L := by omega
                have hac2 := hac.out
                rw [List.take_of_length_le (by have := HL.out; omega)] at hac2
                obtain ⟨A', c', xs, e, k1, k2, k3⟩ := HN.out
                injection e with e1 e2 e3
                subst e1 e3
                have hbig : acc < 115792089237316195423570985008687907853269984665640564039457584007913129639936 := by
                  have h := dv_lt ds.reverse HDS.out.reverse
                  rw [List.length_reverse, ← HL.out] at h
                  have h2 : 16 ^ m ≤ 16 ^ 64 := Nat.pow_le_pow_right (by decide) hL64
                  have h3 : 16 ^ 64 = 115792089237316195423570985008687907853269984665640564039457584007913129639936 := by decide
                  rw [hac2]; omega
                have k4 := rW_c wr k1 k2 (by omega)
                rw [← e2, Nat.mod_eq_of_lt hbig] at k4
                have K4 := Lib.hid k4
                have HAC := Lib.hid hac2
                have hf2 := (hbel.out.block (w.heap.size + 1) (by omega)).trans HF1.out
                have hr2 := HR1.out.below hbel.out (by omega)
                have HB2 := Lib.hid (HB1.out.trans (hbel.out.mono (by omega)))
                have hsz := hbel.out.size
                have HF2 := Lib.hid hf2
                have HR2 := Lib.hid hr2
                clear k1 k2 k3 k4 HN hac hac2 e2 hbig hbel hf2 hr2
                go_wp2_with fail
                (with_reducible refine K4.out.mono ?_)
                rintro e w3 hw
                obtain ⟨rfl, hb3⟩ := hw.val
                have hf3 := (hb3.block (w.heap.size + 1) (by omega)).trans HF2.out
                have hr3 := HR2.out.below hb3 (by omega)
                obtain ⟨c0, c1, f0, f1⟩ := two_cells hf3
                obtain ⟨y0, y1, y2, y3⟩ := hr3.cells4
                obtain ⟨z0, z1, z2, z3⟩ := hr3.free4
                have HB3 := Lib.hid (HB2.out.trans (hb3.mono (by omega)))
                clear K4 hw hb3 hf3 hr3 HF2 HR2 HB2
                go_wp2_with fail
                refine bodyPost_ret (v := .tuple #[W acc, .agg #[.int .i64 0, .int .i64 0]]) (by simp [results, Try.results10, go_sem, c0, c1, y0, y1, y2, y3]) rfl ⟨?_, ?_⟩
                · rw [HBR.out, ← HAC.out]
                · exact (below_put4 HB3.out (f := w.heap.size) (Nat.le_refl _) _ _ _ _).setCell (p := ⟨w.heap.size + 1, 0, none⟩) (by show w.heap.size ≤ w.heap.size + 1; omega) _ |>.setCell (p := ⟨w.heap.size + 1, 1, none⟩) (by show w.heap.size ≤ w.heap.size + 1; omega) _
end Go.Proofs.Ytpeebcgeefjpbaa
