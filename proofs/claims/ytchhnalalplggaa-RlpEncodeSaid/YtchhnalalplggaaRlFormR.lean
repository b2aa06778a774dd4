/- The reference's form of an item, and its Encode. -/
import Derived.Test.YtchhnalalplggaaRlHeadR
import Derived.Test.YtchhnalalplggaaRlDepth
namespace Go.Proofs.Ytchhnalalplggaa
open Go.RowKit

/-- append to a slice that a call owns, of nothing. -/
theorem step_append_none {P : Program} {ops : Array Oper} {o : Oper} {a : Act} {w : World} {K : Act → World → Prop} {Q : Exit → Act → World → Prop} {E : Prop} (hgd : o.guard = none) (s x : Operand) (t : TypeId)
    (ho : o.op = .call { callee := .builtin .append, args := #[s, x], argTypes := #[t, t] })
    (base : Nat) (e : TypeId) (i : TypeInfo) (size : Nat) (ht : P.underlying t = some (.slice e)) (hi : P.info? e = some i)
    (v : Value) (n : Nat) (xs : List Value) (hs : a.eval s = v) (hown : w.ownsRow base e size v n xs) (hx : a.eval x = .slice none 0 0)
    (h : K (a.put o.dst v) w) : if Region.wanted o (yielded ops a.tmps) = true then o.wp P a w K Q else E := by
  have hw : Region.wanted o (yielded ops a.tmps) = true := by simp [Region.wanted, hgd]
  rw [if_pos hw]
  have hrun := run_append_owned_none (P := P) (w := w) base t o.type e i size ht hi v n xs hown
  unfold Oper.wp
  simp [execOp, ho, resolve, invoke, builtin, hs, hx, hrun, Result.andThen]
  exact h
/-- A call of a function of two arguments, as one step of a region that draws. -/
theorem step_call2 {ops : Array Oper} {o : Oper} {a : Act} {w : World} {K : Act → World → Prop} {Q : Exit → Act → World → Prop} {E : Prop} (hgd : o.guard = none) (f : FuncId) (x y : Operand) {tys : Array TypeId}
    (ho : o.op = .call { callee := .value (.func f), args := #[x, y], argTypes := tys }) (he : ∀ args w, (callFunc f args).run Try.prog w = .ok (.enter f args) w) {R : Ending → World → Prop} (args : Array Value) (ha : #[a.eval x, a.eval y] = args)
    (h : Calls Try.prog f args w R) (hR : ∀ e w', R e w' → ∃ v, e = .returned v ∧ K (a.put o.dst v) w') : if Region.wanted o (yielded ops a.tmps) = true then o.wp Try.prog a w K Q else E := by
  have hw : Region.wanted o (yielded ops a.tmps) = true := by simp [Region.wanted, hgd]
  rw [if_pos hw]
  subst ha
  have e : (execOp a.eval o).run Try.prog w = .ok (.enter f #[a.eval x, a.eval y]) w := by
    have hp : a.eval (.func f) = .func (.func f) #[] #[] := rfl
    have e := he #[a.eval x, a.eval y] w
    clear h hw hR
    generalize a.eval = p at *
    unfold execOp
    rw [ho]
    go_simp
  unfold Oper.wp
  rw [e]
  refine h.mono fun e w' hr => ?_
  obtain ⟨v, rfl, hk⟩ := hR e w' hr
  exact hk
theorem en_rhead (args : Array Value) (w : World) : (callFunc 57 args).run Try.prog w = .ok (.enter 57 args) w := by go_simp

def FrmC (x : Itm) : Prop := ∀ (S : Nat → Prop) (w : World) (vx : Value), fsz x ≤ 16777216 → IAt S w vx x → Calls Try.prog 37 #[vx] w (RetR (fun w' v => Acc w' w.heap.size v (form x)) w)

set_option maxRecDepth 100000 in
set_option maxHeartbeats 6400000 in
theorem frm_text (bs : List Nat) (xs : List Itm) : FrmC (.mk false bs xs) := by
  intro S w vx hsz hx
  obtain ⟨l0, a1, m1, c1, b1, k1, cp1, rfl⟩ := hx.parts
  obtain ⟨hl0, ⟨a1', c1', hsl, hr1, hd1⟩, -⟩ := hx.inv
  injection hl0 with hl0
  subst hl0
  injection hsl with e1 e2 e3
  subst e1 e2 e3
  rw [fsz, if_neg (by simp)] at hsz
  have hq : form (.mk false bs xs) = formT bs := by rw [form, if_neg (by simp)]
  rw [hq]
  have hbl : bs.length ≤ 16777216 := by
    unfold tsz at hsz
    split at hsz
    · rename_i h
      unfold bareB at h
      simp at h
      omega
    · omega
  have hbx : Below w.heap.size w (w.alloc (.cells #[.bool false, .slice a1 bs.length c1, .slice b1 k1 cp1] 25)) := (Below.refl w.heap.size w).alloc (Nat.le_refl _) _
  have hp1 := heap_alloc_new w (.cells #[.bool false, .slice a1 bs.length c1, .slice b1 k1 cp1] 25)
  have hsz1 : (w.alloc (.cells #[.bool false, .slice a1 bs.length c1, .slice b1 k1 cp1] 25)).heap.size = w.heap.size + 1 := by simp
  obtain ⟨i0, hi, hz0, hz1, hz2⟩ : ∃ i, Try.prog.info? 5 = some i ∧ i.zero = some (.int .u8 0) ∧ i.size = 1 ∧ i.bytes = 1 := info_parts info8
  have hrx := hr1.below hbx
  obtain ⟨W, hW⟩ : ∃ W, W = w.alloc (.cells #[.bool false, .slice a1 bs.length c1, .slice b1 k1 cp1] 25) := ⟨_, rfl⟩
  have HWE := Lib.hid hW
  rw [← hW] at hbx hp1 hsz1 hrx
  have HBX := Lib.hid hbx
  have HP1 := Lib.hid hp1
  have HSZ := Lib.hid hsz1
  have HRX := Lib.hid hrx
  have HBL := Lib.hid hbl
  obtain ⟨L, hL⟩ : ∃ L, L = bs.length := ⟨_, rfl⟩
  have HLL := Lib.hid hL
  obtain ⟨x0, x1, x2, -, -, -⟩ := three_cells hp1
  rw [← hL] at x1 HP1 HWE ⊢
  by_cases hbare : bareB bs = true
  · have hfq : formT bs = bs := by unfold formT; rw [if_pos hbare]
    have HFQ := Lib.hid hfq
    have hb2 : bs.length = 1 ∧ bs.getD 0 0 < 128 := by simpa [bareB] using hbare
    obtain ⟨b, o, rfl, hbb, hcell⟩ := hrx.at_ (by omega)
    have hc0 : W.cell? ⟨b, o, none⟩ = some (.int .u8 (bs.getD 0 0 : Nat)) := by have := hcell 0 (by omega); rwa [Nat.add_zero] at this
    obtain ⟨y, hy⟩ : ∃ y, y = bs.getD 0 0 := ⟨_, rfl⟩
    rw [← hy] at hc0 hb2
    have hy1 : (y : Int) < 128 := by omega
    obtain rfl : L = 1 := by omega
    have HAC := Lib.hid (acc_empty W)
    have hbe : Below W.heap.size W (W.alloc (.cells #[] 5)) := (Below.refl _ _).alloc (Nat.le_refl _) _
    have HBE := Lib.hid hbe
    have HSE : Hid ((W.alloc (.cells #[] 5)).heap.size = W.heap.size + 1) := by show _ = _; simp
    have HNW := Lib.hid (hrx.alloc (.cells #[] 5)).news
    obtain ⟨u0, u1, u2, -, -, -⟩ := three_cells ((hbe.block w.heap.size (by omega)).trans HP1.out)
    clear hx hsz hq hbl hbx hp1 hsz1 hr1 hd1 hrx hW hL hbare hfq hb2 hbb hcell hy hbe
    go_enter Try.func37, Try.ntmps37
    go_upto_region 1 with (fail)
    rw [← HWE.out]
    clear HWE
    go_wp2_with (at_builtin; refine wpList_append_own _ rfl (.tmp 19) (.tmp 21) 22 rfl W.heap.size 5 i0 (.int .u8 0) 1 1 Try.underlying22 hi hz0 hz1 hz2 rfl (by decide) (.slice (some ⟨W.heap.size, 0, none⟩) 0 0) 0 [] rfl HAC.out ⟨b, o, none⟩ 1 c1 (bv bs) rfl (by rw [bv_length, ← HLL.out]) HNW.out (by intro u hu; simp [bv] at hu; obtain ⟨x, _, rfl⟩ := hu; rfl) (by unfold maxLen; omega) (by omega) (by rw [HSE.out]; omega) ?_)
    intro v' w3 hown hg _
    have hacc : Acc w3 W.heap.size v' bs := by
      unfold Acc
      rw [← HLL.out]
      exact hown
    have hb3 : Below W.heap.size W w3 := HBE.out.grown hg (by rw [HSE.out]; omega) (fun k hk => by simp [Value.ownBlock] at hk; omega)
    have HA := Lib.hid (Acc.mono' hacc (HBX.out.size))
    have HB3 := Lib.hid (HBX.out.trans (hb3.mono HBX.out.size))
    clear hacc hown hg hb3 HAC HBE HSE HNW
    go_wp2_with fail
    go_ret
    exact ⟨_, rfl, by rw [HFQ.out]; exact HA.out, HB3.out⟩
  · have hfq : formT bs = hdB 128 bs.length ++ bs := by unfold formT; rw [if_neg hbare]
    have HFQ := Lib.hid hfq
    have HNB := Lib.hid hbare
    have CH := Lib.hid (fun w => rhead_c 128 L (by omega) (by omega) w)
    have HRR : Hid (∀ w5, Below W.heap.size W w5 → Rd .u8 w5 a1 c1 bs) := fun w5 h => HRX.out.below h
    have hdl := hdB_len 128 (show L ≤ 1099511627776 by omega)
    have HDL : Hid ((hdB 128 L).length ≤ 7 ∧ L ≤ 16777216) := ⟨hdl, by omega⟩
    have HC0 : Hid (L = 1 → ∃ b o y, a1 = some ⟨b, o, none⟩ ∧ W.cell? ⟨b, o, none⟩ = some (.int .u8 (y : Nat)) ∧ ¬ y < 128) := fun h1 => by
      obtain ⟨b, o, rfl, hbb, hcell⟩ := HRX.out.at_ (by omega)
      refine ⟨b, o, bs.getD 0 0, rfl, by have := hcell 0 (by omega); rwa [Nat.add_zero] at this, fun h => HNB.out ?_⟩
      unfold bareB
      simp only [decide_eq_true_eq]
      exact ⟨by omega, h⟩
    have HWS : Hid (W.heap.size = w.heap.size + 1) := HSZ.out
    clear hx hsz hq hbl hbx hp1 hsz1 hr1 hd1 hrx hW hL hbare hfq hdl
    have fin : ∀ (w7 : World) (v' : Value), Below W.heap.size W w7 → Acc w7 W.heap.size v' (hdB 128 L ++ bs) → RetR (fun w' v => Acc w' w.heap.size v (formT bs)) w (.returned v') w7 := fun w7 v' h5 ha => by
      refine ⟨v', rfl, ?_, HBX.out.trans (h5.mono HBX.out.size)⟩
      rw [HFQ.out, ← HLL.out]
      exact Acc.mono' ha HBX.out.size
    have FIN := Lib.hid fin
    clear fin
    rcases a1 with _ | ad
    · have hL0 : L = 0 := by have := HRX.out.le; have := HRX.out.cap rfl; have := HLL.out; omega
      have hc0 : c1 = 0 := HRX.out.cap rfl
      have hb0 : bs = [] := List.eq_nil_of_length_eq_zero (by have := HLL.out; omega)
      subst hL0 hc0
      have HB0 := Lib.hid hb0
      clear HC0 hb0
      go_enter Try.func37, Try.ntmps37
      go_upto_region 1 with (fail)
      rw [← HWE.out]
      clear HWE
      go_upto_region 4 with (fail)
      go_region_law (first
        | (refine step_call2 rfl 57 (.const (.int .i64 128)) (.tmp 25) rfl en_rhead _ rfl (CH.out _) ?_
           rintro e w5 ⟨v5, rfl, hacc5, hb5⟩
           obtain ⟨A5, c5, rfl⟩ := hacc5.form
           refine ⟨_, rfl, ?_⟩
           obtain ⟨n5, hn5⟩ : ∃ n, n = (hdB 128 0).length := ⟨_, rfl⟩
           rw [← hn5]
           have HN5 := Lib.hid hn5
           have HA5 := Lib.hid hacc5
           have HB5 : Hid (Below W.heap.size W w5) := (Below.refl W.heap.size W).drew.trans hb5
           obtain ⟨s0, s1, s2, -, -, -⟩ := three_cells ((HB5.out.block w.heap.size (by rw [HWS.out]; omega)).trans HP1.out)
           clear hacc5 hb5 hn5)
        | (refine step_append_none rfl (.tmp 26) (.tmp 28) 22 rfl W.heap.size 5 i0 1 Try.underlying22 hi (.slice A5 n5 c5) n5 (bv (hdB 128 0)) rfl (by have := HA5.out; unfold Acc at this; rw [← HN5.out] at this; exact this) rfl ?_))
      all_goals
        have HQ := Lib.hid (FIN.out w5 (.slice A5 n5 c5) HB5.out (by rw [HB0.out, List.append_nil, HN5.out]; exact HA5.out))
        clear s0 s1 s2 x0 x1 x2
        go_simp
        go_wp2_with fail
        go_ret
        exact HQ.out
    · have HLN : Hid (∀ w5, Below W.heap.size W w5 → ∀ j u, (bv bs)[j]? = some u → w5.cell? (ad.add j) = some u) := fun w5 h => (HRX.out.below h).news
      by_cases hL1 : L = 1
      case' pos =>
        obtain ⟨b, o, y, hab, hc0, hy⟩ := HC0.out hL1
        injection hab with hab
        subst hab
        have hy1 : ¬ (y : Int) < 128 := by omega
        subst hL1
        clear hy HC0
      case' neg =>
        have hL2 : ((L : Int) == 1) = false := by simp; omega
        clear HC0 hL1
      all_goals
        go_enter Try.func37, Try.ntmps37
        go_upto_region 1 with (fail)
        rw [← HWE.out]
        clear HWE
        go_upto_region 4 with (fail)
        go_region_law (first
          | (refine step_call2 rfl 57 (.const (.int .i64 128)) (.tmp 25) rfl en_rhead _ rfl (CH.out _) ?_
             rintro e w5 ⟨v5, rfl, hacc5, hb5⟩
             obtain ⟨A5, c5, rfl⟩ := hacc5.form
             refine ⟨_, rfl, ?_⟩
             have hn5' := HDL.out
             have hq5 := HLL.out
             have HA5 := Lib.hid hacc5
             have HB5 : Hid (Below W.heap.size W w5) := (Below.refl W.heap.size W).drew.trans hb5
             have HN5 := Lib.hid (HLN.out w5 HB5.out)
             obtain ⟨s0, s1, s2, -, -, -⟩ := three_cells ((HB5.out.block w.heap.size (by rw [HWS.out]; omega)).trans HP1.out)
             have HNQ := Lib.hid hn5'
             have HLQ := Lib.hid hq5
             clear hacc5 hb5 hn5' hq5)
          | (refine step_append_own_at rfl (.tmp 26) (.tmp 28) 22 rfl W.heap.size 5 i0 (.int .u8 0) 1 1 Try.underlying22 hi hz0 hz1 hz2 rfl (by decide) _ _ _ rfl HA5.out _ _ c1 (bv bs) rfl (by rw [bv_length, Nat.mul_one]; exact HLQ.out.symm) HN5.out (by intro u hu; simp [bv] at hu; obtain ⟨x, _, rfl⟩ := hu; rfl) (by have := HNQ.out; unfold maxLen; omega) (by have := HNQ.out; omega) (by have := HB5.out.size; exact this) ?_
             intro v' w7 hown hg _ hat
             have HOW := Lib.hid hown
             have HGR := Lib.hid hg
             clear hown hg hat))
        all_goals
          have HQ := Lib.hid (FIN.out w7 v' (HB5.out.grown HGR.out HB5.out.size (fun k hk => Acc.own HA5.out k hk)) (by
            unfold Acc
            rw [bv_append, List.length_append, ← HLQ.out]
            exact HOW.out))
          clear s0 s1 s2 x0 x1 x2 HOW HGR
          go_simp
          go_wp2_with fail
          go_ret
          exact HQ.out

set_option maxRecDepth 100000 in
set_option maxHeartbeats 6400000 in
theorem frm_step (bs : List Nat) (xs : List Itm) (ih : ∀ (j : Nat) (x : Itm), xs[j]? = some x → FrmC x) : FrmC (.mk true bs xs) := by
  intro S w vx hsz hx
  obtain ⟨l0, a1, m1, c1, b1, k1, cp1, rfl⟩ := hx.parts
  obtain ⟨hl0, -, hit⟩ := hx.inv
  injection hl0 with hl0
  subst hl0
  obtain ⟨B, cap, b, off, u, e2, hB, hcap, hu, hxs⟩ := hit
  injection e2 with e1 e2 e3
  subst e1 e3
  rw [fsz, if_pos rfl] at hsz
  have hq : form (.mk true bs xs) = hdB 192 (psz xs) ++ formL xs := by rw [form, if_pos rfl]
  rw [hq]
  have hbx : Below w.heap.size w (w.alloc (.cells #[.bool true, .slice a1 m1 c1, .slice b1 k1 cp1] 25)) := (Below.refl w.heap.size w).alloc (Nat.le_refl _) _
  have hp1 := heap_alloc_new w (.cells #[.bool true, .slice a1 m1 c1, .slice b1 k1 cp1] 25)
  have hsz1 : (w.alloc (.cells #[.bool true, .slice a1 m1 c1, .slice b1 k1 cp1] 25)).heap.size = w.heap.size + 1 := by simp
  obtain ⟨i0, hi, hz0, hz1, hz2⟩ : ∃ i, Try.prog.info? 5 = some i ∧ i.zero = some (.int .u8 0) ∧ i.size = 1 ∧ i.bytes = 1 := info_parts info8
  obtain ⟨x0, x1, x2, -, -, -⟩ := three_cells hp1
  have HM := Lib.hid e2
  have HBB := Lib.hid hB
  have HPC := Lib.hid (fun j x h => part_cells hu hxs (j := j) (x := x) h)
  have HIH := Lib.hid ih
  have HIZ := Lib.hid hsz
  have HBX := Lib.hid hbx
  have HP1 := Lib.hid hp1
  have HSZ := Lib.hid hsz1
  have HPS : Hid (psz xs ≤ 16777216) := by show _ ≤ _; omega
  have HK : Hid (k1 ≤ 16777216) := by
    have h2 := psz_len xs
    show k1 ≤ _
    omega
  clear e2 hB hu hxs hcap ih hsz hbx hp1 hx hsz1 hq
  go_enter Try.func37, Try.ntmps37
  go_upto_region 7 with (fail)
  generalize hWe : w.alloc (.cells #[.bool true, .slice a1 m1 c1, .slice b1 k1 cp1] 25) = W at *
  clear hWe x0 x1 x2
  go_loopw [3, 4] (fun bv' i wr => ∃ (j : Nat), j ≤ k1 ∧ i = .int .i64 (j : Int) ∧ Hid (Acc wr W.heap.size bv' (formL (xs.take j))) ∧ Hid (Below W.heap.size W wr))
    (fun _ i _ => k1 - (intOf i).toNat)
  case atStart => exact ⟨0, by omega, rfl, by rw [List.take_zero, formL]; exact ⟨rfl, .inl ⟨rfl, rfl⟩⟩, Lib.hid (Below.refl _ _)⟩
  case round =>
    obtain ⟨j, hj, rfl, hacc, hb⟩ := hrel
    obtain ⟨x0, x1, x2, -, -, -⟩ := three_cells ((hb.out.block w.heap.size (by rw [HSZ.out]; omega)).trans HP1.out)
    by_cases hjM : j < k1
    · obtain ⟨xi, hxi⟩ : ∃ x, xs[j]? = some x := ⟨_, List.getElem?_eq_getElem (by rw [← HM.out]; exact hjM)⟩
      obtain ⟨rfl, hg1⟩ := HBB.out (by rw [← HM.out]; omega)
      have hbw : Below w.heap.size w wr := HBX.out.trans (hb.out.mono (by rw [HSZ.out]; omega))
      obtain ⟨l3, a3, n3, c3, a4, n4, c4, p0, p1, p2, hI1⟩ := HPC.out j xi hxi
      have p0 := (hbw.cell (p := ⟨b, off + j * 3, none⟩) hg1).trans p0
      have p1 := (hbw.cell (p := ⟨b, off + j * 3 + 1, none⟩) hg1).trans p1
      have p2 := (hbw.cell (p := ⟨b, off + j * 3 + 2, none⟩) hg1).trans p2
      have hfz := fsz_le hxi
      have C := Lib.hid (HIH.out j xi hxi S wr _ (by have := HPS.out; omega) (hI1.keep hbw))
      have hnx := formL_take hxi
      obtain ⟨ys, hys⟩ : ∃ ys, ys = formL (xs.take j) := ⟨_, rfl⟩
      have hyl : ys.length ≤ 16777216 := by rw [hys, formL_len]; have := psz_le (xs := xs) j; have := HPS.out; omega
      rw [← hys] at hnx hacc
      obtain ⟨y, hy⟩ : ∃ y, y = form xi := ⟨_, rfl⟩
      have hyl2 : 0 < y.length ∧ y.length ≤ 16777216 := by rw [hy, form_len]; have := fsz_pos xi; have := HPS.out; omega
      rw [← hy] at hnx C
      have ej : IntKind.i64.wrap ((j : Int) + 1) = (j : Int) + 1 := IntWalk.i64_in _ (by have := HK.out; omega)
      have hj1 : (j : Int) < (k1 : Int) := by omega
      have HJ := Lib.hid hjM
      have HNX := Lib.hid hnx
      have HYL : Hid (ys.length ≤ 16777216 ∧ 0 < y.length ∧ y.length ≤ 16777216) := ⟨hyl, hyl2⟩
      clear hxi hg1 hbw hI1 hjM hy hyl hyl2 hnx hys hj hfz
      go_wp2_with fail
      (with_reducible refine C.out.mono ?_)
      rintro e w5 ⟨v5, rfl, hacc5, hb5⟩
      obtain ⟨A5, c5, rfl⟩ := hacc5.form
      obtain ⟨b5, o5, rfl, -, -⟩ := hacc5.rd.at_ HYL.out.2.1
      have HOW := Lib.hid (hacc.out.below hb5)
      have HNW := Lib.hid hacc5.rd.news
      have HB5 := Lib.hid (hb.out.trans (hb5.mono hb.out.size))
      obtain ⟨n5, hn5⟩ : ∃ n, n = y.length := ⟨_, rfl⟩
      have HN5 := Lib.hid hn5
      rw [← hn5]
      clear hacc5 hb5 hn5 p0 p1 p2 x0 x1 x2 C
      go_wp2_with (at_builtin; refine wpList_append_own _ rfl (.tmp 37) (.tmp 43) 22 rfl W.heap.size 5 i0 (.int .u8 0) 1 1 Try.underlying22 hi hz0 hz1 hz2 rfl (by decide) _ _ _ rfl HOW.out ⟨b5, o5, none⟩ n5 c5 (bv y) rfl (by rw [bv_length, HN5.out]; omega) HNW.out (by intro u hu; simp [bv] at hu; obtain ⟨x, _, rfl⟩ := hu; rfl) (by have := HYL.out; have := HN5.out; unfold maxLen; omega) (by have := HYL.out; have := HN5.out; omega) (by have := HB5.out.size; exact this) ?_)
      intro v' w7 hown hg _
      have HAN : Hid (Acc w7 W.heap.size v' (ys ++ y)) := by
        show Acc _ _ _ _
        unfold Acc
        rw [bv_append, List.length_append, ← HN5.out]
        exact hown
      have HBN := Lib.hid (HB5.out.grown hg HB5.out.size (fun k hk => Acc.own HOW.out k hk))
      clear hown hg hacc hb HOW HNW HB5
      go_wp2_with fail
      exact ⟨⟨j + 1, HJ.out, by simp, by rw [HNX.out]; exact HAN.out, HBN.out⟩, by simp [intOf]; have := HJ.out; omega⟩
    · have hj1 : ¬ (j : Int) < (k1 : Int) := by omega
      have hf := hacc.out
      rw [List.take_of_length_le (by have := HM.out; omega)] at hf
      obtain ⟨p, hp⟩ : ∃ p, p = formL xs := ⟨_, rfl⟩
      have hpl : p.length = psz xs := by rw [hp, formL_len]
      rw [← hp] at hf
      obtain ⟨A6, c6, rfl⟩ := hf.form
      obtain ⟨L, hL⟩ : ∃ L, L = p.length := ⟨_, rfl⟩
      have hLs : L ≤ 16777216 := by have := HPS.out; omega
      have hdl := hdB_len 192 (show L ≤ 1099511627776 by omega)
      have ch : Calls Try.prog 57 #[.int .i64 192, .int .i64 (L : Nat)] wr (RetR (fun w' v => Acc w' wr.heap.size v (hdB 192 L)) wr) := rhead_c 192 L (by omega) hLs wr
      have CH := Lib.hid ch
      clear ch
      have HLL : Hid (L = p.length ∧ (hdB 192 L).length ≤ 7 ∧ L ≤ 16777216) := ⟨hL, hdl, hLs⟩
      have HRD := Lib.hid hf.rd
      have HDP : Hid (hdB 192 (psz xs) ++ formL xs = hdB 192 L ++ p) := by show _ = _; rw [← hpl, hL, hp]
      have HBW := Lib.hid (HBX.out.trans (hb.out.mono (by rw [HSZ.out]; omega)))
      rw [← hL]
      clear hacc hb hf hp hpl hL hLs hdl hjM hj
      go_wp2_with fail
      (with_reducible refine CH.out.mono ?_)
      rintro e w5 ⟨v5, rfl, hacc5, hb5⟩
      have HA5 := Lib.hid hacc5
      have HRD5 := Lib.hid (HRD.out.below hb5)
      have HB5 := Lib.hid (HBW.out.trans (hb5.mono HBW.out.size))
      have HWW := Lib.hid HBW.out.size
      have HS5 := Lib.hid hb5.size
      have HBB5 := Lib.hid hb5
      clear hacc5 hb5 HRD HBW CH x0 x1 x2
      rcases A6 with _ | ad
      · have hL0 : L = 0 := by have := HRD5.out.le; have := HRD5.out.cap rfl; have := HLL.out; omega
        have hc0 : c6 = 0 := HRD5.out.cap rfl
        have hb0 : p = [] := List.eq_nil_of_length_eq_zero (by have := HLL.out; omega)
        subst hL0 hc0
        have HP0 := Lib.hid hb0
        clear hb0
        go_wp2_with (at_builtin; refine wpList_append_own_none rfl (.tmp 47) (.tmp 48) 22 rfl wr.heap.size 5 i0 1 Try.underlying22 hi _ _ _ rfl HA5.out rfl ?_)
        go_ret
        exact ⟨_, rfl, by rw [HDP.out, HP0.out, List.append_nil]; exact Acc.mono' HA5.out HWW.out, HB5.out⟩
      · have HNW := Lib.hid HRD5.out.news
        go_wp2_with (at_builtin; refine wpList_append_own _ rfl (.tmp 47) (.tmp 48) 22 rfl wr.heap.size 5 i0 (.int .u8 0) 1 1 Try.underlying22 hi hz0 hz1 hz2 rfl (by decide) _ _ _ rfl HA5.out ad L c6 (bv p) rfl (by rw [bv_length, HLL.out.1]; omega) HNW.out (by intro u hu; simp [bv] at hu; obtain ⟨x, _, rfl⟩ := hu; rfl) (by have := HLL.out; unfold maxLen; omega) (by have := HLL.out; omega) HS5.out ?_)
        intro v' w7 hown hg _
        have HAN : Hid (Acc w7 wr.heap.size v' (hdB 192 L ++ p)) := by
          show Acc _ _ _ _
          unfold Acc
          rw [bv_append, List.length_append, ← HLL.out.1]
          exact hown
        have HBN := Lib.hid (HB5.out.trans ((((Below.refl w5.heap.size w5).mono HS5.out).grown hg HS5.out (fun k hk => Acc.own HA5.out k hk)).mono HWW.out))
        clear hown hg HNW HA5
        go_wp2_with fail
        go_ret
        exact ⟨_, rfl, by rw [HDP.out]; exact Acc.mono' HAN.out HWW.out, HBN.out⟩
theorem form_c : ∀ x, FrmC x := Itm.ind fun l bs xs ih => by
  cases l with
  | false => exact frm_text bs xs
  | true => exact frm_step bs xs ih
end Go.Proofs.Ytchhnalalplggaa
