/- An item's form appended: package rlp's write, and Encode. -/
import Derived.Test.YtgjiealcjaojaaaRlHead
import Derived.StillTailTactics
namespace Go.Proofs.Ytgjiealcjaojaaa
open Go.RowKit

mutual
/-- An item's form. -/
def form : Itm → List Nat
  | .mk l bs xs => if l = true then hdB 192 (psz xs) ++ formL xs else formT bs
def formL : List Itm → List Nat
  | [] => []
  | x :: xs => form x ++ formL xs
end
theorem formL_take {xs : List Itm} : ∀ {i : Nat} {x : Itm}, xs[i]? = some x → formL (xs.take (i + 1)) = formL (xs.take i) ++ form x := by
  induction xs with
  | nil => intro i x h; simp at h
  | cons y ys ih =>
    intro i x h
    cases i with
    | zero => simp at h; subst h; simp [formL]
    | succ i => simp at h; simp only [List.take_succ_cons, formL, ih h, List.append_assoc]
theorem hdB_hsz (base n : Nat) : (hdB base n).length = hsz n := by
  unfold hdB hsz
  split
  · rfl
  · simp only [List.length_cons, lastB_len]; omega
theorem formT_len (bs : List Nat) : (formT bs).length = tsz bs := by
  unfold formT tsz
  split
  · rename_i h; exact (of_decide_eq_true h).1
  · rw [List.length_append, hdB_hsz]
theorem formL_len_of {xs : List Itm} (h : ∀ (j : Nat) (x : Itm), xs[j]? = some x → (form x).length = fsz x) : (formL xs).length = psz xs := by
  induction xs with
  | nil => rfl
  | cons y ys ih =>
    simp only [formL, psz, List.length_append]
    rw [h 0 y rfl, ih fun j x hj => h (j + 1) x hj]
theorem form_len : ∀ x, (form x).length = fsz x := Itm.ind fun l bs xs ih => by
  rw [form, fsz]
  split
  · rw [List.length_append, hdB_hsz, formL_len_of ih]
  · exact formT_len bs
theorem formL_len (xs : List Itm) : (formL xs).length = psz xs := formL_len_of fun _ x _ => form_len x

/-- An item ahead of what a call changes stays as it is. -/
theorem IAt.mzb {N0 P : Nat} {w w' : World} {v v' u : Value} {x : Itm} (h : IAt (fun b => b < N0) w u x) (hP : N0 ≤ P) (hv : ∀ g, v.ownBlock = some g → N0 ≤ g) (hm : Mz P w w' v v') : IAt (fun b => b < N0) w' u x :=
  h.move hm.size (fun _ _ h => h) fun p hp2 hlt => World.cell?_of_block (w := w) (hm.block _ hlt (by omega) (fun e => by have := hv _ e.symm; omega))
theorem acc_plan {w : World} {P base k B0 : Nat} {pv v : Value} {ns out : List Nat} (hp : PlanAt w P base pv ns k) (ha : Acc w B0 v out) : v.ownBlock ≠ some P ∧ (∀ g, pv.ownBlock = some g → v.ownBlock ≠ some g) := by
  rcases ha.2 with ⟨e, _⟩ | ⟨g, cap, cur, e, hg, hh, _⟩
  · rw [e]; exact ⟨by simp [Value.ownBlock], fun g _ => by simp [Value.ownBlock]⟩
  · rw [e]
    refine ⟨fun e2 => ?_, fun g2 h2 e2 => ?_⟩
    · simp [Value.ownBlock] at e2
      subst e2
      rw [hp.cell] at hh
      injection hh with hh
      injection hh with _ hh _
      exact absurd hh (by decide)
    · simp [Value.ownBlock] at e2
      subst e2
      rcases hp.row.2 with ⟨e3, _⟩ | ⟨g3, cap3, cur3, e3, hg3, hh3, _⟩
      · rw [e3] at h2; simp [Value.ownBlock] at h2
      · rw [e3] at h2
        simp [Value.ownBlock] at h2
        subst h2
        rw [hh3] at hh
        injection hh with hh
        injection hh with _ hh _
        exact absurd hh (by decide)
theorem PlanAt.gz {w w' : World} {P base k B0 : Nat} {pv v v' : Value} {ns out : List Nat} (hp : PlanAt w P base pv ns k) (ha : Acc w B0 v out) (hg : Gz w w' v v') : PlanAt w' P base pv ns k := by
  obtain ⟨h1, h2⟩ := acc_plan hp ha
  refine ⟨(hg.block P hp.lt (fun e => h1 e.symm)).trans hp.cell, hp.row.1, ?_⟩
  rcases hp.row.2 with h3 | ⟨g, cap, cur, e, hgb, hh, r1, r2, r3, r4⟩
  · exact .inl h3
  · exact .inr ⟨g, cap, cur, e, hgb, (hg.block g (Array.getElem?_eq_some_iff.1 hh).1 (fun e2 => h2 g (by rw [e]; rfl) e2.symm)).trans hh, r1, r2, r3, r4⟩
/-- The plan's place goes on by one. -/
theorem PlanAt.next {w : World} {P base k : Nat} {pv : Value} {ns : List Nat} (hp : PlanAt w P base pv ns k) (k' : Nat) : PlanAt (w.setCell ⟨P, 1, none⟩ (.int .i64 (k' : Int))) P base pv ns k' := by
  refine ⟨?_, ownsRow_setCell_other hp.row (a := ⟨P, 1, none⟩) hp.ne _⟩
  have := heap_setCell_same w P 1 _ _ (.int .i64 (k' : Int)) hp.cell
  simpa using this

/-- What write is asked of an item. -/
def WriteR (P base : Nat) (pv : Value) (ns : List Nat) (k B0 : Nat) (v : Value) (out : List Nat) (x : Itm) (w : World) (e : Ending) (w' : World) : Prop :=
  ∃ v', e = .returned v' ∧ Acc w' B0 v' (out ++ form x) ∧ PlanAt w' P base pv ns (k + (plan x).length) ∧ Mz P w w' v v'
def WriteC (x : Itm) : Prop := ∀ (P N0 base B0 k : Nat) (w : World) (pv v vx : Value) (ns out rest : List Nat), N0 ≤ P → N0 ≤ B0 → B0 ≤ w.heap.size → IAt (fun b => b < N0) w vx x → PlanAt w P base pv ns k → ns.drop k = plan x ++ rest → Acc w B0 v out →
  fsz x ≤ 1099511627776 → out.length + fsz x ≤ 2199023255552 → ns.length ≤ 16777216 → Calls Try.prog 60 #[.pointer (some ⟨P, 0, none⟩), v, vx] w (WriteR P base pv ns k B0 v out x w)

set_option maxRecDepth 100000 in
set_option maxHeartbeats 6400000 in
theorem write_text (bs : List Nat) (xs : List Itm) : WriteC (.mk false bs xs) := by
  intro P N0 base B0 k w pv v vx ns out rest hP hN hB hx hp hdr ha hs ho hns
  have hf : fsz (.mk false bs xs) = tsz bs := by simp [fsz]
  have hfo : form (.mk false bs xs) = formT bs := by simp [form]
  have hpl : plan (.mk false bs xs) = [] := by simp [plan]
  have hlen : bs.length ≤ tsz bs := by
    unfold tsz
    split
    · rename_i h; have := (of_decide_eq_true h).1; omega
    · omega
  rw [hf] at hs ho
  cases hx with
  | mk l A c B cap b off u bs xs hA hd hAb hBB hc hcn hu hxx =>
    have hb1 : Below w.heap.size w (w.alloc (.cells #[.bool false, .slice A bs.length c, .slice B xs.length cap] 56)) := (Below.refl _ _).alloc (Nat.le_refl _) _
    have c1 := contents_c false A B bs.length c xs.length cap (w.alloc (.cells #[.bool false, .slice A bs.length c, .slice B xs.length cap] 56))
    have hg := heap_alloc_new w (.cells #[.bool false, .slice A bs.length c, .slice B xs.length cap] 56)
    obtain ⟨x0, x1, x2, -, -, -⟩ := three_cells hg
    have CT := Lib.hid (fun (w' : World) (h : Below w.heap.size w w') => writeText_c B0 N0 w' v out A c bs (ha.below h) (Nat.le_trans hB h.size) (hA.below h) hN hAb (by omega) (by omega))
    have HR : Hid (∀ w1 v' w', Below w.heap.size w w1 → Acc w' B0 v' (out ++ formT bs) → Gz w1 w' v v' → WriteR P base pv ns k B0 v out (.mk false bs xs) w (.returned v') w') := fun w1 v' w' hb' h1 h2 =>
      ⟨v', rfl, by rw [hfo]; exact h1, by rw [hpl]; exact (hp.below hb').gz (ha.below hb') h2, (Mz.of hb').trans (h2.mz P)⟩
    have T1 := ta_text
    obtain ⟨L, hL⟩ : ∃ L, L = bs.length := ⟨_, rfl⟩
    obtain ⟨M, hM⟩ : ∃ M, M = xs.length := ⟨_, rfl⟩
    rw [← hL, ← hM] at c1 x1 x2 hb1 ⊢
    simp only [← hL] at CT
    have C1 := Lib.hid c1
    have HB1 := Lib.hid hb1
    clear hb1 c1 hg hA hd hAb hBB hc hcn hu hxx hp hs hf hlen hL hM hP hN hB hpl hfo ha hdr ho hns
    go_enter Try.func60, Try.ntmps60
    go_wp2_with fail
    (with_reducible refine C1.out.mono ?_)
    rintro e w1 ⟨rfl, hb2⟩
    have HB2 := Lib.hid (HB1.out.trans (hb2.mono HB1.out.size))
    clear C1 hb2 HB1
    go_wp2_with fail
    (with_reducible refine (CT.out _ HB2.out).mono ?_)
    rintro e w2 ⟨v', rfl, h1, h2⟩
    have HQ := Lib.hid (HR.out w1 v' w2 HB2.out h1 h2)
    clear CT h1 h2
    go_wp2_with fail
    go_ret
    exact HQ.out

theorem planL_split {xs : List Itm} : ∀ {i : Nat} {x : Itm}, xs[i]? = some x → planL xs = planL (xs.take i) ++ (plan x ++ planL (xs.drop (i + 1))) := by
  induction xs with
  | nil => intro i x h; simp at h
  | cons y ys ih =>
    intro i x h
    cases i with
    | zero => simp at h; subst h; simp [planL]
    | succ i => simp at h; simp only [List.take_succ_cons, List.drop_succ_cons, planL, List.append_assoc]; rw [← ih h]
theorem drop_next {ns rest : List Nat} {k m : Nat} {xs : List Itm} {x : Itm} {j : Nat} (h : ns.drop k = (m :: planL xs) ++ rest) (hx : xs[j]? = some x) :
    ns.drop (k + 1 + (planL (xs.take j)).length) = plan x ++ (planL (xs.drop (j + 1)) ++ rest) := by
  rw [← List.drop_drop, ← List.drop_drop, h, planL_split hx]
  simp

set_option maxRecDepth 100000 in
set_option maxHeartbeats 6400000 in
theorem write_list (bs : List Nat) (xs : List Itm) (ih : ∀ (j : Nat) (x : Itm), xs[j]? = some x → WriteC x) : WriteC (.mk true bs xs) := by
  intro P N0 base B0 k w pv v vx ns out rest hP hN hB hx hp hdr ha hs ho hns
  have hf : fsz (.mk true bs xs) = hsz (psz xs) + psz xs := by simp [fsz]
  have hfo : form (.mk true bs xs) = hdB 192 (psz xs) ++ formL xs := by simp [form]
  have hpl : plan (.mk true bs xs) = psz xs :: planL xs := by simp [plan]
  rw [hf] at hs ho
  rw [hpl] at hdr
  cases hx with
  | mk l A c B cap b off u bs xs hA hd hAb hBB hc hcn hu hxx =>
    have hb1 : Below w.heap.size w (w.alloc (.cells #[.bool true, .slice A bs.length c, .slice B xs.length cap] 56)) := (Below.refl _ _).alloc (Nat.le_refl _) _
    have c1 := contents_c true A B bs.length c xs.length cap (w.alloc (.cells #[.bool true, .slice A bs.length c, .slice B xs.length cap] 56))
    have hg := heap_alloc_new w (.cells #[.bool true, .slice A bs.length c, .slice B xs.length cap] 56)
    obtain ⟨x0, x1, x2, -, -, -⟩ := three_cells hg
    have T1 := ta_items_text
    have T2 := ta_items
    have hkl : k < ns.length := by
      rcases Nat.lt_or_ge k ns.length with h | h
      · exact h
      · rw [List.drop_eq_nil_of_le h] at hdr; simp at hdr
    obtain ⟨g, gc, rfl⟩ := hp.some (by omega)
    have hnk : ns[k]? = some (psz xs) := by
      have := congrArg (fun l : List Nat => l[0]?) hdr
      simpa using this
    have HBI := Lib.hid hBB
    have HUI := Lib.hid hu
    have HXI := Lib.hid hxx
    have HP := Lib.hid hp
    have HA := Lib.hid ha
    have HDR := Lib.hid hdr
    have HS : Hid (hsz (psz xs) + psz xs ≤ 1099511627776 ∧ out.length + (hsz (psz xs) + psz xs) ≤ 2199023255552 ∧ ns.length ≤ 16777216) := ⟨hs, ho, hns⟩
    have HF := Lib.hid hf
    have HFO := Lib.hid hfo
    have HPL := Lib.hid hpl
    have HH : Hid (N0 ≤ P ∧ N0 ≤ B0 ∧ B0 ≤ w.heap.size) := ⟨hP, hN, hB⟩
    have HOW : Hid (∀ q, v.ownBlock = some q → N0 ≤ q) := fun q hq => by have := ha.own q hq; omega
    have IH := Lib.hid ih
    have hgc : ∀ w', Below w.heap.size w w' → w'.cell? ⟨g, k, none⟩ = some (.int .i64 (psz xs : Nat)) := fun w' hb' => by
      have h := (hp.below hb').row.cellAt k (by omega)
      rw [h, List.getElem?_map, hnk]; rfl
    have HGC := Lib.hid hgc
    obtain ⟨S, hS⟩ : ∃ S, S = psz xs := ⟨_, rfl⟩
    rw [← hS] at HGC
    have ch : ∀ w', Below w.heap.size w w' → Calls Try.prog 84 #[v, .int .u8 192, .int .i64 (S : Nat)] w' (AppR B0 v (out ++ hdB 192 S) w') := fun w' h => writeHead_c B0 192 S w' v out (ha.below h) (Nat.le_trans hB h.size) (by omega) (by omega) (by omega)
    have CH := Lib.hid ch
    obtain ⟨L, hL⟩ : ∃ L, L = bs.length := ⟨_, rfl⟩
    obtain ⟨M, hM⟩ : ∃ M, M = xs.length := ⟨_, rfl⟩
    obtain ⟨Q, hQ⟩ : ∃ Q, Q = ns.length := ⟨_, rfl⟩
    rw [← hL, ← hM] at c1 x1 x2 hb1 ⊢
    have C1 := Lib.hid c1
    have HB1 := Lib.hid hb1
    have HM := Lib.hid hM
    have HSS := Lib.hid hS
    have hkQ : (k : Int) < (Q : Int) := by omega
    have hkQ2 : k < Q := by omega
    have HQ := Lib.hid hQ
    have ek : IntKind.i64.wrap ((k : Int) + 1) = (k : Int) + 1 := IntWalk.i64_in _ (by omega)
    clear hb1 c1 hg hA hd hAb hBB hc hcn hu hxx hp hs hf hL hM hP hN hB ih hpl hfo ha hdr ho hns hnk hgc hS hkl hQ ch
    go_enter Try.func60, Try.ntmps60
    go_wp2_with fail
    (with_reducible refine C1.out.mono ?_)
    rintro e w1 ⟨rfl, hb2⟩
    have HB2 := Lib.hid (HB1.out.trans (hb2.mono HB1.out.size))
    have HP2 := HP.out.below HB2.out
    have gk := HGC.out w1 HB2.out
    clear C1 hb2 HB1 x0 x1 x2
    obtain ⟨y0, y1, y2, y3⟩ := two_cells2 HP2.cell
    rw [← HQ.out] at y0
    have HP2 := Lib.hid HP2
    go_upto_region 5 with (fail)
    go_still_tail 11, (by kernel_rfl)
    change wpList _ _ _ _ _ w1.drew
    have HBD := Lib.hid HB2.out.drew
    go_wp2_with fail
    (with_reducible refine (CH.out _ HBD.out).mono ?_)
    rintro e w2 ⟨v2, rfl, hacc, hgz⟩
    have hp2 := (HP.out.below HBD.out).gz (HA.out.below HBD.out) hgz
    have hmz := (Mz.of (P := P) (v := v) HBD.out).trans (hgz.mz P)
    obtain ⟨z0, z1, z2, z3⟩ := two_cells2 hp2.cell
    have hp3 := hp2.next (k + 1)
    have hown2 := (acc_plan hp2 hacc).1
    have hacc3 : Acc (w2.setCell ⟨P, 1, none⟩ (.int .i64 ((k + 1 : Nat) : Int))) B0 v2 (out ++ hdB 192 S) := ownsRow_setCell_other hacc (a := ⟨P, 1, none⟩) hown2 _
    have hmz3 : Mz P w (w2.setCell ⟨P, 1, none⟩ (.int .i64 ((k + 1 : Nat) : Int))) v v2 := hmz.trans ⟨rfl, rfl, rfl, by simp, fun q _ hq _ => Below.heap_setCell _ _ _ _ hq, .inl rfl⟩
    rw [show ((k + 1 : Nat) : Int) = (k : Int) + 1 by omega] at hp3 hacc3 hmz3
    have N1 := Lib.hid hp3
    have N2 := Lib.hid hacc3
    have N3 := Lib.hid hmz3
    clear CH hacc hgz hp2 hmz y0 y1 y2 y3 gk HGC hp3 hacc3 hmz3 hown2 HBD HB2 HP2
    go_upto_region 8 with (fail)
    generalize w2.setCell ⟨P, 1, none⟩ (.int .i64 ((k : Int) + 1)) = w4 at *
    clear z0 z1 z2 z3
    go_loopw [1, 45] (fun bv i wr => ∃ (j : Nat), j ≤ M ∧ i = .int .i64 (j : Int) ∧ Hid (Acc wr B0 bv (out ++ hdB 192 S ++ formL (xs.take j))) ∧ Hid (PlanAt wr P base (.slice (some ⟨g, 0, none⟩) ns.length gc) ns (k + 1 + (planL (xs.take j)).length)) ∧ Hid (Mz P w wr v bv))
      (fun _ i _ => M - (intOf i).toNat)
    case atStart =>
      refine ⟨0, by omega, rfl, ?_, ?_, N3.out⟩
      · have := N2.out; simpa [formL, Hid] using this
      · have := N1.out; simpa [planL, Hid] using this
    case round =>
      obtain ⟨j, hj, rfl, hacc, hpl, hmz⟩ := hrel
      obtain ⟨A2, d2, rfl⟩ := hacc.out.form
      obtain ⟨L2, hL2⟩ : ∃ L2, L2 = (out ++ hdB 192 S ++ formL (xs.take j)).length := ⟨_, rfl⟩
      rw [← hL2] at hacc hmz ⊢
      have HL2 := Lib.hid hL2
      clear hL2
      by_cases hjM : j < M
      · obtain ⟨xi, hxi⟩ : ∃ x, xs[j]? = some x := ⟨_, List.getElem?_eq_getElem (by rw [← HM.out]; exact hjM)⟩
        obtain ⟨rfl, hbl, hbN⟩ := HBI.out (by rw [← HM.out]; omega)
        have hkeep : ∀ q, wr.cell? ⟨b, q, none⟩ = w.cell? ⟨b, q, none⟩ := fun q => World.cell?_of_block (w := w) (hmz.out.block b hbl (by have := HH.out; omega) (fun e => by have h1 := HOW.out b e.symm; omega))
        have hIt := HXI.out j xi hxi
        obtain ⟨l1, a1, n1, c2, b1, m1, cp1, hparts⟩ := hIt.parts
        injection hparts with hp1
        have q0 : u (3 * j) = .bool l1 := by have := congrArg (fun z : Array Value => z[0]?) hp1; simpa using this
        have q1 : u (3 * j + 1) = .slice a1 n1 c2 := by have := congrArg (fun z : Array Value => z[1]?) hp1; simpa using this
        have q2 : u (3 * j + 2) = .slice b1 m1 cp1 := by have := congrArg (fun z : Array Value => z[2]?) hp1; simpa using this
        rw [q0, q1, q2] at hIt
        have z0 := (hkeep (off + 3 * j)).trans (HUI.out (3 * j) (by have := HM.out; omega))
        have z1 := (hkeep (off + (3 * j + 1))).trans (HUI.out (3 * j + 1) (by have := HM.out; omega))
        have z2 := (hkeep (off + (3 * j + 2))).trans (HUI.out (3 * j + 2) (by have := HM.out; omega))
        rw [q0, show off + 3 * j = off + j * 3 by omega] at z0
        rw [q1, show off + (3 * j + 1) = off + j * 3 + 1 by omega] at z1
        rw [q2, show off + (3 * j + 2) = off + j * 3 + 2 by omega] at z2
        have hj1 : (j : Int) < (M : Int) := by omega
        have HJ : Hid (j < M) := hjM
        have HXJ := Lib.hid hxi
        have hWb : Below wr.heap.size wr (wr.alloc (.cells #[.bool l1, .slice a1 n1 c2, .slice b1 m1 cp1] 56)) := (Below.refl _ _).alloc (Nat.le_refl _) _
        have hfx : fsz xi ≤ psz xs := fsz_le hxi
        have hpt := psz_take hxi
        have hple := psz_le (xs := xs) (j + 1)
        have c2' := IH.out j xi hxi P N0 base B0 (k + 1 + (planL (xs.take j)).length) (wr.alloc (.cells #[.bool l1, .slice a1 n1 c2, .slice b1 m1 cp1] 56)) _ (.slice A2 L2 d2) (.agg #[.bool l1, .slice a1 n1 c2, .slice b1 m1 cp1]) ns (out ++ hdB 192 S ++ formL (xs.take j)) _ HH.out.1 HH.out.2.1 (by have := HH.out; have := hmz.out.size; simp; omega)
          ((IAt.mzb hIt HH.out.1 HOW.out hmz.out).keep hWb) (hpl.out.below hWb) (drop_next HDR.out hxi) (hacc.out.below hWb) (by have := HS.out; omega) (by
            simp only [List.length_append, hdB_hsz, formL_len]
            have := HS.out; have := HSS.out; subst this; omega) HS.out.2.2
        have ej : IntKind.i64.wrap ((j : Int) + 1) = (j : Int) + 1 := IntWalk.i64_in _ (by have := HM.out; have := psz_len xs; have := HS.out; omega)
        have C2 := Lib.hid c2'
        have HWB := Lib.hid (hmz.out.trans (Mz.of hWb))
        clear hkeep hp1 q0 q1 q2 hxi hIt hbl hbN hjM c2' hWb hmz hpl hacc hfx hpt hple
        go_wp2_with fail
        (with_reducible refine C2.out.mono ?_)
        rintro e w5 ⟨v3, rfl, ha3, hp3, hm3⟩
        have R1 := Lib.hid ha3
        have R2 := Lib.hid hp3
        have R3 := Lib.hid (HWB.out.trans hm3)
        clear C2 ha3 hp3 hm3 HWB z0 z1 z2
        go_wp2_with fail
        refine ⟨⟨j + 1, HJ.out, by simp, ?_, ?_, R3.out⟩, by simp [intOf]; have := HJ.out; omega⟩
        · show Acc _ _ _ _
          rw [formL_take HXJ.out, ← List.append_assoc]; exact R1.out
        · show PlanAt _ _ _ _ _ _
          rw [planL_take HXJ.out, List.length_append, ← Nat.add_assoc]; exact R2.out
      · have hjM' : j = M := by omega
        subst hjM'
        have hj1 : ¬ (j : Int) < (j : Int) := by omega
        have et : xs.take j = xs := by rw [HM.out, List.take_length]
        have HQ2 : Hid (WriteR P base (.slice (some ⟨g, 0, none⟩) ns.length gc) ns k B0 v out (.mk true bs xs) w (.returned (.slice A2 L2 d2)) wr) := by
          refine ⟨_, rfl, ?_, ?_, hmz.out⟩
          · have h := hacc.out
            rw [et] at h
            rw [HFO.out, ← HSS.out, ← List.append_assoc]; exact h
          · have h := hpl.out
            rw [et] at h
            rw [HPL.out, List.length_cons, Nat.add_comm (planL xs).length 1, ← Nat.add_assoc]; exact h
        clear hacc hpl hmz et
        go_wp2_with fail
        go_ret
        exact HQ2.out
/-- write, of any item. -/
theorem write_c : ∀ x, WriteC x := Itm.ind fun l bs xs ih => by
  cases l with
  | false => exact write_text bs xs
  | true => exact write_list bs xs ih
end Go.Proofs.Ytgjiealcjaojaaa
