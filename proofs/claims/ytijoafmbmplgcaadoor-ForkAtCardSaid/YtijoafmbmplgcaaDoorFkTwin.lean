/- The laws' Twin of layer 13: a plan in new memory, of at most forty accounts. -/
import Derived.Test.YtijoafmbmplgcaaDoorFkAt
import Derived.Test.YtijoafmbmplgcaaDoorFkOps
import Derived.Maps.AppendAt
import Derived.Laws.AppendOwnNone
namespace Go.Proofs.YtijoafmbmplgcaaDoor
open Go.RowKit

theorem infoAd3 : (Tryd.prog.info? 27).map (fun i => (i.zero, i.size, i.bytes)) = some (some (.agg (AdC (List.replicate 20 0))), 20, 20) := by kernel_rfl
theorem conf_set {ch : Nat} {bl : List Nat} {t0 t1 dao : Nat} {fv v : Value} {ta : List Nat} (hl : bl.length = 14) : (ConfL ch bl t0 t1 dao fv ta).set 18 v = ConfL ch bl t0 t1 dao v ta := by
  unfold ConfL
  rw [List.set_cons_succ, List.set_append]
  simp [hl]
/-- No plan, in cells. -/
def Conf0 : Array Value := (ConfL 0 (List.replicate 14 0) 0 0 0 (.slice none 0 0) (List.replicate 20 0)).toArray
theorem conf0_size : Conf0.size = 39 := rfl
/-- Addresses one behind the other, in cells. -/
def AdsC (fs : List (List Nat)) : List Value := fs.flatMap fun bs => bs.map fun n : Nat => Value.int .u8 (n : Int)
theorem adsC_len {fs : List (List Nat)} (h : ∀ bs ∈ fs, bs.length = 20) : (AdsC fs).length = fs.length * 20 := by
  induction fs with
  | nil => rfl
  | cons x r ih =>
    have := ih fun b hb => h b (by simp [hb])
    have hx := h x (by simp)
    unfold AdsC at this ⊢
    rw [List.flatMap_cons, List.length_append, List.length_map, this, hx, List.length_cons]
    omega
theorem adsC_get {fs : List (List Nat)} (h : ∀ bs ∈ fs, bs.length = 20) : ∀ (i : Nat) (bs : List Nat), fs[i]? = some bs → ∀ (j : Nat) (v : Value), (bs.map fun n : Nat => Value.int .u8 (n : Int))[j]? = some v → (AdsC fs)[i * 20 + j]? = some v := by
  induction fs with
  | nil => intro i bs hi; simp at hi
  | cons x r ih =>
    intro i bs hi j v hj
    have hx := h x (by simp)
    have hjl : j < 20 := by
      have := (List.getElem?_eq_some_iff.1 hj).1
      rw [List.length_map] at this
      have hb : bs.length = 20 := h bs (List.mem_of_getElem? hi)
      omega
    unfold AdsC
    rw [List.flatMap_cons]
    cases i with
    | zero =>
      simp at hi
      subst hi
      rw [Nat.zero_mul, Nat.zero_add, List.getElem?_append_left (by rw [List.length_map]; omega)]
      exact hj
    | succ i =>
      have := ih (fun b hb => h b (by simp [hb])) i bs (by simpa using hi) j v hj
      rw [List.getElem?_append_right (by rw [List.length_map]; omega), List.length_map, hx, show (i + 1) * 20 + j - 20 = i * 20 + j by omega]
      exact this
theorem adsC_back {w : World} {b o : Nat} {fs : List (List Nat)} (h : ∀ i bs, fs[i]? = some bs → bs.length = 20 ∧ w.rangeAt b (o + i * 20) (bs.map fun n : Nat => Value.int .u8 (n : Int))) : ∀ k u, (AdsC fs)[k]? = some u → w.cell? ⟨b, o + k, none⟩ = some u := by
  intro k u hk
  have hall : ∀ bs ∈ fs, bs.length = 20 := fun bs hb => by
    obtain ⟨i, hi, he⟩ := List.getElem_of_mem hb
    exact (h i bs (by rw [List.getElem?_eq_getElem hi, he])).1
  have hkl := (List.getElem?_eq_some_iff.1 hk).1
  rw [adsC_len hall] at hkl
  have hi : k / 20 < fs.length := by omega
  obtain ⟨bs, hbs⟩ : ∃ bs, fs[k / 20]? = some bs := ⟨_, List.getElem?_eq_getElem hi⟩
  obtain ⟨hl, hr⟩ := h (k / 20) bs hbs
  have hj : k % 20 < (bs.map fun n : Nat => Value.int .u8 (n : Int)).length := by rw [List.length_map, hl]; omega
  have h3 := adsC_get hall (k / 20) bs hbs (k % 20) _ (List.getElem?_eq_getElem hj)
  rw [show k / 20 * 20 + k % 20 = k by omega, hk] at h3
  have h4 := hr (k % 20) _ (List.getElem?_eq_getElem hj)
  rw [Nat.add_assoc, show k / 20 * 20 + k % 20 = k by omega] at h4
  rw [h4, ← h3]
theorem adsC_one (fs : List (List Nat)) : ∀ u ∈ AdsC fs, u.oneCell' = true := fun u hu => by
  simp only [AdsC, List.mem_flatMap, List.mem_map] at hu
  obtain ⟨_, _, n, _, rfl⟩ := hu
  rfl
theorem run_append_ads (t' : TypeId) {w : World} {base : Nat} {v : Value} (hown : w.ownsRow base 27 20 v 0 []) {A : Option Addr} {c : Nat} {fs : List (List Nat)} (hf : AdsAt w A fs) (hn : fs.length ≤ 1000) (hb : base ≤ w.heap.size) :
    ∃ v' w', (Builtin.append_ #[25, 25] t' #[v, .slice A fs.length c]).run Tryd.prog w = .ok v' w' ∧ w'.ownsRow base 27 20 v' fs.length (AdsC fs) ∧ w.grownBy w' v.ownBlock ∧ (v'.ownBlock = v.ownBlock ∨ v'.ownBlock = some w.heap.size) := by
  obtain ⟨i0, hi, hz0, hz1, hz2⟩ := info_parts infoAd3
  cases A with
  | none =>
    obtain rfl : fs = [] := hf
    exact ⟨v, w, run_append_owned_none (P := Tryd.prog) (w := w) base 25 t' 27 i0 20 Tryd.underlying25 hi v _ _ hown, hown, ⟨rfl, rfl, rfl, Nat.le_refl _, fun _ _ _ => rfl⟩, .inl rfl⟩
  | some ad =>
    have hall : ∀ bs ∈ fs, bs.length = 20 := fun bs hb => by
      obtain ⟨i, hi, he⟩ := List.getElem_of_mem hb
      exact (hf i bs (by rw [List.getElem?_eq_getElem hi, he])).2.2.1
    obtain ⟨v', w', h1, h2, h3, _, h5⟩ := run_append_own_at (P := Tryd.prog) w base 25 t' 27 i0 (.agg (AdC (List.replicate 20 0))) 20 20 Tryd.underlying25 hi hz0 hz1 hz2 (by simp [Value.cells]) (by decide) v 0 [] hown ad fs.length c (AdsC fs) (adsC_len hall)
      (fun j u hj => by
        have hjl := (List.getElem?_eq_some_iff.1 hj).1
        rw [adsC_len hall] at hjl
        obtain ⟨x, hx⟩ : ∃ x, fs[0]? = some x := ⟨_, List.getElem?_eq_getElem (by omega)⟩
        obtain ⟨b, o, sp⟩ := ad
        obtain rfl : sp = none := (hf 0 x hx).1
        rw [Addr.add_mid]; exact adsC_back (fun i bs hi => (hf i bs hi).2.2) j u hj) (adsC_one fs) (by unfold maxLen; omega) (by omega) hb
    refine ⟨v', w', h1, ?_, h3, h5⟩
    rw [Nat.zero_add] at h2
    exact h2
theorem ads_of_own {w : World} {base : Nat} {v : Value} {fs : List (List Nat)} (hall : ∀ bs ∈ fs, bs.length = 20) (h : w.ownsRow base 27 20 v fs.length (AdsC fs)) : ∃ A c, v = .slice A fs.length c ∧ fs.length ≤ c ∧ AdsAt w A fs ∧ ∀ a, A = some a → base ≤ a.block := by
  have h0 := h
  rcases h.2 with ⟨e, h0⟩ | ⟨g, cap, cur, rfl, hg, hh, hcap, _⟩
  · have : fs = [] := List.eq_nil_of_length_eq_zero h0
    subst this
    exact ⟨none, 0, e, Nat.zero_le _, rfl, fun a ha => by cases ha⟩
  · refine ⟨some ⟨g, 0, none⟩, cap, rfl, hcap, fun i bs hi => ⟨rfl, (Array.getElem?_eq_some_iff.1 hh).1, hall bs (List.mem_of_getElem? hi), fun j u hj => ?_⟩, fun a ha => by injection ha with ha; rw [← ha]; exact hg⟩
    have h2 := World.ownsRow.cells h0 (g := g) rfl (i * 20 + j) _ (adsC_get hall i bs hi j u hj)
    rw [Addr.add_mid] at h2
    show w.cell? ⟨g, 0 + i * 20 + j, none⟩ = _
    rw [show 0 + i * 20 + j = 0 + (i * 20 + j) by omega]
    exact h2

section
variable {ops : Array Oper} {rest : List Oper} {o : Oper} {a : Act} {w : World} {Q : Exit → Act → World → Prop}
theorem fk_append_run (hgd : o.guard = none) (s x : Operand) (t : TypeId) (ho : o.op = .call { callee := .builtin .append, args := #[s, x], argTypes := #[t, t] }) {v' : Value} {w' : World}
    (hr : (Builtin.append_ #[t, t] o.type #[a.eval s, a.eval x]).run Tryd.prog w = .ok v' w') (h : wpList Tryd.prog ops Q rest (a.put o.dst v') w') : wpList Tryd.prog ops Q (o :: rest) a w := by
  refine wpList_plain hgd fun K hK => ?_
  unfold Oper.wp execOp
  simp only [ho, resolve, invoke, builtin, Sem.run_bind, Sem.run_pure, Result.andThen_ok, List.map_toArray, List.map_cons, List.map_nil, hr]
  exact hK _ _ h
end
theorem AdsAt.move {w w' : World} {A : Option Addr} {fs : List (List Nat)} {base : Nat} (h : AdsAt w A fs) (hA : ∀ a, A = some a → base ≤ a.block) (hh : ∀ k, base ≤ k → w'.heap[k]? = w.heap[k]?) (hs : w.heap.size ≤ w'.heap.size) : AdsAt w' A fs := by
  cases A with
  | none => exact h
  | some a =>
    have hb := hA a rfl
    exact fun i bs hi => by
      obtain ⟨h1, h2, h3, h4⟩ := h i bs hi
      exact ⟨h1, Nat.lt_of_lt_of_le h2 hs, h3, fun j v hj => by
        have := h4 j v hj
        unfold World.cell? at this ⊢
        rw [hh _ hb]
        exact this⟩

set_option maxRecDepth 100000 in
set_option maxHeartbeats 6400000 in
theorem twin13_c {ch : Nat} {bl : List Nat} {t0 t1 dao : Nat} {A : Option Addr} {c : Nat} {fs : List (List Nat)} {ta : List Nat} (hl : bl.length = 14) (ht : ta.length = 20) (w : World) (hf : AdsAt w A fs) (hc : fs.length ≤ c) :
    Calls Tryd.prog 8 #[.agg (ConfL ch bl t0 t1 dao (.slice A fs.length c) ta).toArray] w fun e w' =>
      ∃ A' c', e = .returned (.agg (ConfL ch bl t0 t1 dao (.slice A' (fs.take 40).length c') ta).toArray) ∧ AdsAt w' A' (fs.take 40) ∧ (fs.take 40).length ≤ c' ∧ Below w.heap.size w w' := by
  obtain ⟨n, hn⟩ : ∃ n, n = fs.length := ⟨_, rfl⟩
  rw [← hn] at hc ⊢
  obtain ⟨us, hus⟩ : ∃ us, us = fs.take 40 := ⟨_, rfl⟩
  have hul : us.length ≤ 40 := by rw [hus, List.length_take]; omega
  have huf : AdsAt w A us := by
    rw [hus]
    cases A with
    | none => have h : fs = [] := hf; rw [h]; rfl
    | some a => exact fun i bs hi => hf i bs (by rw [List.getElem?_take] at hi; split at hi; exact hi; cases hi)
  have hall : ∀ bs ∈ us, bs.length = 20 := fun bs hb => by
    obtain ⟨i, hi, he⟩ := List.getElem_of_mem hb
    cases A with
    | none => have h : us = [] := huf; rw [h] at hi; simp at hi
    | some a => exact (huf i bs (by rw [List.getElem?_eq_getElem hi, he])).2.2.1
  have hm : us.length = if 40 < n then 40 else n := by
    rw [hus, List.length_take, ← hn]
    split <;> omega
  have hc40 : 40 < n → 40 ≤ c := fun h => by omega
  have HUL := Lib.hid hul
  have HALL := Lib.hid hall
  rw [← hus]
  obtain ⟨m, hmm⟩ : ∃ m, m = us.length := ⟨_, rfl⟩
  rw [← hmm] at hm
  rw [← hmm]
  have HM := Lib.hid hmm
  clear hus hul hall hmm
  have hlen : (ConfL ch bl t0 t1 dao (.slice A n c) ta).length = 39 := conf_len hl ht
  have hc18 : (ConfL ch bl t0 t1 dao (.slice A n c) ta)[18]? = some (.slice A n c) := by simp [ConfL, List.getElem?_append, hl]
  have HSET : Hid (∀ v, (ConfL ch bl t0 t1 dao (.slice A n c) ta).set 18 v = ConfL ch bl t0 t1 dao v ta) := fun v => conf_set hl
  generalize ConfL ch bl t0 t1 dao (.slice A n c) ta = L at *
  have hb1 : Below w.heap.size w (w.alloc (.cells L.toArray 29)) := (Below.refl _ _).alloc (Nat.le_refl _) _
  have hb2 : Below w.heap.size w ((w.alloc (.cells L.toArray 29)).alloc (.cells Conf0 29)) := hb1.alloc hb1.size _
  have hg1 : ((w.alloc (.cells L.toArray 29)).alloc (.cells Conf0 29)).heap[w.heap.size]? = some (.cells L.toArray 29 (0, 0)) := by
    rw [Below.heap_alloc _ _ _ (by simp)]; exact heap_alloc_new w _
  have hg2 : ((w.alloc (.cells L.toArray 29)).alloc (.cells Conf0 29)).heap[w.heap.size + 1]? = some (.cells Conf0 29 (0, 0)) := by
    have := heap_alloc_new (w.alloc (.cells L.toArray 29)) (.cells Conf0 29)
    simpa using this
  have HN := Lib.hid hn
  have HUF := Lib.hid (huf.below hb2)
  have HB := Lib.hid hb2
  have HG1 := Lib.hid hg1
  have HG2 := Lib.hid hg2
  have HLEN := Lib.hid hlen
  have HC18 := Lib.hid hc18
  have HS : Hid (((w.alloc (.cells L.toArray 29)).alloc (.cells Conf0 29)).heap.size = w.heap.size + 2) := by show _ = _; simp
  clear hn hf huf hb1 hb2 hg1 hg2 hlen hc18
  go_enter Tryd.func8, Tryd.ntmps8
  go_upto_region 1 with (fail)
  show Code.wp _ _ _ _ ((w.alloc (.cells L.toArray 29)).alloc (.cells Conf0 29))
  generalize (w.alloc (.cells L.toArray 29)).alloc (.cells Conf0 29) = X at *
  have c18 : X.cell? ⟨w.heap.size, 18, none⟩ = some (.slice A n c) := by rw [cell_of_row _ _ 18 _ _ (0, 0) HG1.out, List.getElem?_toArray]; exact HC18.out
  have f18 : X.frozen? ⟨w.heap.size, 18, none⟩ = false := frozen_of_row _ _ _ _ _ HG1.out
  have hown : (X.alloc (.cells #[] 27)).ownsRow X.heap.size 27 20 (.slice (some ⟨X.heap.size, 0, none⟩) 0 0) 0 [] :=
    ⟨rfl, .inr ⟨X.heap.size, 0, #[], rfl, Nat.le_refl _, heap_alloc_new X _, Nat.zero_le _, by unfold maxLen; omega, rfl, rfl⟩⟩
  obtain ⟨v', w1, happ, hown2, hgr, -⟩ := run_append_ads 25 hown (HUF.out.below ((Below.refl _ _).alloc (Nat.le_refl _) _)) (by have := HUL.out; omega) (by simp) (c := c)
  rw [← HM.out] at happ
  have hsx := HS.out
  have hg1 : w1.heap[w.heap.size]? = some (.cells L.toArray 29 (0, 0)) := by
    rw [hgr.block w.heap.size (by simp; omega) (by simp [Value.ownBlock]; omega), Below.heap_alloc _ _ _ (by omega)]; exact HG1.out
  have hg2 : w1.heap[w.heap.size + 1]? = some (.cells Conf0 29 (0, 0)) := by
    rw [hgr.block (w.heap.size + 1) (by simp; omega) (by simp [Value.ownBlock]; omega), Below.heap_alloc _ _ _ (by omega)]; exact HG2.out
  have hbw : Below w.heap.size w w1 := (HB.out.alloc HB.out.size (.cells #[] 27)).grown hgr (by simp; omega) (fun k hk => by simp [Value.ownBlock] at hk; omega)
  obtain ⟨A', c', hv', hmc, hads, hbase⟩ := ads_of_own HALL.out hown2
  rw [← HM.out] at hv' hmc
  subst hv'
  have d18 : w1.cell? ⟨w.heap.size, 18, none⟩ = some (.slice A n c) := by rw [cell_of_row _ _ 18 _ _ (0, 0) hg1, List.getElem?_toArray]; exact HC18.out
  have e18 : w1.frozen? ⟨w.heap.size, 18, none⟩ = false := frozen_of_row _ _ _ _ _ hg1
  have hg3 : (w1.setCell ⟨w.heap.size, 18, none⟩ (.slice A' m c')).heap[w.heap.size]? = some (.cells (ConfL ch bl t0 t1 dao (.slice A' m c') ta).toArray 29 (0, 0)) := by
    rw [heap_setCell_same w1 w.heap.size 18 _ _ _ hg1, ← HSET.out (.slice A' m c'), List.setIfInBounds_toArray]
  have hg4 : (w1.setCell ⟨w.heap.size, 18, none⟩ (.slice A' m c')).heap[w.heap.size + 1]? = some (.cells Conf0 29 (0, 0)) := by
    rw [Below.heap_setCell _ ⟨w.heap.size, 18, none⟩ _ _ (by simp)]; exact hg2
  have hb3 : Below w.heap.size w (w1.setCell ⟨w.heap.size, 18, none⟩ (.slice A' m c')) := hbw.setCell (p := ⟨w.heap.size, 18, none⟩) (Nat.le_refl _) _
  have hads2 : AdsAt (w1.setCell ⟨w.heap.size, 18, none⟩ (.slice A' m c')) A' us := hads.move hbase (fun k hk => Below.heap_setCell _ ⟨w.heap.size, 18, none⟩ _ _ (by show k ≠ w.heap.size; omega)) (by simp [World.setCell])
  have hlv : (ConfL ch bl t0 t1 dao (.slice A' m c') ta).length = 39 := conf_len hl ht
  have hov : ∀ u ∈ ConfL ch bl t0 t1 dao (.slice A' m c') ta, u.oneCell' = true := fun u hu => by
    simp only [ConfL, List.mem_cons, List.mem_append, List.mem_map] at hu
    rcases hu with rfl | ⟨_, _, rfl⟩ | rfl | rfl | rfl | rfl | ⟨_, _, rfl⟩ <;> rfl
  have hg5 := setRow_heap (w1.setCell ⟨w.heap.size, 18, none⟩ (.slice A' m c')) (w.heap.size + 1) _ (ConfL ch bl t0 t1 dao (.slice A' m c') ta).toArray 29 (0, 0) hg4
  have hb5 := below_setRow hb3 (show w.heap.size ≤ w.heap.size + 1 by omega) (ConfL ch bl t0 t1 dao (.slice A' m c') ta).toArray
  have hads3 : AdsAt ((w1.setCell ⟨w.heap.size, 18, none⟩ (.slice A' m c')).setRow (w.heap.size + 1) (ConfL ch bl t0 t1 dao (.slice A' m c') ta).toArray) A' us := hads2.move hbase (fun k hk => setRow_other _ _ _ _ (by omega)) (by simp [World.setRow])
  have HAPP := Lib.hid happ
  have HG3 := Lib.hid hg3
  have HG4 := Lib.hid hg4
  have HG5 := Lib.hid hg5
  have HB5 := Lib.hid hb5
  have HADS := Lib.hid hads3
  have HLV := Lib.hid hlv
  have HOV := Lib.hid hov
  have HMC := Lib.hid hmc
  have HD18 : Hid (w1.cell? ⟨w.heap.size, 18, none⟩ = some (.slice A n c) ∧ w1.frozen? ⟨w.heap.size, 18, none⟩ = false) := ⟨d18, e18⟩
  clear hown hown2 hgr hsx hg1 hg2 hbw hmc hads hbase d18 e18 hg3 hg4 hb3 hads2 hlv hov hg5 hb5 hads3 happ HSET HUF HUL HALL
  by_cases h40 : 40 < n
  case' pos =>
    rw [if_pos h40] at hm
    subst hm
    have h4 := hc40 h40
  case' neg =>
    rw [if_neg h40] at hm
    subst hm
  all_goals
    obtain ⟨d18, e18⟩ := HD18.out
    go_upto_region 5 with (at_builtin; refine fk_append_run rfl (.tmp 11) (.tmp 12) 25 rfl HAPP.out ?_)
    refine wp_region_lit ?_
    refine wpList_load_row rfl 29 (.tmp 1) rfl w.heap.size rfl 29 _ (0, 0) _ HG3.out Tryd.underlying29 rfl (by rw [infoConf, List.size_toArray, HLV.out]) ?_
    refine wpList_store_row rfl 29 (.tmp 2) (.tmp 15) rfl (w.heap.size + 1) _ rfl rfl 29 _ HG4.out (by rw [infoConf, List.size_toArray, HLV.out]) (by rw [conf0_size, List.size_toArray, HLV.out]) (by rw [List.all_toArray]; exact List.all_eq_true.2 HOV.out) ?_
    refine wpList_nil ?_
    have hg5 := HG5.out
    have hb5 := HB5.out
    have hads := HADS.out
    have hlv := HLV.out
    clear HG5 HB5 HADS HG3 HG4 HAPP HD18 HLV HOV d18 e18
    revert hg5 hb5 hads
    generalize (w1.setCell ⟨w.heap.size, 18, none⟩ _).setRow (w.heap.size + 1) _ = Y
    intro hg5 hb5 hads
    have HG5 := Lib.hid hg5
    have HADS := Lib.hid hads
    have HLV := Lib.hid hlv
    clear hg5 hads hlv
    go_simp
    go_wp2_with fail
    exact bodyPost_ret (results_cell_row Tryd.results8 _ _ (w.heap.size + 1) 29 _ (0, 0) _ rfl HG5.out Tryd.underlying29 rfl (by rw [infoConf, List.size_toArray, HLV.out])) rfl ⟨A', c', rfl, HADS.out, HMC.out, hb5⟩
end Go.Proofs.YtijoafmbmplgcaaDoor
