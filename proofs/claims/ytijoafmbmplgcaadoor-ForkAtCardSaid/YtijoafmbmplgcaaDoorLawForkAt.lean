/- The law ForkAt. (Written by wip/genfkat.py.) -/
import Derived.Test.YtijoafmbmplgcaaDoorFkTwin
namespace Go.Proofs.YtijoafmbmplgcaaDoor
open Go.RowKit

/-- A plan by value, its accounts in memory. -/
def Fact.conf (ch : Nat) (bl : List Nat) (t0 t1 dao : Nat) (us : List (List Nat)) (ta : List Nat) : Fact :=
  ⟨fun v w => ∃ A c, v = .agg (ConfL ch bl t0 t1 dao (.slice A us.length c) ta).toArray ∧ AdsAt w A us ∧ us.length ≤ c, fun _ _ _ hb ⟨A, c, e, h, hc⟩ => ⟨A, c, e, h.below hb, hc⟩⟩
theorem en_twin13 (args : Array Value) (w : World) : (callFunc 8 args).run Tryd.prog w = .ok (.enter 8 args) w := by go_simp
theorem en_fkCheck (args : Array Value) (w : World) : (callFunc 11 args).run Tryd.prog w = .ok (.enter 11 args) w := by go_simp
theorem en_rfkCheck (args : Array Value) (w : World) : (callFunc 12 args).run Tryd.prog w = .ok (.enter 12 args) w := by go_simp
theorem load_conf {w : World} {g : Nat} {D : Array Value} (h : w.heap[g]? = some (.cells D 29 (0, 0))) (hl : D.size = 39) : (Instr.loadAt 29 (.pointer (some ⟨g, 0, none⟩))).run Tryd.prog w = .ok (.agg D) w := by
  simp only [Instr.loadAt, Instr.sureAddr, Sem.run_bind, Sem.run_pure, Result.andThen_ok]
  exact run_loadVar_row w _ _ _ D (0, 0) _ h Tryd.underlying29 rfl (by rw [infoConf, hl])

set_option maxRecDepth 100000 in
set_option maxHeartbeats 6400000 in
theorem forkAt_c {ch : Nat} {bl : List Nat} {t0 t1 dao : Nat} {A : Option Addr} {c : Nat} {fs : List (List Nat)} {ta : List Nat} (hl : bl.length = 14) (ht : ta.length = 20) (w : World) (hN : NamesAt w) (hf : AdsAt w A fs) (hfd : FineConf bl t1 fs) (hc : fs.length ≤ c) (num time : Nat) :
    Calls Tryd.prog 3 #[.agg (ConfL ch bl t0 t1 dao (.slice A fs.length c) ta).toArray, .int .u64 (num : Nat), .int .u64 (time : Nat)] w (RetV (.bool true) w) := by
  obtain ⟨us, hus⟩ : ∃ us, us = fs.take 40 := ⟨_, rfl⟩
  have HFD : Hid (FineConf bl t1 us) := ⟨fun x hx => hfd.1 x (by rw [hus] at hx; exact List.mem_of_mem_take hx), hfd.2⟩
  have HN := Lib.hid hN
  clear hN hfd
  have hul : us.length ≤ 40 := by rw [hus, List.length_take]; omega
  have hut : us.take 40 = us := List.take_of_length_le hul
  obtain ⟨L, hL⟩ : ∃ L, L = ConfL ch bl t0 t1 dao (.slice A fs.length c) ta := ⟨_, rfl⟩
  have hlen : L.toArray.size = 39 := by rw [hL, List.size_toArray]; exact conf_len hl ht
  have hb0 : Below w.heap.size w (w.alloc (.cells L.toArray 29)) := (Below.refl _ _).alloc (Nat.le_refl _) _
  have K0 : Hid (Calls Tryd.prog 8 #[.agg L.toArray] (w.alloc (.cells L.toArray 29)) fun e w' => ∃ A' c', e = .returned (.agg (ConfL ch bl t0 t1 dao (.slice A' us.length c') ta).toArray) ∧ AdsAt w' A' us ∧ us.length ≤ c' ∧ Below (w.alloc (.cells L.toArray 29)).heap.size (w.alloc (.cells L.toArray 29)) w') := by
    rw [hL, hus]; exact twin13_c hl ht _ (by rw [← hL]; exact hf.below hb0) hc
  have hg0 := heap_alloc_new w (.cells L.toArray 29)
  rw [← hL]
  have HG0 := Lib.hid hg0
  have HLEN := Lib.hid hlen
  have HB0 := Lib.hid hb0
  have HUL := Lib.hid hul
  have HUT := Lib.hid hut
  have HL := Lib.hid hl
  have HT := Lib.hid ht
  clear hus hul hut hL hlen hb0 hg0 hf hc hl ht
  go_enter Tryd.func3, Tryd.ntmps3
  go_upto_region 1 with (fail)
  generalize w.alloc (.cells L.toArray 29) = X at *
  refine wp_region_lit ?_
  refine wpList_load_row rfl 29 (.tmp 3) rfl w.heap.size rfl 29 L.toArray (0, 0) _ HG0.out Tryd.underlying29 rfl (by rw [infoConf, HLEN.out]) ?_
  go_simp
  go_wp2_with fail
  rename_i KK hKK
  (with_reducible refine K0.out.mono ?_)
  rintro e w1 ⟨A1, c1, rfl, ha1, hc1, hb1⟩
  show KK _ _
  refine hKK _ _ ?_
  clear hKK KK K0
  obtain ⟨D, hD⟩ : ∃ D, D = (ConfL ch bl t0 t1 dao (.slice A1 us.length c1) ta).toArray := ⟨_, rfl⟩
  have hdl : D.size = 39 := by rw [hD, List.size_toArray]; exact conf_len HL.out HT.out
  have hdo : D.all (·.oneCell') = true := by
    rw [hD, List.all_toArray]
    refine List.all_eq_true.2 fun u hu => ?_
    simp only [ConfL, List.mem_cons, List.mem_append, List.mem_map] at hu
    rcases hu with rfl | ⟨_, _, rfl⟩ | rfl | rfl | rfl | rfl | ⟨_, _, rfl⟩ <;> rfl
  rw [← hD]
  have HD := Lib.hid hD
  clear hD
  refine wpList_plain rfl fun K hK => ?_; go_simp; refine hK _ _ ?_; clear hK K
  have hg : (w1.alloc (.cells Conf0 29)).heap[w1.heap.size]? = some (.cells Conf0 29 (0, 0)) := heap_alloc_new w1 _
  have hb2 := hb1.alloc hb1.size (.cells Conf0 29)
  have ha2 : AdsAt (w1.alloc (.cells Conf0 29)) A1 us := ha1.below ((Below.refl _ _).alloc (Nat.le_refl _) _)
  refine wpList_store_row rfl 29 (.tmp 7) (.tmp 13) rfl w1.heap.size D rfl rfl 29 Conf0 hg (by rw [infoConf, hdl]) (by rw [conf0_size, hdl]) hdo ?_
  have hg2 := setRow_heap (w1.alloc (.cells Conf0 29)) w1.heap.size _ D 29 (0, 0) hg
  have hb3 : Below w.heap.size w ((w1.alloc (.cells Conf0 29)).setRow w1.heap.size D) := below_setRow (HB0.out.trans (hb2.mono HB0.out.size)) (by have := HB0.out.size; have := hb1.size; omega) D
  have ha3 : AdsAt ((w1.alloc (.cells Conf0 29)).setRow w1.heap.size D) A1 us := by
    have hsz : ((w1.alloc (.cells Conf0 29)).setRow w1.heap.size D).heap.size = w1.heap.size + 1 := by simp [World.setRow]
    cases A1 with
    | none => exact ha1
    | some a =>
      intro i bs hi
      obtain ⟨q1, hlt, q3, q4⟩ := ha1 i bs hi
      refine ⟨q1, by rw [hsz]; omega, q3, fun j v hj => ?_⟩
      have h5 := q4 j v hj
      unfold World.cell? at h5 ⊢
      rw [setRow_other _ _ _ _ (by show a.block ≠ _; omega), Below.heap_alloc _ _ _ hlt]
      exact h5
  have hlt : w1.heap.size < ((w1.alloc (.cells Conf0 29)).setRow w1.heap.size D).heap.size := (Array.getElem?_eq_some_iff.1 hg2).1
  show wpList _ _ _ _ _ ((w1.alloc (.cells Conf0 29)).setRow w1.heap.size D)
  generalize (w1.alloc (.cells Conf0 29)).setRow w1.heap.size D = Y at *
  obtain ⟨g7, hg7⟩ : ∃ g, g = w1.heap.size := ⟨_, rfl⟩
  rw [← hg7] at hg2 hlt ⊢
  obtain ⟨Z, hZ⟩ : ∃ Z, Z = checkZ bl t0 t1 us := ⟨_, rfl⟩
  obtain ⟨z1, hz1⟩ : ∃ z, z = (atV bl t0 t1 us num time).1 := ⟨_, rfl⟩
  obtain ⟨z2, hz2⟩ : ∃ z, z = (atV bl t0 t1 us num time).2 := ⟨_, rfl⟩
  have hun : us.length ≤ 1000 := by have := HUL.out; omega
  have KT : Hid (∀ W, Below Y.heap.size Y W → Calls Tryd.prog 8 #[.agg D] W (RetR (fun w' v => (Fact.conf ch bl t0 t1 dao us ta).holds v w') W)) := fun W hW => by
    rw [HD.out]
    refine (twin13_c HL.out HT.out W (ha3.below hW) hc1).mono fun e w' ⟨A', c', he, h1, h2, h3⟩ => ?_
    rw [HUT.out] at he h1 h2
    exact ⟨_, he, ⟨A', c', rfl, h1, h2⟩, h3⟩
  have KR : Hid (∀ W, Below Y.heap.size Y W → Calls Tryd.prog 12 #[.agg D] W (RetV (.int .i64 Z) W)) := fun W hW => by
    rw [HD.out, hZ]; exact rcheck_c HL.out W (ha3.below hW) hun
  have KQ : Hid (∀ W, Below Y.heap.size Y W → Calls Tryd.prog 10 #[.agg D, .int .u64 (num : Nat), .int .u64 (time : Nat)] W (RetV (.tuple #[.int .i64 z1, .int .i64 z2]) W)) := fun W hW => by
    rw [HD.out, hz1, hz2]; exact rat_c HL.out HT.out W (ha3.below hW) hun num time
  have KC : Hid (∀ W A' c', AdsAt W A' us → Calls Tryd.prog 11 #[.agg (ConfL ch bl t0 t1 dao (.slice A' us.length c') ta).toArray] W (RetV (.int .i64 Z) W)) := fun W A' c' hW => by
    rw [hZ]; exact cCheck HL.out HT.out W hW HFD.out hun
  have KA : Hid (∀ W A' c', AdsAt W A' us → Calls Tryd.prog 9 #[.agg (ConfL ch bl t0 t1 dao (.slice A' us.length c') ta).toArray, .int .u64 (num : Nat), .int .u64 (time : Nat)] W (RetV (.tuple #[.int .i64 z1, .int .i64 z2]) W)) := fun W A' c' hW => by
    rw [hz1, hz2]; exact cAt HL.out HT.out W hW HFD.out hun num time
  have HG7 := Lib.hid hg2
  have HLT := Lib.hid hlt
  have HBY := Lib.hid hb3
  have HNY := Lib.hid (HN.out.below hb3)
  have HDL := Lib.hid hdl
  clear HD hdo hg hb2 ha2 hg2 hb3 ha3 hlt hg7 hZ hz1 hz2 hun hdl ha1 hc1 hb1 HG0 HB0 HLEN HUL HUT HL HT
  refine wpList_nil ?_
  go_simp
  go_upto_region 2 with (fail)
  refine wp_region_lit ?_
  refine wpList_load_row rfl 29 (.tmp 7) rfl g7 rfl 29 D (0, 0) _ HG7.out Tryd.underlying29 rfl (by rw [infoConf, HDL.out]) ?_
  go_simp
  go_wp2_with fail
  (with_reducible refine (KT.out Y (Below.refl _ _)).mono ?_)
  rintro e w2 ⟨v2, rfl, ⟨A2, c2, rfl, ha2, hc2⟩, hb2⟩
  have K2 := Lib.hid (KA.out w2 A2 c2 ha2)
  have HB2 := Lib.hid hb2
  clear ha2 hc2 hb2
  generalize (ConfL ch bl t0 t1 dao (.slice A2 us.length c2) ta).toArray = D2 at *
  go_wp2_with fail
  (with_reducible refine K2.out.mono ?_)
  rintro e w3 ⟨rfl, hb3⟩
  have HB3 := Lib.hid (HB2.out.trans (hb3.mono HB2.out.size))
  clear hb3 HB2 K2
  go_upto_region 3 with (fail)
  refine wp_region_lit ?_
  refine wpList_load_row rfl 29 (.tmp 7) rfl g7 rfl 29 D (0, 0) _ ((HB3.out.block g7 HLT.out).trans HG7.out) Tryd.underlying29 rfl (by rw [infoConf, HDL.out]) ?_
  go_simp
  go_wp2_with fail
  (with_reducible refine (KQ.out w3 HB3.out).mono ?_)
  rintro e w4 ⟨rfl, hb4⟩
  have HB4 := Lib.hid (HB3.out.trans (hb4.mono HB3.out.size))
  clear hb4 HB3
  go_upto_region 4 with (fail)
  refine wp_region_see 20 [29, 30, 31, 32, 33, 34, 35, 36, 37, 38, 39, 40, 41, 42, 43, 44, 45, 46, 47, 6] [(29, .is (.agg D)), (30, Fact.conf ch bl t0 t1 dao us ta), (31, .is (.int .i64 Z)), (32, .is (.agg D)), (33, .is (.int .i64 Z)), (34, .is (.bool true)), (35, .is (.bool true)), (36, .is (.int .i64 z1)), (37, .is (.int .i64 z1)), (38, .is (.bool true)), (39, .is (.bool true)), (40, .is (.bool true)), (41, .is (.int .i64 z2)), (42, .is (.int .i64 z2)), (43, .is (.bool true)), (44, .is (.bool true)), (45, .is (.bool true)), (46, .is (.bool true)), (47, .is (.bool true)), (6, .is (.bool true))] (by kernel_rfl) (by kernel_rfl) (by rfl) ?_ ?_
  · refine seeOps_cons ?_ (seeOps_cons ?_ (seeOps_cons ?_ (seeOps_cons ?_ (seeOps_cons ?_ (seeOps_cons ?_ (seeOps_cons ?_ (seeOps_cons ?_ (seeOps_cons ?_ (seeOps_cons ?_ (seeOps_cons ?_ (seeOps_cons ?_ (seeOps_cons ?_ (seeOps_cons ?_ (seeOps_cons ?_ (seeOps_cons ?_ (seeOps_cons ?_ (seeOps_cons ?_ (seeOps_cons ?_ (seeOps_cons ?_ seeOps_nil)))))))))))))))))))
    · intro w9 hb9 fr hout hin
      have h7 : fr.tmps.getD 7 undef = .pointer (some ⟨g7, 0, none⟩) := hout 7 (by decide)
      clear hout hin
      exact op_loadAt (.tmp 7) rfl h7 (load_conf (((HB4.out.trans (hb9.mono HB4.out.size)).block g7 HLT.out).trans HG7.out) HDL.out) (wanted_none rfl) rfl
    · intro w9 hb9 fr hout hin
      have h29 : fr.tmps.getD 29 undef = .agg D := hin 29 (by decide) (by decide)
      clear hout hin
      exact op_call1 (.tmp 29) rfl en_twin13 (wanted_none rfl) (by rw [show fr.eval (.tmp 29) = _ from h29]; exact KT.out w9 (HB4.out.trans (hb9.mono HB4.out.size))) (fun _ _ h => h)
    · intro w9 hb9 fr hout hin
      have h30 : (Fact.conf ch bl t0 t1 dao us ta).holds (fr.tmps.getD 30 undef) w9 := hin 30 (by decide) (by decide)
      clear hout hin
      exact op_call1 (.tmp 30) rfl en_fkCheck (wanted_none rfl) (by obtain ⟨A9, c9, e9, ha9, -⟩ := h30; rw [show fr.eval (.tmp 30) = _ from e9]; exact (KC.out w9 A9 c9 ha9).mono fun _ _ h => RetV.ret h) (fun _ _ h => h)
    · intro w9 hb9 fr hout hin
      have h7 : fr.tmps.getD 7 undef = .pointer (some ⟨g7, 0, none⟩) := hout 7 (by decide)
      clear hout hin
      exact op_loadAt (.tmp 7) rfl h7 (load_conf (((HB4.out.trans (hb9.mono HB4.out.size)).block g7 HLT.out).trans HG7.out) HDL.out) (wanted_none rfl) rfl
    · intro w9 hb9 fr hout hin
      have h32 : fr.tmps.getD 32 undef = .agg D := hin 32 (by decide) (by decide)
      clear hout hin
      exact op_call1 (.tmp 32) rfl en_rfkCheck (wanted_none rfl) (by rw [show fr.eval (.tmp 32) = _ from h32]; exact (KR.out w9 (HB4.out.trans (hb9.mono HB4.out.size))).mono fun _ _ h => RetV.ret h) (fun _ _ h => h)
    · intro w9 hb9 fr hout hin
      have h31 : fr.tmps.getD 31 undef = .int .i64 Z := hin 31 (by decide) (by decide)
      have h33 : fr.tmps.getD 33 undef = .int .i64 Z := hin 33 (by decide) (by decide)
      clear hout hin
      exact op_eqI (.tmp 31) (.tmp 33) _ rfl h31 h33 (wanted_none rfl) rfl
    · intro w9 hb9 fr hout hin
      have h34 : fr.tmps.getD 34 undef = .bool true := hin 34 (by decide) (by decide)
      clear hout hin
      exact relStep_move (.tmp 34) rfl (wanted_none rfl) (by show fr.tmps.getD 34 undef = _; rw [h34])
    · intro w9 hb9 fr hout hin
      have h8 : fr.tmps.getD 8 undef = .int .i64 z1 := hout 8 (by decide)
      have h35 : fr.tmps.getD 35 undef = .bool true := hin 35 (by decide) (by decide)
      clear hout hin
      exact relStep_move (.tmp 8) rfl (wanted_some (g := 6) (t := 35) (b := true) rfl rfl h35) (by show fr.tmps.getD 8 undef = _; rw [h8])
    · intro w9 hb9 fr hout hin
      have h10 : fr.tmps.getD 10 undef = .int .i64 z1 := hout 10 (by decide)
      have h35 : fr.tmps.getD 35 undef = .bool true := hin 35 (by decide) (by decide)
      clear hout hin
      exact relStep_move (.tmp 10) rfl (wanted_some (g := 6) (t := 35) (b := true) rfl rfl h35) (by show fr.tmps.getD 10 undef = _; rw [h10])
    · intro w9 hb9 fr hout hin
      have h36 : fr.tmps.getD 36 undef = .int .i64 z1 := hin 36 (by decide) (by decide)
      have h37 : fr.tmps.getD 37 undef = .int .i64 z1 := hin 37 (by decide) (by decide)
      have h35 : fr.tmps.getD 35 undef = .bool true := hin 35 (by decide) (by decide)
      clear hout hin
      exact op_eqI (.tmp 36) (.tmp 37) _ rfl h36 h37 (wanted_some (g := 6) (t := 35) (b := true) rfl rfl h35) rfl
    · intro w9 hb9 fr hout hin
      have h35 : fr.tmps.getD 35 undef = .bool true := hin 35 (by decide) (by decide)
      have h38 : fr.tmps.getD 38 undef = .bool true := hin 38 (by decide) (by decide)
      clear hout hin
      exact relStep_pick (.tmp 35) (.tmp 38) (.const (.bool false)) rfl h35 (wanted_none rfl) (by show fr.tmps.getD 38 undef = _; rw [h38])
    · intro w9 hb9 fr hout hin
      have h39 : fr.tmps.getD 39 undef = .bool true := hin 39 (by decide) (by decide)
      clear hout hin
      exact relStep_move (.tmp 39) rfl (wanted_none rfl) (by show fr.tmps.getD 39 undef = _; rw [h39])
    · intro w9 hb9 fr hout hin
      have h9 : fr.tmps.getD 9 undef = .int .i64 z2 := hout 9 (by decide)
      have h40 : fr.tmps.getD 40 undef = .bool true := hin 40 (by decide) (by decide)
      clear hout hin
      exact relStep_move (.tmp 9) rfl (wanted_some (g := 11) (t := 40) (b := true) rfl rfl h40) (by show fr.tmps.getD 9 undef = _; rw [h9])
    · intro w9 hb9 fr hout hin
      have h11 : fr.tmps.getD 11 undef = .int .i64 z2 := hout 11 (by decide)
      have h40 : fr.tmps.getD 40 undef = .bool true := hin 40 (by decide) (by decide)
      clear hout hin
      exact relStep_move (.tmp 11) rfl (wanted_some (g := 11) (t := 40) (b := true) rfl rfl h40) (by show fr.tmps.getD 11 undef = _; rw [h11])
    · intro w9 hb9 fr hout hin
      have h41 : fr.tmps.getD 41 undef = .int .i64 z2 := hin 41 (by decide) (by decide)
      have h42 : fr.tmps.getD 42 undef = .int .i64 z2 := hin 42 (by decide) (by decide)
      have h40 : fr.tmps.getD 40 undef = .bool true := hin 40 (by decide) (by decide)
      clear hout hin
      exact op_eqI (.tmp 41) (.tmp 42) _ rfl h41 h42 (wanted_some (g := 11) (t := 40) (b := true) rfl rfl h40) rfl
    · intro w9 hb9 fr hout hin
      have h40 : fr.tmps.getD 40 undef = .bool true := hin 40 (by decide) (by decide)
      have h43 : fr.tmps.getD 43 undef = .bool true := hin 43 (by decide) (by decide)
      clear hout hin
      exact relStep_pick (.tmp 40) (.tmp 43) (.const (.bool false)) rfl h40 (wanted_none rfl) (by show fr.tmps.getD 43 undef = _; rw [h43])
    · intro w9 hb9 fr hout hin
      have h44 : fr.tmps.getD 44 undef = .bool true := hin 44 (by decide) (by decide)
      clear hout hin
      exact relStep_move (.tmp 44) rfl (wanted_none rfl) (by show fr.tmps.getD 44 undef = _; rw [h44])
    · intro w9 hb9 fr hout hin
      have h45 : fr.tmps.getD 45 undef = .bool true := hin 45 (by decide) (by decide)
      clear hout hin
      exact op_call0 rfl en_fkWakes (wanted_some (g := 16) (t := 45) (b := true) rfl rfl h45) ((fkwakes_c w9 (HNY.out.below (HB4.out.trans (hb9.mono HB4.out.size)))).mono fun _ _ h => RetV.ret h) (fun _ _ h => h)
    · intro w9 hb9 fr hout hin
      have h45 : fr.tmps.getD 45 undef = .bool true := hin 45 (by decide) (by decide)
      have h46 : fr.tmps.getD 46 undef = .bool true := hin 46 (by decide) (by decide)
      clear hout hin
      exact relStep_pick (.tmp 45) (.tmp 46) (.const (.bool false)) rfl h45 (wanted_none rfl) (by show fr.tmps.getD 46 undef = _; rw [h46])
    · intro w9 hb9 fr hout hin
      have h47 : fr.tmps.getD 47 undef = .bool true := hin 47 (by decide) (by decide)
      clear hout hin
      exact relStep_assign (.tmp 47) rfl (wanted_none rfl) (by show fr.tmps.getD 47 undef = _; rw [h47])
  intro X9 hb9
  refine relAsk_in (by rfl) ?_
  intro v29 h29
  obtain rfl : v29 = .agg D := h29
  refine relAsk_in (by rfl) ?_
  intro v30 h30
  refine relAsk_in (by rfl) ?_
  intro v31 h31
  obtain rfl : v31 = .int .i64 Z := h31
  refine relAsk_in (by rfl) ?_
  intro v32 h32
  obtain rfl : v32 = .agg D := h32
  refine relAsk_in (by rfl) ?_
  intro v33 h33
  obtain rfl : v33 = .int .i64 Z := h33
  refine relAsk_in (by rfl) ?_
  intro v34 h34
  obtain rfl : v34 = .bool true := h34
  refine relAsk_in (by rfl) ?_
  intro v35 h35
  obtain rfl : v35 = .bool true := h35
  refine relAsk_in (by rfl) ?_
  intro v36 h36
  obtain rfl : v36 = .int .i64 z1 := h36
  refine relAsk_in (by rfl) ?_
  intro v37 h37
  obtain rfl : v37 = .int .i64 z1 := h37
  refine relAsk_in (by rfl) ?_
  intro v38 h38
  obtain rfl : v38 = .bool true := h38
  refine relAsk_in (by rfl) ?_
  intro v39 h39
  obtain rfl : v39 = .bool true := h39
  refine relAsk_in (by rfl) ?_
  intro v40 h40
  obtain rfl : v40 = .bool true := h40
  refine relAsk_in (by rfl) ?_
  intro v41 h41
  obtain rfl : v41 = .int .i64 z2 := h41
  refine relAsk_in (by rfl) ?_
  intro v42 h42
  obtain rfl : v42 = .int .i64 z2 := h42
  refine relAsk_in (by rfl) ?_
  intro v43 h43
  obtain rfl : v43 = .bool true := h43
  refine relAsk_in (by rfl) ?_
  intro v44 h44
  obtain rfl : v44 = .bool true := h44
  refine relAsk_in (by rfl) ?_
  intro v45 h45
  obtain rfl : v45 = .bool true := h45
  refine relAsk_in (by rfl) ?_
  intro v46 h46
  obtain rfl : v46 = .bool true := h46
  refine relAsk_in (by rfl) ?_
  intro v47 h47
  obtain rfl : v47 = .bool true := h47
  refine relAsk_in (by rfl) ?_
  intro v6 h6
  obtain rfl : v6 = .bool true := h6
  refine relAsk_nil ?_
  refine wpList_nil ?_
  clear h30
  go_simp
  have HB9 := Lib.hid (HBY.out.trans ((HB4.out.trans (hb9.mono HB4.out.size)).mono HBY.out.size))
  go_wp2_with fail
  go_ret
  exact ⟨rfl, HB9.out⟩
end Go.Proofs.YtijoafmbmplgcaaDoor
