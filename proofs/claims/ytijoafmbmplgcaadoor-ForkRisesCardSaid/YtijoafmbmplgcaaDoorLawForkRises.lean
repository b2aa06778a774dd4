/- The law ForkRises. -/
import Derived.Test.YtijoafmbmplgcaaDoorFkRiseMath
import Derived.Test.YtijoafmbmplgcaaDoorFkOps2
import Derived.Deep.RegionHeld3
import Derived.RegionTactic
import Derived.BigRegion
namespace Go.Proofs.YtijoafmbmplgcaaDoor
open Go.RowKit

/-- A statement that ends in one way, two blocks told. -/
def PtG (F : Nat → Nat → Act) (R : Nat → Nat → World → Prop) : Exit → Act → World → Prop
  | .normal, a, w => ∃ s k, R s k w ∧ a = F s k
  | _, _, _ => False
theorem wp_pointG {c : Code} {P : Program} {Q : Exit → Act → World → Prop} {a : Act} {w : World} (F : Nat → Nat → Act) (R : Nat → Nat → World → Prop) (h : c.wp P (PtG F R) a w) (k : ∀ s k w', R s k w' → Q .normal (F s k) w') : c.wp P Q a w :=
  Code.wp_mono (fun ex a' w' h => by
    cases ex
    case normal =>
      obtain ⟨s, k', hr, rfl⟩ := h
      exact k s k' w' hr
    all_goals exact h.elim) h
def lastB (m : Nat) (op : Int) : Bool := if m = 0 then false else opZ ((m : Int) - 1) op
theorem cellB {w w' : World} {g j : Nat} (hb : Below w.heap.size w w') (hg : g < w.heap.size) : w'.cell? ⟨g, j, none⟩ = w.cell? ⟨g, j, none⟩ := cell_below hb hg j
theorem two_of {w : World} {g : Nat} {u v : Value} {t : TypeId} (h : w.heap[g]? = some (.cells #[u, v] t (0, 0))) : w.cell? ⟨g, 0, none⟩ = some u ∧ w.cell? ⟨g, 1, none⟩ = some v := by
  refine ⟨?_, ?_⟩ <;> (rw [cell_of_row _ _ _ _ t (0, 0) h]; rfl)
/-- Two new blocks of two numbers each. -/
def TwoNew (X : World) (a0 a1 m0 m1 : Nat) (s k : Nat) (W : World) : Prop :=
  W.heap[s]? = some (.cells #[.int .u64 (a0 : Nat), .int .u64 (a1 : Nat)] 24 (0, 0)) ∧ W.heap[k]? = some (.cells #[.int .u64 (m0 : Nat), .int .u64 (m1 : Nat)] 24 (0, 0)) ∧ Below X.heap.size X W

theorem two_new1 {X : World} {a0 a1 m0 m1 s k : Nat} (es : s = X.heap.size) (ek : k = X.heap.size + 1) : TwoNew X a0 a1 m0 m1 s k ((X.alloc (.cells #[.int .u64 (a0 : Nat), .int .u64 (a1 : Nat)] 24)).alloc (.cells #[.int .u64 (m0 : Nat), .int .u64 (m1 : Nat)] 24)).drew := by
  subst es ek
  refine ⟨?_, ?_, fdraw (((Below.refl _ _).alloc (Nat.le_refl _) _).alloc (by simp) _) 1⟩
  · exact (Below.heap_alloc _ _ _ (by simp)).trans (heap_alloc_new X _)
  · have := heap_alloc_new (X.alloc (.cells #[.int .u64 (a0 : Nat), .int .u64 (a1 : Nat)] 24)) (.cells #[.int .u64 (m0 : Nat), .int .u64 (m1 : Nat)] 24)
    simp only [World.size_alloc] at this
    exact this
theorem two_new2 {X : World} {a0 a1 m0 m1 s k : Nat} (ek : k = X.heap.size) (es : s = X.heap.size + 1) : TwoNew X a0 a1 m0 m1 s k ((X.alloc (.cells #[.int .u64 (m0 : Nat), .int .u64 (m1 : Nat)] 24)).alloc (.cells #[.int .u64 (a0 : Nat), .int .u64 (a1 : Nat)] 24)).drew := by
  obtain ⟨h1, h2, h3⟩ := two_new1 (X := X) (a0 := m0) (a1 := m1) (m0 := a0) (m1 := a1) ek es
  exact ⟨h2, h1, h3⟩

set_option maxRecDepth 100000 in
set_option maxHeartbeats 6400000 in
theorem forkRises_c {ch : Nat} {bl : List Nat} {t0 t1 dao : Nat} {A : Option Addr} {c : Nat} {fs : List (List Nat)} {ta : List Nat} (hl : bl.length = 14) (ht : ta.length = 20) (w : World) (hN : NamesAt w) (hf : AdsAt w A fs) (hfd : FineConf bl t1 fs) (hc : fs.length ≤ c)
    (a0 a1 m0 m1 : Nat) (_ : a0 < 18446744073709551616) (_ : a1 < 18446744073709551616) (op : Int) :
    Calls Tryd.prog 7 #[.agg (ConfL ch bl t0 t1 dao (.slice A fs.length c) ta ++ [Value.int .u64 (a0 : Nat), Value.int .u64 (a1 : Nat), Value.int .u64 (m0 : Nat), Value.int .u64 (m1 : Nat), Value.int .i64 op]).toArray] w (RetV (.bool true) w) := by
  have HN := Lib.hid hN
  have HFD0 := Lib.hid hfd
  clear hN hfd
  obtain ⟨L, hL⟩ : ∃ L, L = ConfL ch bl t0 t1 dao (.slice A fs.length c) ta := ⟨_, rfl⟩
  have hlen : L.length = 39 := by rw [hL]; exact conf_len hl ht
  rw [← hL]
  obtain ⟨X, hX⟩ : ∃ X, X = w.alloc (.cells (L ++ [Value.int .u64 (a0 : Nat), Value.int .u64 (a1 : Nat), Value.int .u64 (m0 : Nat), Value.int .u64 (m1 : Nat), Value.int .i64 op]).toArray 57) := ⟨_, rfl⟩
  have hcell : ∀ k, X.cell? ⟨w.heap.size, k, none⟩ = (L ++ [Value.int .u64 (a0 : Nat), Value.int .u64 (a1 : Nat), Value.int .u64 (m0 : Nat), Value.int .u64 (m1 : Nat), Value.int .i64 op])[k]? := fun k => by
    rw [hX, cell_of_row _ _ k _ _ (0, 0) (heap_alloc_new w _), List.getElem?_toArray]
  have c39 : X.cell? ⟨w.heap.size, 39, none⟩ = some (.int .u64 (a0 : Nat)) := by rw [hcell, List.getElem?_append_right (by omega), hlen]; rfl
  have c40 : X.cell? ⟨w.heap.size, 40, none⟩ = some (.int .u64 (a1 : Nat)) := by rw [hcell, List.getElem?_append_right (by omega), hlen]; rfl
  have c41 : X.cell? ⟨w.heap.size, 41, none⟩ = some (.int .u64 (m0 : Nat)) := by rw [hcell, List.getElem?_append_right (by omega), hlen]; rfl
  have c42 : X.cell? ⟨w.heap.size, 42, none⟩ = some (.int .u64 (m1 : Nat)) := by rw [hcell, List.getElem?_append_right (by omega), hlen]; rfl
  have c43 : X.cell? ⟨w.heap.size, 43, none⟩ = some (.int .i64 op) := by rw [hcell, List.getElem?_append_right (by omega), hlen]; rfl
  have hrange : X.rangeAt w.heap.size 0 L := fun j v hj => by
    rw [Nat.zero_add, hcell, List.getElem?_append_left (List.getElem?_eq_some_iff.1 hj).1]; exact hj
  have hbx : Below w.heap.size w X := by rw [hX]; exact (Below.refl _ _).alloc (Nat.le_refl _) _
  have hsx : w.heap.size < X.heap.size := by rw [hX]; simp
  have hfx := hf.below hbx
  have HX := Lib.hid hX
  have HR := Lib.hid hrange
  have HBX := Lib.hid hbx
  have HSX := Lib.hid hsx
  have HFX := Lib.hid hfx
  have HLEN := Lib.hid hlen
  have HLL := Lib.hid hL
  clear hX hrange hbx hsx hfx hlen hL hcell hf
  go_enter Tryd.func7, Tryd.ntmps7
  go_upto_region 1 with (fail)
  rw [← HX.out]
  obtain ⟨g1, hg1⟩ : ∃ g, g = w.heap.size := ⟨_, rfl⟩
  rw [← hg1] at c39 c40 c41 c42 c43 HR HSX ⊢
  have HG1 := Lib.hid hg1
  clear hg1
  have hsx := HSX.out
  have hne : g1 ≠ X.heap.size := by omega
  have hne2 : g1 ≠ X.heap.size + 1 := by omega
  apply wp_pointG (R := TwoNew X a0 a1 m0 m1)
  case h =>
    go_region
    all_goals go_simp
    · obtain ⟨s, es⟩ : ∃ s, s = X.heap.size := ⟨_, rfl⟩
      obtain ⟨k, ek⟩ : ∃ k, k = X.heap.size + 1 := ⟨_, rfl⟩
      rw [← ek, ← es]
      exact ⟨s, k, two_new1 es ek, rfl⟩
    · obtain ⟨k, ek⟩ : ∃ k, k = X.heap.size := ⟨_, rfl⟩
      obtain ⟨s, es⟩ : ∃ s, s = X.heap.size + 1 := ⟨_, rfl⟩
      rw [← es, ← ek]
      exact ⟨s, k, two_new2 ek es, rfl⟩
  clear hsx hne hne2
  rintro s k W1 ⟨hs, hk, hb1⟩
  have hb1' := HBX.out.trans (hb1.mono HBX.out.size)
  have hrg : W1.rangeAt g1 0 L := fun j v hj => by
    have h5 := HR.out j v hj
    unfold World.cell? at h5 ⊢
    rw [hb1.block g1 HSX.out]
    exact h5
  have hf1 := HFX.out.below hb1
  obtain ⟨us, hus⟩ : ∃ us, us = fs.take 40 := ⟨_, rfl⟩
  have HFD : Hid (FineConf bl t1 us) := ⟨fun x hx => HFD0.out.1 x (by rw [hus] at hx; exact List.mem_of_mem_take hx), HFD0.out.2⟩
  clear HFD0
  have hul : us.length ≤ 40 := by rw [hus, List.length_take]; omega
  have hut : us.take 40 = us := List.take_of_length_le hul
  have K0 : Hid (Calls Tryd.prog 8 #[.agg L.toArray] W1 fun e w' => ∃ A' c', e = .returned (.agg (ConfL ch bl t0 t1 dao (.slice A' us.length c') ta).toArray) ∧ AdsAt w' A' us ∧ us.length ≤ c' ∧ Below W1.heap.size W1 w') := by
    rw [HLL.out, hus]; exact twin13_c hl ht _ hf1 hc
  have HRG := Lib.hid hrg
  have HB1 := Lib.hid hb1'
  have HUL := Lib.hid hul
  have HUT := Lib.hid hut
  have HL := Lib.hid hl
  have HT := Lib.hid ht
  have HS1 := Lib.hid hs
  have HK1 := Lib.hid hk
  clear hb1' hrg hf1 hus hul hut hl ht hs hk hb1 hc c39 c40 c41 c42 c43
  go_upto_region 2 with (fail)
  refine wp_region_lit ?_
  refine wpList_plain rfl fun K hK => ?_; go_simp; refine hK _ _ ?_; clear hK K
  refine wpList_load_mid rfl 29 (.tmp 20) rfl g1 0 rfl L _ HRG.out Tryd.underlying29 rfl (by rw [infoConf, HLEN.out]) ?_
  go_simp
  go_wp2_with fail
  rename_i KK hKK
  (with_reducible refine K0.out.mono ?_)
  rintro e w1 ⟨A1, c1, rfl, ha1, hc1, hb1⟩
  show KK _ _
  refine hKK _ _ ?_
  clear hKK KK K0
  obtain ⟨D, hD⟩ : ∃ D, D = (ConfL ch bl t0 t1 dao (.slice A1 us.length c1) ta).toArray := ⟨_, rfl⟩
  have hdl : D.size = 39 := by rw [hD, List.size_toArray]; exact conf_len HL.out HT.out
  have hdo : D.all (·.oneCell') = true := by
    rw [hD, List.all_toArray]
    refine List.all_eq_true.2 fun u hu => ?_
    simp only [ConfL, List.mem_cons, List.mem_append, List.mem_map] at hu
    rcases hu with rfl | ⟨_, _, rfl⟩ | rfl | rfl | rfl | rfl | ⟨_, _, rfl⟩ <;> rfl
  rw [← hD]
  have HD := Lib.hid hD
  clear hD
  refine wpList_plain rfl fun K hK => ?_; go_simp; refine hK _ _ ?_; clear hK K
  have hg : (w1.alloc (.cells Conf0 29)).heap[w1.heap.size]? = some (.cells Conf0 29 (0, 0)) := heap_alloc_new w1 _
  have hb2 := hb1.alloc hb1.size (.cells Conf0 29)
  refine wpList_store_row rfl 29 (.tmp 6) (.tmp 22) rfl w1.heap.size D rfl rfl 29 Conf0 hg (by rw [infoConf, hdl]) (by rw [conf0_size, hdl]) hdo ?_
  have hg2 := setRow_heap (w1.alloc (.cells Conf0 29)) w1.heap.size _ D 29 (0, 0) hg
  have hb4 : Below W1.heap.size W1 ((w1.alloc (.cells Conf0 29)).setRow w1.heap.size D) := below_setRow hb2 hb1.size D
  have hb3 : Below w.heap.size w ((w1.alloc (.cells Conf0 29)).setRow w1.heap.size D) := HB1.out.trans (hb4.mono HB1.out.size)
  have ha3 : AdsAt ((w1.alloc (.cells Conf0 29)).setRow w1.heap.size D) A1 us := by
    have hsz : ((w1.alloc (.cells Conf0 29)).setRow w1.heap.size D).heap.size = w1.heap.size + 1 := by simp [World.setRow]
    cases A1 with
    | none => exact ha1
    | some a =>
      intro i bs hi
      obtain ⟨q1, hlt, q3, q4⟩ := ha1 i bs hi
      refine ⟨q1, by rw [hsz]; omega, q3, fun j v hj => ?_⟩
      have h5 := q4 j v hj
      unfold World.cell? at h5 ⊢
      rw [setRow_other _ _ _ _ (by show a.block ≠ _; omega), Below.heap_alloc _ _ _ hlt]
      exact h5
  have hlt : w1.heap.size < ((w1.alloc (.cells Conf0 29)).setRow w1.heap.size D).heap.size := (Array.getElem?_eq_some_iff.1 hg2).1
  have hsl : s < W1.heap.size := (Array.getElem?_eq_some_iff.1 HS1.out).1
  have hkl : k < W1.heap.size := (Array.getElem?_eq_some_iff.1 HK1.out).1
  have hs2 := (hb4.block s hsl).trans HS1.out
  have hk2 := (hb4.block k hkl).trans HK1.out
  have hlt2 : s < ((w1.alloc (.cells Conf0 29)).setRow w1.heap.size D).heap.size := Nat.lt_of_lt_of_le hsl hb4.size
  have hlt3 : k < ((w1.alloc (.cells Conf0 29)).setRow w1.heap.size D).heap.size := Nat.lt_of_lt_of_le hkl hb4.size
  show wpList _ _ _ _ _ ((w1.alloc (.cells Conf0 29)).setRow w1.heap.size D)
  generalize (w1.alloc (.cells Conf0 29)).setRow w1.heap.size D = Y at *
  obtain ⟨g6, hg6⟩ : ∃ g, g = w1.heap.size := ⟨_, rfl⟩
  rw [← hg6] at hg2 hlt ⊢
  have hun : us.length ≤ 1000 := by have := HUL.out; omega
  obtain ⟨r0, hr0⟩ : ∃ r, r = m0 % 1000 := ⟨_, rfl⟩
  obtain ⟨r1, hr1⟩ : ∃ r, r = m1 % 1000 := ⟨_, rfl⟩
  obtain ⟨n0, hn0⟩ : ∃ n, n = (a0 + r0) % 18446744073709551616 := ⟨_, rfl⟩
  obtain ⟨n1, hn1⟩ : ∃ n, n = (a1 + r1) % 18446744073709551616 := ⟨_, rfl⟩
  obtain ⟨z1, hz1⟩ : ∃ z, z = (atV bl t0 t1 us a0 a1).1 := ⟨_, rfl⟩
  obtain ⟨z2, hz2⟩ : ∃ z, z = (atV bl t0 t1 us a0 a1).2 := ⟨_, rfl⟩
  obtain ⟨y1, hy1⟩ : ∃ z, z = (atV bl t0 t1 us n0 n1).1 := ⟨_, rfl⟩
  have hy2 : z2 = (atV bl t0 t1 us n0 n1).2 := by
    rw [hz2]
    by_cases hb : BadConf bl t0 t1 us
    · rw [atV_bad hb, atV_bad hb]
    · rw [atV_good hb, atV_good hb]
  have hrise : z2 = 0 → a0 < 9223372036854775808 → a1 < 9223372036854775808 → z1 ≤ y1 := fun h0 h1 h2 => by
    by_cases hb : BadConf bl t0 t1 us
    · rw [hz2, atV_bad hb] at h0; cases h0
    · rw [hz1, hy1, atV_good hb, atV_good hb]
      have := atF_mono (bl := bl) (t0 := t0) (t1 := t1) (n := a0) (m := n0) (t := a1) (u := n1) (by omega) (by omega)
      show ((_ : Nat) : Int) ≤ ((_ : Nat) : Int)
      omega
  have KT : Hid (∀ W, Below Y.heap.size Y W → Calls Tryd.prog 8 #[.agg D] W (RetR (fun w' v => (Fact.conf ch bl t0 t1 dao us ta).holds v w') W)) := fun W hW => by
    rw [HD.out]
    refine (twin13_c HL.out HT.out W (ha3.below hW) hc1).mono fun e w' ⟨A', c', he, h1, h2, h3⟩ => ?_
    rw [HUT.out] at he h1 h2
    exact ⟨_, he, ⟨A', c', rfl, h1, h2⟩, h3⟩
  have KA : Hid (∀ W A' c', AdsAt W A' us → Calls Tryd.prog 9 #[.agg (ConfL ch bl t0 t1 dao (.slice A' us.length c') ta).toArray, .int .u64 (a0 : Nat), .int .u64 (a1 : Nat)] W (RetV (.tuple #[.int .i64 z1, .int .i64 z2]) W)) := fun W A' c' hW => by
    rw [hz1, hz2]; exact cAt HL.out HT.out W hW HFD.out hun a0 a1
  have KB : Hid (∀ W A' c', AdsAt W A' us → Calls Tryd.prog 9 #[.agg (ConfL ch bl t0 t1 dao (.slice A' us.length c') ta).toArray, .int .u64 (n0 : Nat), .int .u64 (n1 : Nat)] W (RetV (.tuple #[.int .i64 y1, .int .i64 z2]) W)) := fun W A' c' hW => by
    rw [hy1, hy2]; exact cAt HL.out HT.out W hW HFD.out hun n0 n1
  have HG6 := Lib.hid hg2
  have HLT : Hid (g6 < Y.heap.size ∧ s < Y.heap.size ∧ k < Y.heap.size) := ⟨hlt, hlt2, hlt3⟩
  have HBY := Lib.hid hb3
  have HDL := Lib.hid hdl
  have HR0 := Lib.hid hr0
  have HR1 := Lib.hid hr1
  have HN0 := Lib.hid hn0
  have HN1 := Lib.hid hn1
  have HRISE := Lib.hid hrise
  have HS : Hid (Y.cell? ⟨s, 0, none⟩ = some (.int .u64 (a0 : Nat)) ∧ Y.cell? ⟨s, 1, none⟩ = some (.int .u64 (a1 : Nat))) := ⟨(two_of hs2).1, (two_of hs2).2⟩
  have HK : Hid (Y.cell? ⟨k, 0, none⟩ = some (.int .u64 (m0 : Nat)) ∧ Y.cell? ⟨k, 1, none⟩ = some (.int .u64 (m1 : Nat))) := ⟨(two_of hk2).1, (two_of hk2).2⟩
  clear HD hdo hg hb2 hg2 hb3 ha3 hlt hg6 hz1 hz2 hy1 hy2 hun hdl ha1 hc1 hb1 hb4 hsl hkl hs2 hk2 hlt2 hlt3 hr0 hr1 hn0 hn1 hrise HUL HUT HL HT HS1 HK1 HRG HB1 HLEN HLL HX HR HBX HSX HFX HG1
  refine wpList_nil ?_
  go_simp
  go_upto_region 3 with (fail)
  have HBZ : Hid (Below Y.heap.size Y Y) := Below.refl _ _
  refine wp_region_see 12 [24, 25, 26, 27, 28, 29, 30, 23, 31, 32, 7, 8] [(24, .is (.agg D)), (25, Fact.conf ch bl t0 t1 dao us ta), (26, .is (.pointer (some ⟨s, 0, none⟩))), (27, .is (.int .u64 (a0 : Nat))), (28, .is (.pointer (some ⟨s, 1, none⟩))), (29, .is (.int .u64 (a1 : Nat))), (30, .is (.tuple #[.int .i64 z1, .int .i64 z2])), (23, .is (.tuple #[.int .i64 z1, .int .i64 z2])), (31, .is (.int .i64 z1)), (32, .is (.int .i64 z2)), (7, .is (.int .i64 z1)), (8, .is (.int .i64 z2))] (by kernel_rfl) (by kernel_rfl) (by rfl) ?_ ?_
  · refine seeOps_cons ?_ (seeOps_cons ?_ (seeOps_cons ?_ (seeOps_cons ?_ (seeOps_cons ?_ (seeOps_cons ?_ (seeOps_cons ?_ (seeOps_cons ?_ (seeOps_cons ?_ (seeOps_cons ?_ (seeOps_cons ?_ (seeOps_cons ?_ seeOps_nil)))))))))))
    · intro w9 hb9 fr hout hin
      have h6 : fr.tmps.getD 6 undef = .pointer (some ⟨g6, 0, none⟩) := hout 6 (by decide)
      clear hout hin
      exact op_loadAt (.tmp 6) rfl h6 (load_conf (((HBZ.out.trans (hb9.mono HBZ.out.size)).block g6 HLT.out.1).trans HG6.out) HDL.out) (wanted_none rfl) rfl
    · intro w9 hb9 fr hout hin
      have h24 : fr.tmps.getD 24 undef = .agg D := hin 24 (by decide) (by decide)
      clear hout hin
      exact op_call1 (.tmp 24) rfl en_twin13 (wanted_none rfl) (by rw [show fr.eval (.tmp 24) = _ from h24]; exact KT.out w9 (HBZ.out.trans (hb9.mono HBZ.out.size))) (fun _ _ h => h)
    · intro w9 hb9 fr hout hin
      have h3 : fr.tmps.getD 3 undef = .pointer (some ⟨s, 0, none⟩) := hout 3 (by decide)
      clear hout hin
      exact op_idx0 (.tmp 3) rfl h3 (wanted_none rfl) rfl
    · intro w9 hb9 fr hout hin
      have h26 : fr.tmps.getD 26 undef = .pointer (some ⟨s, 0, none⟩) := hin 26 (by decide) (by decide)
      clear hout hin
      exact op_ldU (.tmp 26) rfl h26 ((cellB (HBZ.out.trans (hb9.mono HBZ.out.size)) HLT.out.2.1).trans HS.out.1) (wanted_none rfl) rfl
    · intro w9 hb9 fr hout hin
      have h3 : fr.tmps.getD 3 undef = .pointer (some ⟨s, 0, none⟩) := hout 3 (by decide)
      clear hout hin
      exact op_idx1 (.tmp 3) rfl h3 (wanted_none rfl) rfl
    · intro w9 hb9 fr hout hin
      have h28 : fr.tmps.getD 28 undef = .pointer (some ⟨s, 1, none⟩) := hin 28 (by decide) (by decide)
      clear hout hin
      exact op_ldU (.tmp 28) rfl h28 ((cellB (HBZ.out.trans (hb9.mono HBZ.out.size)) HLT.out.2.1).trans HS.out.2) (wanted_none rfl) rfl
    · intro w9 hb9 fr hout hin
      have h25 : (Fact.conf ch bl t0 t1 dao us ta).holds (fr.tmps.getD 25 undef) w9 := hin 25 (by decide) (by decide)
      have h27 : fr.tmps.getD 27 undef = .int .u64 (a0 : Nat) := hin 27 (by decide) (by decide)
      have h29 : fr.tmps.getD 29 undef = .int .u64 (a1 : Nat) := hin 29 (by decide) (by decide)
      clear hout hin
      exact op_call3 (.tmp 25) (.tmp 27) (.tmp 29) rfl en_fkAt (wanted_none rfl) (by obtain ⟨A9, c9, e9, ha9, -⟩ := h25; rw [show fr.eval (.tmp 25) = _ from e9, show fr.eval (.tmp 27) = _ from h27, show fr.eval (.tmp 29) = _ from h29]; exact (KA.out w9 A9 c9 ha9).mono fun _ _ h => RetV.ret h) (fun _ _ h => h)
    · intro w9 hb9 fr hout hin
      have h30 : fr.tmps.getD 30 undef = .tuple #[.int .i64 z1, .int .i64 z2] := hin 30 (by decide) (by decide)
      clear hout hin
      exact relStep_move (.tmp 30) rfl (wanted_none rfl) (by show fr.tmps.getD 30 undef = _; rw [h30])
    · intro w9 hb9 fr hout hin
      have h23 : fr.tmps.getD 23 undef = .tuple #[.int .i64 z1, .int .i64 z2] := hin 23 (by decide) (by decide)
      clear hout hin
      exact op_ext0 (.tmp 23) rfl h23 (wanted_none rfl) rfl
    · intro w9 hb9 fr hout hin
      have h23 : fr.tmps.getD 23 undef = .tuple #[.int .i64 z1, .int .i64 z2] := hin 23 (by decide) (by decide)
      clear hout hin
      exact op_ext1 (.tmp 23) rfl h23 (wanted_none rfl) rfl
    · intro w9 hb9 fr hout hin
      have h31 : fr.tmps.getD 31 undef = .int .i64 z1 := hin 31 (by decide) (by decide)
      clear hout hin
      exact relStep_assign (.tmp 31) rfl (wanted_none rfl) (by show fr.tmps.getD 31 undef = _; rw [h31])
    · intro w9 hb9 fr hout hin
      have h32 : fr.tmps.getD 32 undef = .int .i64 z2 := hin 32 (by decide) (by decide)
      clear hout hin
      exact relStep_assign (.tmp 32) rfl (wanted_none rfl) (by show fr.tmps.getD 32 undef = _; rw [h32])
  intro X3 hb9
  refine relAsk_in (by rfl) ?_
  intro v24 h24
  obtain rfl : v24 = .agg D := h24
  refine relAsk_in (by rfl) ?_
  intro v25 h25
  refine relAsk_in (by rfl) ?_
  intro v26 h26
  obtain rfl : v26 = .pointer (some ⟨s, 0, none⟩) := h26
  refine relAsk_in (by rfl) ?_
  intro v27 h27
  obtain rfl : v27 = .int .u64 (a0 : Nat) := h27
  refine relAsk_in (by rfl) ?_
  intro v28 h28
  obtain rfl : v28 = .pointer (some ⟨s, 1, none⟩) := h28
  refine relAsk_in (by rfl) ?_
  intro v29 h29
  obtain rfl : v29 = .int .u64 (a1 : Nat) := h29
  refine relAsk_in (by rfl) ?_
  intro v30 h30
  obtain rfl : v30 = .tuple #[.int .i64 z1, .int .i64 z2] := h30
  refine relAsk_in (by rfl) ?_
  intro v23 h23
  obtain rfl : v23 = .tuple #[.int .i64 z1, .int .i64 z2] := h23
  refine relAsk_in (by rfl) ?_
  intro v31 h31
  obtain rfl : v31 = .int .i64 z1 := h31
  refine relAsk_in (by rfl) ?_
  intro v32 h32
  obtain rfl : v32 = .int .i64 z2 := h32
  refine relAsk_in (by rfl) ?_
  intro v7 h7
  obtain rfl : v7 = .int .i64 z1 := h7
  refine relAsk_in (by rfl) ?_
  intro v8 h8
  obtain rfl : v8 = .int .i64 z2 := h8
  refine relAsk_nil ?_
  refine wpList_nil ?_
  clear h25
  go_simp
  have HBZ := Lib.hid (HBZ.out.trans (hb9.mono HBZ.out.size))
  clear hb9
  go_upto_region 4 with (fail)
  refine wp_region_see 20 [34, 35, 36, 37, 38, 39, 40, 41, 42, 43, 44, 45, 46, 47, 48, 33, 49, 50, 9, 10] [(34, .is (.agg D)), (35, Fact.conf ch bl t0 t1 dao us ta), (36, .is (.pointer (some ⟨s, 0, none⟩))), (37, .is (.int .u64 (a0 : Nat))), (38, .is (.pointer (some ⟨k, 0, none⟩))), (39, .is (.int .u64 (m0 : Nat))), (40, .is (.int .u64 (r0 : Nat))), (41, .is (.int .u64 (n0 : Nat))), (42, .is (.pointer (some ⟨s, 1, none⟩))), (43, .is (.int .u64 (a1 : Nat))), (44, .is (.pointer (some ⟨k, 1, none⟩))), (45, .is (.int .u64 (m1 : Nat))), (46, .is (.int .u64 (r1 : Nat))), (47, .is (.int .u64 (n1 : Nat))), (48, .is (.tuple #[.int .i64 y1, .int .i64 z2])), (33, .is (.tuple #[.int .i64 y1, .int .i64 z2])), (49, .is (.int .i64 y1)), (50, .is (.int .i64 z2)), (9, .is (.int .i64 y1)), (10, .is (.int .i64 z2))] (by kernel_rfl) (by kernel_rfl) (by rfl) ?_ ?_
  · refine seeOps_cons ?_ (seeOps_cons ?_ (seeOps_cons ?_ (seeOps_cons ?_ (seeOps_cons ?_ (seeOps_cons ?_ (seeOps_cons ?_ (seeOps_cons ?_ (seeOps_cons ?_ (seeOps_cons ?_ (seeOps_cons ?_ (seeOps_cons ?_ (seeOps_cons ?_ (seeOps_cons ?_ (seeOps_cons ?_ (seeOps_cons ?_ (seeOps_cons ?_ (seeOps_cons ?_ (seeOps_cons ?_ (seeOps_cons ?_ seeOps_nil)))))))))))))))))))
    · intro w9 hb9 fr hout hin
      have h6 : fr.tmps.getD 6 undef = .pointer (some ⟨g6, 0, none⟩) := hout 6 (by decide)
      clear hout hin
      exact op_loadAt (.tmp 6) rfl h6 (load_conf (((HBZ.out.trans (hb9.mono HBZ.out.size)).block g6 HLT.out.1).trans HG6.out) HDL.out) (wanted_none rfl) rfl
    · intro w9 hb9 fr hout hin
      have h34 : fr.tmps.getD 34 undef = .agg D := hin 34 (by decide) (by decide)
      clear hout hin
      exact op_call1 (.tmp 34) rfl en_twin13 (wanted_none rfl) (by rw [show fr.eval (.tmp 34) = _ from h34]; exact KT.out w9 (HBZ.out.trans (hb9.mono HBZ.out.size))) (fun _ _ h => h)
    · intro w9 hb9 fr hout hin
      have h3 : fr.tmps.getD 3 undef = .pointer (some ⟨s, 0, none⟩) := hout 3 (by decide)
      clear hout hin
      exact op_idx0 (.tmp 3) rfl h3 (wanted_none rfl) rfl
    · intro w9 hb9 fr hout hin
      have h36 : fr.tmps.getD 36 undef = .pointer (some ⟨s, 0, none⟩) := hin 36 (by decide) (by decide)
      clear hout hin
      exact op_ldU (.tmp 36) rfl h36 ((cellB (HBZ.out.trans (hb9.mono HBZ.out.size)) HLT.out.2.1).trans HS.out.1) (wanted_none rfl) rfl
    · intro w9 hb9 fr hout hin
      have h4 : fr.tmps.getD 4 undef = .pointer (some ⟨k, 0, none⟩) := hout 4 (by decide)
      clear hout hin
      exact op_idx0 (.tmp 4) rfl h4 (wanted_none rfl) rfl
    · intro w9 hb9 fr hout hin
      have h38 : fr.tmps.getD 38 undef = .pointer (some ⟨k, 0, none⟩) := hin 38 (by decide) (by decide)
      clear hout hin
      exact op_ldU (.tmp 38) rfl h38 ((cellB (HBZ.out.trans (hb9.mono HBZ.out.size)) HLT.out.2.2).trans HK.out.1) (wanted_none rfl) rfl
    · intro w9 hb9 fr hout hin
      have h39 : fr.tmps.getD 39 undef = .int .u64 (m0 : Nat) := hin 39 (by decide) (by decide)
      clear hout hin
      exact op_rem1000 (.tmp 39) _ HR0.out rfl h39 (wanted_none rfl) rfl
    · intro w9 hb9 fr hout hin
      have h37 : fr.tmps.getD 37 undef = .int .u64 (a0 : Nat) := hin 37 (by decide) (by decide)
      have h40 : fr.tmps.getD 40 undef = .int .u64 (r0 : Nat) := hin 40 (by decide) (by decide)
      clear hout hin
      exact op_addU (.tmp 37) (.tmp 40) _ HN0.out rfl h37 h40 (wanted_none rfl) rfl
    · intro w9 hb9 fr hout hin
      have h3 : fr.tmps.getD 3 undef = .pointer (some ⟨s, 0, none⟩) := hout 3 (by decide)
      clear hout hin
      exact op_idx1 (.tmp 3) rfl h3 (wanted_none rfl) rfl
    · intro w9 hb9 fr hout hin
      have h42 : fr.tmps.getD 42 undef = .pointer (some ⟨s, 1, none⟩) := hin 42 (by decide) (by decide)
      clear hout hin
      exact op_ldU (.tmp 42) rfl h42 ((cellB (HBZ.out.trans (hb9.mono HBZ.out.size)) HLT.out.2.1).trans HS.out.2) (wanted_none rfl) rfl
    · intro w9 hb9 fr hout hin
      have h4 : fr.tmps.getD 4 undef = .pointer (some ⟨k, 0, none⟩) := hout 4 (by decide)
      clear hout hin
      exact op_idx1 (.tmp 4) rfl h4 (wanted_none rfl) rfl
    · intro w9 hb9 fr hout hin
      have h44 : fr.tmps.getD 44 undef = .pointer (some ⟨k, 1, none⟩) := hin 44 (by decide) (by decide)
      clear hout hin
      exact op_ldU (.tmp 44) rfl h44 ((cellB (HBZ.out.trans (hb9.mono HBZ.out.size)) HLT.out.2.2).trans HK.out.2) (wanted_none rfl) rfl
    · intro w9 hb9 fr hout hin
      have h45 : fr.tmps.getD 45 undef = .int .u64 (m1 : Nat) := hin 45 (by decide) (by decide)
      clear hout hin
      exact op_rem1000 (.tmp 45) _ HR1.out rfl h45 (wanted_none rfl) rfl
    · intro w9 hb9 fr hout hin
      have h43 : fr.tmps.getD 43 undef = .int .u64 (a1 : Nat) := hin 43 (by decide) (by decide)
      have h46 : fr.tmps.getD 46 undef = .int .u64 (r1 : Nat) := hin 46 (by decide) (by decide)
      clear hout hin
      exact op_addU (.tmp 43) (.tmp 46) _ HN1.out rfl h43 h46 (wanted_none rfl) rfl
    · intro w9 hb9 fr hout hin
      have h35 : (Fact.conf ch bl t0 t1 dao us ta).holds (fr.tmps.getD 35 undef) w9 := hin 35 (by decide) (by decide)
      have h41 : fr.tmps.getD 41 undef = .int .u64 (n0 : Nat) := hin 41 (by decide) (by decide)
      have h47 : fr.tmps.getD 47 undef = .int .u64 (n1 : Nat) := hin 47 (by decide) (by decide)
      clear hout hin
      exact op_call3 (.tmp 35) (.tmp 41) (.tmp 47) rfl en_fkAt (wanted_none rfl) (by obtain ⟨A9, c9, e9, ha9, -⟩ := h35; rw [show fr.eval (.tmp 35) = _ from e9, show fr.eval (.tmp 41) = _ from h41, show fr.eval (.tmp 47) = _ from h47]; exact (KB.out w9 A9 c9 ha9).mono fun _ _ h => RetV.ret h) (fun _ _ h => h)
    · intro w9 hb9 fr hout hin
      have h48 : fr.tmps.getD 48 undef = .tuple #[.int .i64 y1, .int .i64 z2] := hin 48 (by decide) (by decide)
      clear hout hin
      exact relStep_move (.tmp 48) rfl (wanted_none rfl) (by show fr.tmps.getD 48 undef = _; rw [h48])
    · intro w9 hb9 fr hout hin
      have h33 : fr.tmps.getD 33 undef = .tuple #[.int .i64 y1, .int .i64 z2] := hin 33 (by decide) (by decide)
      clear hout hin
      exact op_ext0 (.tmp 33) rfl h33 (wanted_none rfl) rfl
    · intro w9 hb9 fr hout hin
      have h33 : fr.tmps.getD 33 undef = .tuple #[.int .i64 y1, .int .i64 z2] := hin 33 (by decide) (by decide)
      clear hout hin
      exact op_ext1 (.tmp 33) rfl h33 (wanted_none rfl) rfl
    · intro w9 hb9 fr hout hin
      have h49 : fr.tmps.getD 49 undef = .int .i64 y1 := hin 49 (by decide) (by decide)
      clear hout hin
      exact relStep_assign (.tmp 49) rfl (wanted_none rfl) (by show fr.tmps.getD 49 undef = _; rw [h49])
    · intro w9 hb9 fr hout hin
      have h50 : fr.tmps.getD 50 undef = .int .i64 z2 := hin 50 (by decide) (by decide)
      clear hout hin
      exact relStep_assign (.tmp 50) rfl (wanted_none rfl) (by show fr.tmps.getD 50 undef = _; rw [h50])
  intro X4 hb9
  refine relAsk_in (by rfl) ?_
  intro v34 h34
  obtain rfl : v34 = .agg D := h34
  refine relAsk_in (by rfl) ?_
  intro v35 h35
  refine relAsk_in (by rfl) ?_
  intro v36 h36
  obtain rfl : v36 = .pointer (some ⟨s, 0, none⟩) := h36
  refine relAsk_in (by rfl) ?_
  intro v37 h37
  obtain rfl : v37 = .int .u64 (a0 : Nat) := h37
  refine relAsk_in (by rfl) ?_
  intro v38 h38
  obtain rfl : v38 = .pointer (some ⟨k, 0, none⟩) := h38
  refine relAsk_in (by rfl) ?_
  intro v39 h39
  obtain rfl : v39 = .int .u64 (m0 : Nat) := h39
  refine relAsk_in (by rfl) ?_
  intro v40 h40
  obtain rfl : v40 = .int .u64 (r0 : Nat) := h40
  refine relAsk_in (by rfl) ?_
  intro v41 h41
  obtain rfl : v41 = .int .u64 (n0 : Nat) := h41
  refine relAsk_in (by rfl) ?_
  intro v42 h42
  obtain rfl : v42 = .pointer (some ⟨s, 1, none⟩) := h42
  refine relAsk_in (by rfl) ?_
  intro v43 h43
  obtain rfl : v43 = .int .u64 (a1 : Nat) := h43
  refine relAsk_in (by rfl) ?_
  intro v44 h44
  obtain rfl : v44 = .pointer (some ⟨k, 1, none⟩) := h44
  refine relAsk_in (by rfl) ?_
  intro v45 h45
  obtain rfl : v45 = .int .u64 (m1 : Nat) := h45
  refine relAsk_in (by rfl) ?_
  intro v46 h46
  obtain rfl : v46 = .int .u64 (r1 : Nat) := h46
  refine relAsk_in (by rfl) ?_
  intro v47 h47
  obtain rfl : v47 = .int .u64 (n1 : Nat) := h47
  refine relAsk_in (by rfl) ?_
  intro v48 h48
  obtain rfl : v48 = .tuple #[.int .i64 y1, .int .i64 z2] := h48
  refine relAsk_in (by rfl) ?_
  intro v33 h33
  obtain rfl : v33 = .tuple #[.int .i64 y1, .int .i64 z2] := h33
  refine relAsk_in (by rfl) ?_
  intro v49 h49
  obtain rfl : v49 = .int .i64 y1 := h49
  refine relAsk_in (by rfl) ?_
  intro v50 h50
  obtain rfl : v50 = .int .i64 z2 := h50
  refine relAsk_in (by rfl) ?_
  intro v9 h9
  obtain rfl : v9 = .int .i64 y1 := h9
  refine relAsk_in (by rfl) ?_
  intro v10 h10
  obtain rfl : v10 = .int .i64 z2 := h10
  refine relAsk_nil ?_
  refine wpList_nil ?_
  clear h35
  go_simp
  have HBZ := Lib.hid (HBZ.out.trans (hb9.mono HBZ.out.size))
  clear hb9
  have hneq : (z2 != z2) = false := by simp
  have cs0 := (cellB HBZ.out HLT.out.2.1).trans HS.out.1
  have cs1 := (cellB HBZ.out HLT.out.2.1).trans HS.out.2
  have hw := HBY.out.trans (HBZ.out.mono HBY.out.size)
  have HW := Lib.hid hw
  clear hw HBZ HBY HG6 HLT HS HK KT KA KB HR0 HR1 HN0 HN1 HDL
  rcases (show (z2 ≠ 0) ∨ (z2 = 0 ∧ 9223372036854775808 ≤ a0) ∨ (z2 = 0 ∧ a0 < 9223372036854775808 ∧ 9223372036854775808 ≤ a1) ∨ (z2 = 0 ∧ a0 < 9223372036854775808 ∧ a1 < 9223372036854775808) by omega) with q | ⟨q0, q1⟩ | ⟨q0, q1, q2⟩ | ⟨q0, q1, q2⟩
  case' inl =>
    have q3 : (z2 == 0) = false := beq_eq_false_iff_ne.2 q
  case' inr.inl =>
    subst q0
    have q3 : ¬ (a0 : Int) < 9223372036854775808 := by omega
  case' inr.inr.inl =>
    subst q0
    have q3 : (a0 : Int) < 9223372036854775808 := by omega
    have q4 : ¬ (a1 : Int) < 9223372036854775808 := by omega
  case' inr.inr.inr =>
    have q5 := HRISE.out q0 q1 q2
    subst q0
    have q3 : (a0 : Int) < 9223372036854775808 := by omega
    have q4 : (a1 : Int) < 9223372036854775808 := by omega
    have q6 : ¬ y1 < z1 := by omega
  all_goals
    clear HRISE
    go_wp2_with fail
    (try clear q6)
    (try clear q5)
    (try clear q4)
    (try clear q3)
    (try clear q2)
    (try clear q1)
    (try clear q)
    clear cs0 cs1
    go_loopw [11, 12, 13] (fun l b _ wr => ∃ (m : Nat), b = .int .i64 (m : Int) ∧ m ≤ 16 ∧ l = .bool (lastB m op) ∧ Hid (Below w.heap.size w wr))
      (fun _ b _ _ => 16 - (intOf b).toNat)
    case atStart => exact ⟨0, rfl, by omega, rfl, HW.out⟩
    case round =>
      clear HW
      obtain ⟨m, rfl, hm, rfl, HW⟩ := hrel
      obtain ⟨lb, hlb⟩ : ∃ b, b = lastB m op := ⟨_, rfl⟩
      rw [← hlb]
      have HLB := Lib.hid hlb
      clear hlb
      by_cases h0 : m < 16
      · have C1 := Lib.hid (cOp (m : Int) op wr)
        have hnext : lastB (m + 1) op = opZ (m : Int) op := by unfold lastB; rw [if_neg (by omega)]; congr 1; omega
        have hlm : lastB m op = true → opZ (m : Int) op = true := fun h => by
          unfold lastB at h
          by_cases e : m = 0
          · rw [if_pos e] at h; cases h
          · rw [if_neg e] at h; exact opZ_mono (by omega) (by omega) h
        have HNX := Lib.hid hnext
        have HLM := Lib.hid hlm
        clear hnext hlm
        go_wp2_with fail
        (with_reducible refine C1.out.mono ?_)
        rintro e w5 ⟨rfl, hb5⟩
        have HW5 := Lib.hid (HW.out.trans (hb5.mono HW.out.size))
        clear C1 hb5
        cases hb : opZ (m : Int) op with
        | true =>
          have HN2 : Hid (lastB (m + 1) op = true) := HNX.out.trans hb
          clear hb HNX HLM HLB
          cases lb
          all_goals
            go_wp2_with fail
            go_roundw
            case rel => exact ⟨m + 1, by go_num, by omega, by rw [HN2.out], HW5.out⟩
            case measure => simp [intOf]; omega
        | false =>
          have hl : lastB m op = false := by
            cases hl : lastB m op with
            | false => rfl
            | true => have := HLM.out hl; rw [hb] at this; cases this
          have HN2 : Hid (lastB (m + 1) op = false) := HNX.out.trans hb
          have hlb : lb = false := HLB.out.trans hl
          subst hlb
          clear hb HNX HLM hl HLB
          go_wp2_with fail
          go_roundw
          case rel => exact ⟨m + 1, by go_num, by omega, by rw [HN2.out], HW5.out⟩
          case measure => simp [intOf]; omega
      · have K16 : Hid (Calls Tryd.prog 18 #[.int .i64 16, .int .i64 op] wr (RetV (.bool false) wr)) := by rw [← (opZ_far op).1]; exact cOp 16 op wr
        have KM1 : Hid (∀ W, Calls Tryd.prog 18 #[.int .i64 (-1), .int .i64 op] W (RetV (.bool false) W)) := fun W => by rw [← (opZ_far op).2]; exact cOp (-1) op W
        go_wp2_with fail
        (with_reducible refine K16.out.mono ?_)
        rintro e w5 ⟨rfl, hb5⟩
        have HW5 := Lib.hid (HW.out.trans (hb5.mono HW.out.size))
        clear hb5 K16 HW
        go_wp2_with fail
        (with_reducible refine (KM1.out _).mono ?_)
        rintro e w6 ⟨rfl, hb6⟩
        have HW6 := Lib.hid (HW5.out.trans (hb6.mono HW5.out.size))
        clear hb6 KM1 HW5
        go_wp2_with fail
        (with_reducible refine (fkwakes_c _ (HN.out.below HW6.out)).mono ?_)
        rintro e w7 ⟨rfl, hb7⟩
        have HW7 := Lib.hid (HW6.out.trans (hb7.mono HW6.out.size))
        clear hb7 HW6
        go_wp2_with fail
        go_ret
        exact ⟨rfl, HW7.out⟩
end Go.Proofs.YtijoafmbmplgcaaDoor
