/- Package fork: Check, At. -/
import Derived.Test.YtijoafmbmplgcaaDoorFoTwice
namespace Go.Proofs.YtijoafmbmplgcaaDoor
open Go.RowKit

theorem ConfAt.blocks {w : World} {g : Nat} {bl : List Nat} {t0 t1 : Nat} {fv : Value} (h : ConfAt w g bl t0 t1 fv) (hl : bl.length = 14) : U64At w g 1 bl := ⟨h.lt, fun j hj => h.bl j (by omega)⟩
theorem ConfAt.times {w : World} {g : Nat} {bl : List Nat} {t0 t1 : Nat} {fv : Value} (h : ConfAt w g bl t0 t1 fv) : U64At w g 15 [t0, t1] := ⟨h.lt, fun j hj => by
  match j, hj with
  | 0, _ => exact h.t0
  | 1, _ => exact h.t1⟩
theorem rising_two {t0 t1 : Nat} : Rising [t0, t1] ↔ t0 ≤ t1 := by
  constructor
  · intro h
    exact h 1 (by omega) (by simp)
  · intro h i h1 h2
    have : i = 1 := by simp at h2; omega
    subst this
    exact h
theorem bad_iff {bl : List Nat} {t0 t1 : Nat} {fs : List (List Nat)} (hl : bl.length = 14) : BadConf bl t0 t1 fs ↔ bl.getD 0 0 ≠ 0 ∨ ¬ Rising bl ∨ ¬ Rising [t0, t1] ∨ Twice fs := by
  rw [rising_two]
  unfold BadConf Rising Twice
  constructor
  · rintro (h | h | ⟨i, h1, h2, h3⟩ | h)
    · exact .inl h
    · exact .inr (.inr (.inl (by omega)))
    · exact .inr (.inl fun h => by have := h i h1 (by omega); omega)
    · exact .inr (.inr (.inr h))
  · rintro (h | h | h | h)
    · exact .inl h
    · refine .inr (.inr (.inl ?_))
      refine Classical.byContradiction fun hn => h fun i h1 h2 => ?_
      refine Nat.le_of_not_lt fun h3 => hn ⟨i, h1, by omega, h3⟩
    · exact .inr (.inl (by omega))
    · exact .inr (.inr (.inr h))

set_option maxRecDepth 100000 in
set_option maxHeartbeats 6400000 in
theorem focheck_c {ch : Nat} {bl : List Nat} {t0 t1 dao : Nat} {A : Option Addr} {c : Nat} {fs : List (List Nat)} {ta : List Nat} (hl : bl.length = 14) (w : World) (hf : AdsAt w A fs) (hd : ∀ x ∈ fs, x.length = 20 ∧ Ds 256 x) (hn : fs.length ≤ 1000) :
    Calls Tryd.prog 11 #[.agg (ConfL ch bl t0 t1 dao (.slice A fs.length c) ta).toArray] w (RetV (.int .i64 (checkZ bl t0 t1 fs)) w) := by
  have hcf : ConfAt (w.alloc (.cells (ConfL ch bl t0 t1 dao (.slice A fs.length c) ta).toArray 29)) w.heap.size bl t0 t1 (.slice A fs.length c) := conf_box w _ hl
  have hbe : Below w.heap.size w (w.alloc (.cells (ConfL ch bl t0 t1 dao (.slice A fs.length c) ta).toArray 29)) := (Below.refl _ _).alloc (Nat.le_refl _) _
  have hfs := hf.below hbe
  generalize ConfL ch bl t0 t1 dao (.slice A fs.length c) ta = L at *
  obtain ⟨z, hz⟩ : ∃ z, z = checkZ bl t0 t1 fs := ⟨_, rfl⟩
  rw [← hz]
  have HZ := Lib.hid hz
  have HIFF := Lib.hid (bad_iff (t0 := t0) (t1 := t1) (fs := fs) hl)
  have HL := Lib.hid hl
  have HC := Lib.hid hcf
  have HBE := Lib.hid hbe
  have HF := Lib.hid hfs
  have HD := Lib.hid hd
  have HN := Lib.hid hn
  clear hz hf hl hcf hbe hfs hd hn
  go_enter Tryd.func11, Tryd.ntmps11
  go_upto_region 1 with (fail)
  generalize w.alloc (.cells L.toArray 29) = W at *
  have c0 := HC.out.bl 0 (by omega)
  rw [Nat.add_zero] at c0
  obtain ⟨b0, hb0⟩ : ∃ b0, b0 = bl.getD 0 0 := ⟨_, rfl⟩
  rw [← hb0] at c0
  have HB0 := Lib.hid hb0
  clear hb0
  by_cases k0 : b0 = 0
  · subst k0
    have S1 := Lib.hid (sorted_c bl w.heap.size 1 14 14 HL.out (by omega) (by omega) W (HC.out.blocks HL.out))
    go_wp2_with fail
    (with_reducible refine S1.out.mono ?_)
    rintro e w1 ⟨b1, rfl, hb1, hbel1⟩
    have HC1 := Lib.hid (HC.out.below hbel1)
    have HF1 := Lib.hid (HF.out.below hbel1)
    have HB1 := Lib.hid (HBE.out.trans (hbel1.mono HBE.out.size))
    have H1 := Lib.hid hb1
    clear S1 HC HF HBE hbel1 hb1 c0
    cases b1 with
    | false =>
      have e : z = 10 := by rw [HZ.out]; exact checkZ_bad (HIFF.out.2 (.inr (.inl fun h => by have := H1.out.2 h; simp at this)))
      subst e
      go_wp2_with fail
      go_ret
      exact ⟨rfl, HB1.out⟩
    | true =>
      have S2 := Lib.hid (sorted_c [t0, t1] w.heap.size 15 2 2 rfl (by omega) (by omega) w1 HC1.out.times)
      go_wp2_with fail
      (with_reducible refine S2.out.mono ?_)
      rintro e w2 ⟨b2, rfl, hb2, hbel2⟩
      have HC2 := Lib.hid (HC1.out.below hbel2)
      have HF2 := Lib.hid (HF1.out.below hbel2)
      have HB2 := Lib.hid (HB1.out.trans (hbel2.mono HB1.out.size))
      have H2 := Lib.hid hb2
      clear S2 HC1 HF1 HB1 hbel2 hb2
      cases b2 with
      | false =>
        have e : z = 10 := by rw [HZ.out]; exact checkZ_bad (HIFF.out.2 (.inr (.inr (.inl fun h => by have := H2.out.2 h; simp at this))))
        subst e
        go_wp2_with fail
        go_ret
        exact ⟨rfl, HB2.out⟩
      | true =>
        have cf := HC2.out.fv
        obtain ⟨n, hnn⟩ : ∃ n, n = fs.length := ⟨_, rfl⟩
        have S3 := Lib.hid (twice_c (c := c) w2 HF2.out HD.out HN.out)
        rw [← hnn] at S3 cf
        clear hnn
        go_wp2_with fail
        (with_reducible refine S3.out.mono ?_)
        rintro e w3 ⟨b3, rfl, hb3, hbel3⟩
        have HB3 := Lib.hid (HB2.out.trans (hbel3.mono HB2.out.size))
        have H3 := Lib.hid hb3
        clear S3 HC2 HF2 HB2 hbel3 hb3 cf
        cases b3 with
        | true =>
          have e : z = 10 := by rw [HZ.out]; exact checkZ_bad (HIFF.out.2 (.inr (.inr (.inr (H3.out.1 rfl)))))
          subst e
          go_wp2_with fail
          go_ret
          exact ⟨rfl, HB3.out⟩
        | false =>
          have e : z = 0 := by
            rw [HZ.out]
            refine checkZ_good fun h => ?_
            rcases HIFF.out.1 h with h | h | h | h
            · exact h HB0.out.symm
            · exact h (H1.out.1 trivial)
            · exact h (H2.out.1 trivial)
            · have := H3.out.2 h; simp at this
          subst e
          go_wp2_with fail
          go_ret
          exact ⟨rfl, HB3.out⟩
  · have k2 : ((b0 : Int) != 0) = true := by simp; omega
    have e : z = 10 := by rw [HZ.out]; exact checkZ_bad (.inl (by rw [← HB0.out]; exact k0))
    subst e
    go_wp2_with fail
    go_ret
    exact ⟨rfl, HBE.out⟩

/-- In a plan the forks that have come are the first ones. -/
theorem begun_last {bl : List Nat} {num : Nat} (hr : Rising bl) (h0 : bl.getD 0 0 = 0) (hb : ∀ j, bl.getD j 0 < 18446744073709551616) : ∀ m, 1 ≤ m → m ≤ bl.length → begunN bl num m = lastCome bl num m + 1 := by
  have hle : ∀ j, j < bl.length → ∀ i, i ≤ j → bl.getD i 0 ≤ bl.getD j 0 := by
    intro j
    induction j with
    | zero => intro _ i hi; rw [Nat.le_zero.1 hi]; exact Nat.le_refl _
    | succ j ih =>
      intro hj i hi
      rcases Nat.lt_or_ge i (j + 1) with h | h
      · exact Nat.le_trans (ih (by omega) i (by omega)) (hr (j + 1) (by omega) hj)
      · rw [Nat.le_antisymm hi h]; exact Nat.le_refl _
  have hall : ∀ m, m < bl.length → comeB (bl.getD m 0) num = true → begunN bl num m = m := by
    intro m hm hc
    have hc2 := of_decide_eq_true hc
    have key : ∀ k, k ≤ m → begunN bl num k = k := by
      intro k
      induction k with
      | zero => intro _; rfl
      | succ k ih =>
        intro hk
        have h1 := hle m hm k (by omega)
        have hck : comeB (bl.getD k 0) num = true := decide_eq_true ⟨by
          intro e
          rw [e] at h1
          have h3 := hb m
          exact hc2.1 (by omega), Nat.le_trans h1 hc2.2⟩
        unfold begunN
        rw [ih (by omega), if_pos hck]
    exact key m (Nat.le_refl _)
  intro m
  induction m with
  | zero => intro h; omega
  | succ m ih =>
    intro _ hm
    unfold begunN lastCome
    by_cases hc : comeB (bl.getD m 0) num = true
    · rw [if_pos hc, if_pos hc, hall m (by omega) hc]
    · rw [if_neg hc, if_neg hc]
      rcases Nat.eq_zero_or_pos m with rfl | hp
      · exact absurd (decide_eq_true ⟨by rw [h0]; decide, by rw [h0]; exact Nat.zero_le _⟩) hc
      · exact ih hp (by omega)

/-- What of a plan's numbers the contracts need. -/
def FineConf (bl : List Nat) (t1 : Nat) (fs : List (List Nat)) : Prop := (∀ x ∈ fs, x.length = 20 ∧ Ds 256 x) ∧ Ds 18446744073709551616 bl ∧ t1 < 18446744073709551616
theorem at_two {t0 t1 time : Nat} (h : t0 ≤ t1) (h1 : t1 < 18446744073709551616) : begunN [t0, t1] time 2 = if comeB t1 time = true then 2 else if comeB t0 time = true then 1 else 0 := by
  show 0 + (if comeB t0 time = true then 1 else 0) + (if comeB t1 time = true then 1 else 0) = _
  by_cases hc : comeB t1 time = true
  · have h2 := of_decide_eq_true hc
    have h3 : comeB t0 time = true := decide_eq_true ⟨by omega, by omega⟩
    rw [if_pos hc, if_pos h3, if_pos hc]
  · rw [if_neg hc, if_neg hc]
    omega

set_option maxRecDepth 100000 in
set_option maxHeartbeats 6400000 in
theorem foat_c {ch : Nat} {bl : List Nat} {t0 t1 dao : Nat} {A : Option Addr} {c : Nat} {fs : List (List Nat)} {ta : List Nat} (hl : bl.length = 14) (ht : ta.length = 20) (w : World) (hf : AdsAt w A fs) (hd : FineConf bl t1 fs) (hn : fs.length ≤ 1000) (num time : Nat) :
    Calls Tryd.prog 9 #[.agg (ConfL ch bl t0 t1 dao (.slice A fs.length c) ta).toArray, .int .u64 (num : Nat), .int .u64 (time : Nat)] w (RetV (.tuple #[.int .i64 (atV bl t0 t1 fs num time).1, .int .i64 (atV bl t0 t1 fs num time).2]) w) := by
  have hlen : (ConfL ch bl t0 t1 dao (.slice A fs.length c) ta).length = 39 := conf_len hl ht
  have hcf : ConfAt (w.alloc (.cells (ConfL ch bl t0 t1 dao (.slice A fs.length c) ta).toArray 29)) w.heap.size bl t0 t1 (.slice A fs.length c) := conf_box w _ hl
  have hbe : Below w.heap.size w (w.alloc (.cells (ConfL ch bl t0 t1 dao (.slice A fs.length c) ta).toArray 29)) := (Below.refl _ _).alloc (Nat.le_refl _) _
  have hfs := hf.below hbe
  have hg := heap_alloc_new w (.cells (ConfL ch bl t0 t1 dao (.slice A fs.length c) ta).toArray 29)
  have HCK : Hid (∀ W, AdsAt W A fs → Calls Tryd.prog 11 #[.agg (ConfL ch bl t0 t1 dao (.slice A fs.length c) ta).toArray] W (RetV (.int .i64 (checkZ bl t0 t1 fs)) W)) := fun W hW => focheck_c hl W hW hd.1 hn
  generalize ConfL ch bl t0 t1 dao (.slice A fs.length c) ta = L at *
  obtain ⟨z, hz⟩ : ∃ z, z = atV bl t0 t1 fs num time := ⟨_, rfl⟩
  rw [← hz]
  have HZ := Lib.hid hz
  have HC := Lib.hid hcf
  have HBE := Lib.hid hbe
  have HF := Lib.hid hfs
  have HG := Lib.hid hg
  have HLEN := Lib.hid hlen
  have HBL := Lib.hid hl
  have HD := Lib.hid hd
  clear hz hf hl ht hcf hbe hfs hg hlen hn hd
  go_enter Tryd.func9, Tryd.ntmps9
  go_upto_region 1 with (fail)
  generalize w.alloc (.cells L.toArray 29) = W at *
  refine wp_region_lit ?_
  refine wpList_load_row rfl 29 (.tmp 3) rfl w.heap.size rfl 29 L.toArray (0, 0) _ HG.out Tryd.underlying29 rfl (by rw [infoConf, List.size_toArray, HLEN.out]) ?_
  go_simp
  go_wp2_with fail
  (with_reducible refine (HCK.out W HF.out).mono ?_)
  rintro e w1 ⟨rfl, hb1⟩
  have HC1 := Lib.hid (HC.out.below (hb1.mono (Nat.le_refl _)))
  have HBE1 := Lib.hid (HBE.out.trans (hb1.mono HBE.out.size))
  clear HC HBE HF HG HCK hb1
  by_cases hbad : BadConf bl t0 t1 fs
  · have e1 : z = (0, 10) := HZ.out.trans (atV_bad hbad)
    have e2 := checkZ_bad hbad
    rw [e2]
    have E1 := Lib.hid e1
    clear e1 e2 hbad HZ
    go_wp2_with fail
    exact bodyPost_ret (v := .tuple #[.int .i64 0, .int .i64 10]) (by simp [results, Tryd.results9, go_sem]) rfl ⟨by rw [E1.out], HBE1.out⟩
  · have e1 := HZ.out.trans (atV_good hbad)
    have e2 := checkZ_good hbad
    rw [e2]
    have hgood : bl.getD 0 0 = 0 ∧ Rising bl ∧ t0 ≤ t1 := by
      have hn := fun h => hbad ((bad_iff HBL.out).2 h)
      refine ⟨Classical.byContradiction fun h => hn (.inl h), Classical.byContradiction fun h => hn (.inr (.inl h)), ?_⟩
      have := Classical.byContradiction fun h => hn (.inr (.inr (.inl h)))
      exact rising_two.1 this
    obtain ⟨f, hf⟩ : ∃ f, f = lastCome bl num 14 := ⟨_, rfl⟩
    have hfle := lastCome_le bl num 14
    rw [← hf] at hfle
    have hbg : begunN bl num 14 = f + 1 := by rw [hf]; exact begun_last hgood.2.1 hgood.1 (fun j => HD.out.2.1.get (by omega) j) 14 (by omega) (by rw [HBL.out]; exact Nat.le_refl _)
    have B1 := begun_c bl num w.heap.size 1 14 14 HBL.out (by omega) w1 (HC1.out.blocks HBL.out)
    rw [hbg] at B1
    have C1 := Lib.hid B1
    have hat : atF bl t0 t1 num time = if f = 13 then 13 + begunN [t0, t1] time 2 else f := by
      rw [at_two hgood.2.2 HD.out.2.2]
      simp only [atF, ← hf]
      by_cases h13 : f = 13
      · rw [if_pos h13]
        subst h13
        by_cases hc1 : comeB t1 time = true
        · have h3 : comeB t0 time = true := by
            have h2 := of_decide_eq_true hc1
            have := hgood.2.2
            have := HD.out.2.2
            exact decide_eq_true ⟨by omega, by omega⟩
          simp [hc1, h3]
        · by_cases hc0 : comeB t0 time = true
          · simp [hc1, hc0]
          · simp [hc1, hc0]
      · rw [if_neg h13]
        have : ¬ (13 ≤ f) := by omega
        simp [h13, this]
    have HAT := Lib.hid hat
    have HZ1 := Lib.hid e1
    have hf1 : ((f + 1 : Nat) : Int) - 1 = (f : Int) := by omega
    clear e1 e2 hbad HZ hbg B1 hat hf hgood
    go_wp2_with fail
    (with_reducible refine C1.out.mono ?_)
    rintro e w2 ⟨rfl, hb2⟩
    have HC2 := Lib.hid (HC1.out.below (hb2.mono (Nat.le_refl _)))
    have HBE2 := Lib.hid (HBE1.out.trans (hb2.mono HBE1.out.size))
    clear C1 hb2 HC1 HBE1
    by_cases h13 : f = 13
    · have e := HAT.out
      rw [if_pos h13] at e
      have HE := Lib.hid e
      subst h13
      have C2 := Lib.hid (begun_c [t0, t1] time w.heap.size 15 2 2 rfl (by omega) w2 HC2.out.times)
      have hle := begunN_le [t0, t1] time 2
      obtain ⟨k, hk⟩ : ∃ k, k = begunN [t0, t1] time 2 := ⟨_, rfl⟩
      rw [← hk] at C2 HE hle
      clear e HAT hk
      go_wp2_with fail
      (with_reducible refine C2.out.mono ?_)
      rintro e w3 ⟨rfl, hb3⟩
      have HBE3 := Lib.hid (HBE2.out.trans (hb3.mono HBE2.out.size))
      clear C2 hb3 HBE2 HC2
      go_wp2_with fail
      exact bodyPost_ret (v := .tuple #[.int .i64 (13 + (k : Int)), .int .i64 0]) (by simp [results, Tryd.results9, go_sem]) rfl ⟨by rw [HZ1.out, HE.out]; rfl, HBE3.out⟩
    · have e := HAT.out
      rw [if_neg h13] at e
      have HE := Lib.hid e
      have h12 : (f : Int) < 13 := by omega
      have k13 : ((f : Int) == 13) = false := by simp; omega
      clear e HAT h13
      go_wp2_with fail
      exact bodyPost_ret (v := .tuple #[.int .i64 (f : Nat), .int .i64 0]) (by simp [results, Tryd.results9, go_sem]) rfl ⟨by rw [HZ1.out, HE.out], HBE2.out⟩
end Go.Proofs.YtijoafmbmplgcaaDoor
