/- The law CodeOwn over package code's contracts. (Written by wip/gencdownlaw.py.) -/
import Derived.Test.YtopeahjdglkheaaDoorCdWakes
import Derived.Test.YtopeahjdglkheaaDoorCdApiL
import Derived.Test.YtopeahjdglkheaaDoorOwLoan
namespace Go.Proofs.YtopeahjdglkheaaDoor
open Go.RowKit

set_option maxRecDepth 100000 in
set_option maxHeartbeats 12800000 in
theorem codeOwn_c (w : World) (hP : PowAt w) (f : Int) (_ : -9223372036854775808 ≤ f) (_ : f < 9223372036854775808) {A : Option Addr} {c : Nat} {bs : List Nat} (h : Rd .u8 w A c bs) (hd : Ds 256 bs) : Calls Tryd.prog 7 #[.int .i64 f, .slice A bs.length c] w (RetV (.bool true) w) := by
  obtain ⟨n, hn⟩ : ∃ n, n = bs.length := ⟨_, rfl⟩
  obtain ⟨b, hb0⟩ : ∃ b, b = bs.take 3000 := ⟨_, rfl⟩
  obtain ⟨L, hL⟩ : ∃ L, L = jmp 0 0 b := ⟨_, rfl⟩
  obtain ⟨k, hk⟩ : ∃ k, k = L.length := ⟨_, rfl⟩
  have hlb : b.length ≤ 3000 := by rw [hb0, List.length_take]; omega
  have hk2 : k ≤ 3000 := by rw [hk, hL]; exact Nat.le_trans (jmp_len 0 0 b) hlb
  have KF : Hid (∀ u, Below w.heap.size w u → Calls Tryd.prog 15 #[.slice A n c] u (RetR (fun w' v => Byt w' v b) u)) := fun u hu => by rw [hn, hb0]; exact few_c u (h.below hu) hd
  rw [← hn]
  obtain ⟨n5, hn5⟩ : ∃ n5, n5 = b.length := ⟨_, rfl⟩
  have KJ : Hid (∀ u A c, Rd .u8 u A c b → Ds 256 b → Calls Tryd.prog 16 #[.slice A n5 c] u (fun e w' => ∃ A c, e = .returned (.slice A k c) ∧ w'.ownsRow u.heap.size 3 1 (.slice A k c) k (intsC L) ∧ Below u.heap.size u w')) := fun u A c hr hd => by
    rw [hn5, hk, hL]
    refine (cdJumpsO u hr hd hlb).mono fun e w' ⟨v, e1, e2, e3⟩ => ?_
    obtain ⟨A2, c2, e4, _⟩ := ownI_at e2
    subst e4
    exact ⟨A2, c2, e1, e2, e3⟩
  have KL : Hid (∀ u A c, Below w.heap.size w u → Rd .u8 u A c b → Ds 256 b → Calls Tryd.prog 20 #[.int .i64 f, .slice A n5 c] u (fun e w' => ∃ v, e = .returned v ∧ Below u.heap.size u w')) := fun u A c hu hr hd => by
    rw [hn5]
    exact (cdList f u (hP.below hu) hr hd hlb).mono fun e w' ⟨A, c, e1, _, e3⟩ => ⟨_, e1, e3⟩
  have KP : Hid (∀ u A c, Rd .u8 u A c b → Ds 256 b → Calls Tryd.prog 18 #[.slice A n5 c, .agg #[.int .u64 1, .int .u64 0, .int .u64 0, .int .u64 0]] u (fun e w' => ∃ v, e = .returned v ∧ Below u.heap.size u w')) := fun u A c hr hd => by
    rw [hn5, ← show W 1 = .agg #[.int .u64 1, .int .u64 0, .int .u64 0, .int .u64 0] from W_small (by omega)]
    exact (cdJump u hr hd hlb (by unfold Big; omega)).mono fun e w' h => ⟨_, h.1, h.2⟩
  have KW : Hid (∀ u, Calls Tryd.prog 14 #[] u (RetV (.bool true) u)) := fun u => cdwakes_c u
  have HLB := Lib.hid hlb
  have HN5 := Lib.hid hn5
  have HK := Lib.hid hk
  have HK2 := Lib.hid hk2
  obtain ⟨W, hW⟩ : ∃ W, W = w.alloc (.cells #[.slice none 0 0, .slice none 0 0] 50) := ⟨_, rfl⟩
  have HB0 : Hid (Below w.heap.size w W) := by rw [hW]; exact (Below.refl _ _).alloc (Nat.le_refl _) _
  have HK0 : Hid (KeepL w.heap.size w.heap.size (roleL w.heap.size) W 0) := KeepL.new (by rw [hW]; exact heap_alloc_new w _) (Nat.le_refl _)
  have HWW := Lib.hid hW
  clear hn hb0 hL hk hlb h hd hk2 hn5 hW hP
  go_enter Tryd.func7, Tryd.ntmps7
  go_upto_region 2 with (fail)
  rw [← HWW.out]
  clear HWW
  go_wp2_with fail
  (with_reducible refine (KF.out _ HB0.out).mono ?_)
  rintro e w1 ⟨v1, rfl, hby, hb⟩
  obtain ⟨A1, c1, rfl, hr1, hd1⟩ := hby
  have hka := HK0.out.below hb
  
  have C2 := hka.lend hr1 hd1 (by have := HLB.out; omega) (by decide)
  rw [← HN5.out] at C2 ⊢
  have C2 := Lib.hid C2
  have HB2a := HB0.out.trans (hb.mono HB0.out.size)
  have HDB := Lib.hid hd1
  clear hr1 hka hb hd1 HK0
  go_wp2_with fail
  (with_reducible refine C2.out.mono ?_)
  rintro e w2 ⟨role2, g1, c2, rfl, hr2, hk2, hext, hchg, hb2⟩
  
  have HR := Lib.hid hr2
  have HKL := Lib.hid hk2
  have HBL := Lib.hid (HB2a.trans hb2)
  clear C2 hr2 hk2 hext hchg hb2 HB2a HB0 
  go_wp2_with fail
  (with_reducible refine (KJ.out _ _ _ HR.out HDB.out).mono ?_)
  rintro e w3 ⟨A6, c6, rfl, hown, hb⟩
  obtain ⟨hk3, _, hri⟩ := HKL.out.give (r := (20, 0)) hb hown
  have HK3 := Lib.hid hk3
  have R6 := Lib.hid hri
  have HB3 := Lib.hid (HBL.out.trans (hb.mono HBL.out.size))
  clear hown hb hk3 hri HKL HBL HR HDB
  generalize upd role2 _ _ = role3 at *
  go_wp2_with fail
  (with_reducible refine (KF.out _ HB3.out).mono ?_)
  rintro e w4 ⟨v1, rfl, hby, hb⟩
  obtain ⟨A1, c1, rfl, hr1, hd1⟩ := hby
  have hka := HK3.out.below hb
  have R6a := R6.out.below hb
  have C2 := hka.lend hr1 hd1 (by have := HLB.out; omega) (by decide)
  rw [← HN5.out] at C2 ⊢
  have C2 := Lib.hid C2
  have HB2a := HB3.out.trans (hb.mono HB3.out.size)
  have HDB := Lib.hid hd1
  clear hr1 hka hb hd1 HK3
  go_wp2_with fail
  (with_reducible refine C2.out.mono ?_)
  rintro e w5 ⟨role5, g1, c2, rfl, hr2, hk2, hext, hchg, hb2⟩
  have R6 := Lib.hid (R6a.keep hchg (by decide) hext)
  have HR := Lib.hid hr2
  have HKL := Lib.hid hk2
  have HBL := Lib.hid (HB2a.trans hb2)
  clear C2 hr2 hk2 hext hchg hb2 HB2a HB3 R6a
  go_wp2_with fail
  (with_reducible refine (KJ.out _ _ _ HR.out HDB.out).mono ?_)
  rintro e w6 ⟨A7, c7, rfl, hown, hb⟩
  obtain ⟨hk6, hext, hri⟩ := HKL.out.give (r := (21, 0)) hb hown
  have HK6 := Lib.hid hk6
  have R7 := Lib.hid hri
  have R6' := Lib.hid ((R6.out.below hb).keep (ChgR.refl (fun _ => False) _ _) id hext)
  have HB6 := Lib.hid (HBL.out.trans (hb.mono HBL.out.size))
  clear hown hb hk6 hri hext HKL HBL HR HDB R6 KJ
  generalize upd role5 _ _ = role6 at *
  go_wp2_with fail
  (with_reducible refine (KF.out _ HB6.out).mono ?_)
  rintro e w7 ⟨v1, rfl, hby, hb⟩
  obtain ⟨A1, c1, rfl, hr1, hd1⟩ := hby
  have hka := HK6.out.below hb
  have R6'a := R6'.out.below hb
  have R7a := R7.out.below hb
  have C2 := hka.lend hr1 hd1 (by have := HLB.out; omega) (by decide)
  rw [← HN5.out] at C2 ⊢
  have C2 := Lib.hid C2
  have HB2a := HB6.out.trans (hb.mono HB6.out.size)
  have HDB := Lib.hid hd1
  clear hr1 hka hb hd1 HK6
  go_wp2_with fail
  (with_reducible refine C2.out.mono ?_)
  rintro e w8 ⟨role8, g1, c2, rfl, hr2, hk2, hext, hchg, hb2⟩
  have R6' := Lib.hid (R6'a.keep hchg (by decide) hext)
  have R7 := Lib.hid (R7a.keep hchg (by decide) hext)
  have HR := Lib.hid hr2
  have HKL := Lib.hid hk2
  have HBL := Lib.hid (HB2a.trans hb2)
  clear C2 hr2 hk2 hext hchg hb2 HB2a HB6 R6'a R7a
  go_wp2_with fail
  (with_reducible refine (KL.out _ _ _ HBL.out HR.out HDB.out).mono ?_)
  rintro e w9 ⟨v9, rfl, hb⟩
  have HK9 := Lib.hid (HKL.out.below hb)
  have R69 := Lib.hid (R6'.out.below hb)
  have R79 := Lib.hid (R7.out.below hb)
  have HB9 := Lib.hid (HBL.out.trans (hb.mono HBL.out.size))
  clear hb HKL HBL HR HDB R6' R7 KL
  go_wp2_with fail
  (with_reducible refine (KF.out _ HB9.out).mono ?_)
  rintro e w10 ⟨v1, rfl, hby, hb⟩
  obtain ⟨A1, c1, rfl, hr1, hd1⟩ := hby
  have hka := HK9.out.below hb
  have R69a := R69.out.below hb
  have R79a := R79.out.below hb
  have C2 := hka.lend hr1 hd1 (by have := HLB.out; omega) (by decide)
  rw [← HN5.out] at C2 ⊢
  have C2 := Lib.hid C2
  have HB2a := HB9.out.trans (hb.mono HB9.out.size)
  have HDB := Lib.hid hd1
  clear hr1 hka hb hd1 HK9
  go_wp2_with fail
  (with_reducible refine C2.out.mono ?_)
  rintro e w11 ⟨role11, g1, c2, rfl, hr2, hk2, hext, hchg, hb2⟩
  have R69 := Lib.hid (R69a.keep hchg (by decide) hext)
  have R79 := Lib.hid (R79a.keep hchg (by decide) hext)
  have HR := Lib.hid hr2
  have HKL := Lib.hid hk2
  have HBL := Lib.hid (HB2a.trans hb2)
  clear C2 hr2 hk2 hext hchg hb2 HB2a HB9 R69a R79a
  go_wp2_with fail
  (with_reducible refine (KP.out _ _ _ HR.out HDB.out).mono ?_)
  rintro e w12 ⟨v12, rfl, hb⟩
  have HKC := Lib.hid (HKL.out.below hb)
  have R6C := Lib.hid (R69.out.below hb)
  have R7C := Lib.hid (R79.out.below hb)
  have HBC := Lib.hid (HBL.out.trans (hb.mono HBL.out.size))
  clear hb HKL HBL HR HDB R69 R79 KP KF
  go_wp2_with fail
  go_loopw [8] (fun i wr => ∃ (m : Nat) (xs : List Value), i = .int .i64 (m : Nat) ∧ m ≤ k ∧ Hid (KeepL w.heap.size w.heap.size role11 wr 4) ∧ Hid (RI role11 (20, 0) wr (.slice A6 k c6) k xs) ∧ Hid (RI role11 (21, 0) wr (.slice A7 k c7) k (intsC L)) ∧ Hid (Below w.heap.size w wr)) (fun i _ => k - (intOf i).toNat)
  case atStart => exact ⟨0, _, rfl, Nat.zero_le _, HKC, R6C, R7C, HBC⟩
  case round =>
    clear HKC R6C R7C HBC
    obtain ⟨m, xs, rfl, hm, HK1, R6, R7, HB1⟩ := hrel
    have hk3 : k ≤ 3000 := HK2.out
    by_cases h0 : m < k
    · obtain ⟨g, x, rfl, _, hc, hf⟩ := R6.out.at_ h0
      have HMK := Lib.hid h0
      have h0i : (m : Int) < (k : Int) := by omega
      clear h0
      go_wp2_with fail
      obtain ⟨r1, hch⟩ := R6.out.store (m := m) (.int .i64 (-1))
      have R6n := Lib.hid r1
      have R7n := Lib.hid (R7.out.keep hch (by decide) (Ext.refl _))
      have HKn := Lib.hid (HK1.out.chg hch (fun c j h5 _ e => by injection e with e1 _; omega))
      have HBn := Lib.hid (HB1.out.trans (hch.below HK1.out.old))
      clear r1 hch R6 R7 HK1 HB1 hc hf
      go_roundw
      case rel => exact ⟨m + 1, _, by go_num, by have := HMK.out; omega, HKn, R6n, R7n, HBn⟩
      case measure => have := HMK.out; simp [intOf]; omega
    · have h0i : ¬ (m : Int) < (k : Int) := by omega
      clear h0 R6 hm
      go_wp2_with fail
      go_loopw [9] (fun i wz => ∃ m : Nat, i = .int .i64 (m : Nat) ∧ m ≤ k ∧ Hid (wz = wr)) (fun i _ => k - (intOf i).toNat)
      case atStart => exact ⟨0, rfl, Nat.zero_le _, by first | exact Lib.hid rfl | exact Lib.hid trivial⟩
      case round =>
        obtain ⟨m, rfl, hm, hw⟩ := hrel
        have hw := hw.out
        subst hw
        by_cases h0 : m < k
        · obtain ⟨g, x, rfl, hx, hc, hf⟩ := R7.out.at_ h0
          obtain ⟨y, hy⟩ : ∃ y, L[m]? = some y := ⟨_, List.getElem?_eq_getElem (by rw [← HK.out]; exact h0)⟩
          have hxy : x = .int .i64 (y : Nat) := by
            unfold intsC at hx
            rw [List.getElem?_map, hy] at hx
            exact (Option.some.inj hx).symm
          subst hxy
          have HMK := Lib.hid h0
          have h0i : (m : Int) < (k : Int) := by omega
          have hy0 : ¬ (y : Int) < 0 := by omega
          clear h0 hx hy
          go_wp2_with fail
          go_roundw
          case rel => exact ⟨m + 1, by go_num, by have := HMK.out; omega, by first | exact Lib.hid rfl | exact Lib.hid trivial⟩
          case measure => have := HMK.out; simp [intOf]; omega
        · have h0i : ¬ (m : Int) < (k : Int) := by omega
          have CB := Lib.hid (HK1.out.back (by decide))
          clear h0
          go_wp2_with fail
          (with_reducible refine CB.out.mono ?_)
          rintro e wa ⟨rfl, hba⟩
          have HBA := Lib.hid (HB1.out.trans hba)
          clear CB hba HB1 HK1 R7
          go_wp2_with fail
          (with_reducible refine (KW.out _).mono ?_)
          rintro e wb ⟨rfl, hbb⟩
          have HBB := Lib.hid (HBA.out.trans (hbb.mono HBA.out.size))
          clear hbb HBA KW
          go_wp2_with fail
          exact bodyPost_ret (v := .bool true) (by simp [results, Tryd.results7, go_sem]) rfl ⟨rfl, HBB.out⟩
end Go.Proofs.YtopeahjdglkheaaDoor
