/- The law NatOwn, by the contracts of its callees. -/
import Derived.Test.YtakojlgoelbjmaaOwNat
namespace Go.Proofs.Ytakojlgoelbjmaa
open Go.RowKit

set_option maxRecDepth 100000 in
set_option maxHeartbeats 25600000 in
theorem natOwn_c {A B M : Option Addr} {ca cb cm : Nat} {i wide : Int} {xs ys zs : List Nat} (w : World) (hA : Rd .u8 w A ca xs) (dA : Ds 256 xs) (hB : Rd .u8 w B cb ys) (dB : Ds 256 ys) (hM : Rd .u8 w M cm zs) (dM : Ds 256 zs) :
    Calls Try.prog 3 #[.agg #[.slice A xs.length ca, .slice B ys.length cb, .slice M zs.length cm, .int .i64 i, .int .i64 wide]] w (RetV (.bool true) w) := by
  obtain ⟨p, hp⟩ : ∃ zz, zz = xs.take 600 := ⟨_, rfl⟩
  obtain ⟨q, hq⟩ : ∃ zz, zz = ys.take 600 := ⟨_, rfl⟩
  obtain ⟨m, hm⟩ : ∃ zz, zz = zs.take 40 := ⟨_, rfl⟩
  have HL : Hid (p.length ≤ 600 ∧ q.length ≤ 600 ∧ m.length ≤ 40) := by
    show _ ∧ _ ∧ _
    rw [hp, hq, hm, List.length_take, List.length_take, List.length_take]
    omega
  have FP : Hid (∀ (w : World) {u : Value}, Byt w u xs → Calls Try.prog 6 #[u] w (RetR (fun w' v => OwnB w.heap.size w' v p) w)) := fun w u ⟨A, c, e, h1, h2⟩ => by rw [e, hp]; exact few_o h1 h2
  have FQ : Hid (∀ (w : World) {u : Value}, Byt w u ys → Calls Try.prog 6 #[u] w (RetR (fun w' v => OwnB w.heap.size w' v q) w)) := fun w u ⟨A, c, e, h1, h2⟩ => by rw [e, hq]; exact few_o h1 h2
  have FM : Hid (∀ (w : World) {u : Value}, Byt w u zs → Calls Try.prog 7 #[u, .int .i64 40] w (RetR (fun w' v => OwnB w.heap.size w' v m) w)) := fun w u ⟨A, c, e, h1, h2⟩ => by rw [e, hm]; exact twin_o w h1 h2 40 (by decide) (by decide)
  clear hp hq hm
  obtain ⟨L, hL⟩ : ∃ L, L = xs.length := ⟨_, rfl⟩
  obtain ⟨K, hK⟩ : ∃ K, K = ys.length := ⟨_, rfl⟩
  obtain ⟨J, hJ⟩ : ∃ J, J = zs.length := ⟨_, rfl⟩
  have rA : Byt w (.slice A L ca) xs := ⟨A, ca, by rw [hL], hA, dA⟩
  have rB : Byt w (.slice B K cb) ys := ⟨B, cb, by rw [hK], hB, dB⟩
  have rM : Byt w (.slice M J cm) zs := ⟨M, cm, by rw [hJ], hM, dM⟩
  rw [← hL, ← hK, ← hJ]
  obtain ⟨X, hX⟩ : ∃ X, X = w.alloc (.cells #[.slice A L ca, .slice B K cb, .slice M J cm, .int .i64 i, .int .i64 wide] 24) := ⟨_, rfl⟩
  have hW : Below w.heap.size w X := by rw [hX]; exact (Below.refl w.heap.size w).alloc (Nat.le_refl _) _
  have hx : Box5 X w.heap.size (.slice A L ca) (.slice B K cb) (.slice M J cm) (.int .i64 i) (.int .i64 wide) := by rw [hX]; exact Box5.new w _ _ _ _ _ _
  have hXs : X.heap.size = w.heap.size + 1 := by rw [hX]; simp
  obtain ⟨W, hWW⟩ : ∃ W, W = (X.alloc (.cells #[.slice none 0 0, .slice none 0 0] 28)).alloc (.cells #[.slice none 0 0, .slice none 0 0, .slice none 0 0, .slice none 0 0, .int .i64 0] 31) := ⟨_, rfl⟩
  have hbw : Below X.heap.size X W := by rw [hWW]; exact ((Below.refl _ _).alloc (Nat.le_refl _) _).alloc (by simp) _
  have hg1 : W.heap[X.heap.size]? = some (.cells #[.slice none 0 0, .slice none 0 0] 28 (0, 0)) := by
    rw [hWW, Below.heap_alloc _ _ _ (by simp)]; exact heap_alloc_new X _
  have hg2 : W.heap[X.heap.size + 1]? = some (.cells #[.slice none 0 0, .slice none 0 0, .slice none 0 0, .slice none 0 0, .int .i64 0] 31 (0, 0)) := by
    have := heap_alloc_new (X.alloc (.cells #[.slice none 0 0, .slice none 0 0] 28)) (.cells #[.slice none 0 0, .slice none 0 0, .slice none 0 0, .slice none 0 0, .int .i64 0] 31)
    rw [hWW]
    simpa using this
  have hkeeps := Keeps.new (base := X.heap.size) (by omega) hg1 hg2 (Nat.le_refl _) (by omega)
  rw [hXs] at hkeeps hbw
  have RA := Lib.hid (rA.below hW)
  have RB := Lib.hid (rB.below hW)
  have RM := Lib.hid (rM.below hW)
  have HX := Lib.hid hx
  have HW := Lib.hid hW
  have HKK := Lib.hid hkeeps
  have HBW := Lib.hid hbw
  have HXX := Lib.hid hX
  have HWW := Lib.hid hWW
  have HXS := Lib.hid hXs
  clear hA dA hB dB hM dM hL hK hJ rA rB rM hW hx hX hWW hbw hg1 hg2 hkeeps hXs
  go_enter Try.func3, Try.ntmps3
  go_upto_region 1 with (fail)
  rw [← HXX.out]
  go_upto_region 3 with (fail)
  rw [← HWW.out]
  rw [HXS.out]
  go_upto_region 4 with (fail)
  clear HXX HWW
  go_loopw [5] (fun i wr => ∃ (j k : Nat) (role : Role), j ≤ 2 ∧ i = .int .i64 (j : Int) ∧ Hid (k ≤ 100 * j) ∧ Hid (Keeps (w.heap.size + 1) ((w.heap.size + 1) + 1) (w.heap.size + 1) role wr k) ∧ Hid (Below (w.heap.size + 1) X wr))
    (fun i _ => 2 - (intOf i).toNat)
  case atStart => exact ⟨0, 0, _, by omega, rfl, Nat.zero_le _, HKK.out, HBW.out⟩
  case round =>
    obtain ⟨j, k, role, hj, rfl, hkj, hk, hb⟩ := hrel
    by_cases hj2 : j < 2
    · have hj1 : (j : Int) < 2 := by omega
      have HJ : Hid (j < 2) := hj2
      have HKB : Hid (k ≤ 100 * j ∧ j < 2) := ⟨hkj.out, hj2⟩
      have HK0 := Lib.hid hk.out
      have HB := Lib.hid hb.out
      have hbX : Below X.heap.size X wr := by rw [HXS.out]; exact HB.out
      have PA := Lib.hid (RA.out.below hbX)
      have PB := Lib.hid (RB.out.below hbX)
      have PM := Lib.hid (RM.out.below hbX)
      have PX := Lib.hid (HX.out.below hbX)
      clear hj2 hj hkj hk hb hbX HKK HBW
      go_upto_region 6 with (fail)
      refine wp_region_see 12 [24, 25, 26, 27, 28, 29, 30, 31, 32, 6, 7, 8] [(24, .is (.pointer (some ⟨w.heap.size, 0, none⟩))), (25, .byt xs), (26, .ob wr.heap.size p), (27, .is (.pointer (some ⟨w.heap.size, 1, none⟩))), (28, .byt ys), (29, .ob wr.heap.size q), (30, .is (.pointer (some ⟨w.heap.size, 2, none⟩))), (31, .byt zs), (32, .ob wr.heap.size m), (6, .ob wr.heap.size p), (7, .ob wr.heap.size q), (8, .ob wr.heap.size m)] (by kernel_rfl) (by kernel_rfl) (by rfl) ?_ ?_
      · refine seeOps_cons ?_ (seeOps_cons ?_ (seeOps_cons ?_ (seeOps_cons ?_ (seeOps_cons ?_ (seeOps_cons ?_ (seeOps_cons ?_ (seeOps_cons ?_ (seeOps_cons ?_ (seeOps_cons ?_ (seeOps_cons ?_ (seeOps_cons ?_ seeOps_nil)))))))))))
        · intro w2 hb2 fr hout hin
          have h1 : fr.tmps.getD 1 undef = .pointer (some ⟨w.heap.size, 0, none⟩) := hout 1 (by decide)
          exact op_fieldN (.tmp 1) rfl (by decide) h1 (wanted_none rfl) rfl
        · intro w2 hb2 fr hout hin
          have h24 : fr.tmps.getD 24 undef = .pointer (some ⟨w.heap.size, 0, none⟩) := hin 24 (by decide) (by decide)
          exact op_load1 (.tmp 24) rfl (fun _ => by kernel_rfl) h24 ((PX.out.below hb2).c0) (wanted_none rfl) (PA.out.below hb2)
        · intro w2 hb2 fr hout hin
          have h25 : Byt w2 (fr.tmps.getD 25 undef) xs := hin 25 (by decide) (by decide)
          exact op_call1 (.tmp 25) rfl en_few (wanted_none rfl) (FP.out _ h25) (fun _ _ h => h.mono hb2.size)
        · intro w2 hb2 fr hout hin
          have h1 : fr.tmps.getD 1 undef = .pointer (some ⟨w.heap.size, 0, none⟩) := hout 1 (by decide)
          exact op_fieldN (.tmp 1) rfl (by decide) h1 (wanted_none rfl) rfl
        · intro w2 hb2 fr hout hin
          have h27 : fr.tmps.getD 27 undef = .pointer (some ⟨w.heap.size, 1, none⟩) := hin 27 (by decide) (by decide)
          exact op_load1 (.tmp 27) rfl (fun _ => by kernel_rfl) h27 ((PX.out.below hb2).c1) (wanted_none rfl) (PB.out.below hb2)
        · intro w2 hb2 fr hout hin
          have h28 : Byt w2 (fr.tmps.getD 28 undef) ys := hin 28 (by decide) (by decide)
          exact op_call1 (.tmp 28) rfl en_few (wanted_none rfl) (FQ.out _ h28) (fun _ _ h => h.mono hb2.size)
        · intro w2 hb2 fr hout hin
          have h1 : fr.tmps.getD 1 undef = .pointer (some ⟨w.heap.size, 0, none⟩) := hout 1 (by decide)
          exact op_fieldN (.tmp 1) rfl (by decide) h1 (wanted_none rfl) rfl
        · intro w2 hb2 fr hout hin
          have h30 : fr.tmps.getD 30 undef = .pointer (some ⟨w.heap.size, 2, none⟩) := hin 30 (by decide) (by decide)
          exact op_load1 (.tmp 30) rfl (fun _ => by kernel_rfl) h30 ((PX.out.below hb2).c2) (wanted_none rfl) (PM.out.below hb2)
        · intro w2 hb2 fr hout hin
          have h31 : Byt w2 (fr.tmps.getD 31 undef) zs := hin 31 (by decide) (by decide)
          exact op_call2 (.tmp 31) (.const (.int .i64 40)) rfl en_twin (wanted_none rfl) (FM.out _ h31) (fun _ _ h => h.mono hb2.size)
        · intro w2 hb2 fr hout hin
          have h26 : OwnB wr.heap.size w2 (fr.tmps.getD 26 undef) p := hin 26 (by decide) (by decide)
          exact relStep_assign (.tmp 26) rfl (wanted_none rfl) h26
        · intro w2 hb2 fr hout hin
          have h29 : OwnB wr.heap.size w2 (fr.tmps.getD 29 undef) q := hin 29 (by decide) (by decide)
          exact relStep_assign (.tmp 29) rfl (wanted_none rfl) h29
        · intro w2 hb2 fr hout hin
          have h32 : OwnB wr.heap.size w2 (fr.tmps.getD 32 undef) m := hin 32 (by decide) (by decide)
          exact relStep_assign (.tmp 32) rfl (wanted_none rfl) h32
      intro w0 hb0
      refine relAsk_in (by rfl) ?_
      intro v24 h24
      obtain rfl : v24 = .pointer (some ⟨w.heap.size, 0, none⟩) := h24
      refine relAsk_in (by rfl) ?_
      intro v25 h25
      refine relAsk_in (by rfl) ?_
      intro v26 h26
      refine relAsk_in (by rfl) ?_
      intro v27 h27
      obtain rfl : v27 = .pointer (some ⟨w.heap.size, 1, none⟩) := h27
      refine relAsk_in (by rfl) ?_
      intro v28 h28
      refine relAsk_in (by rfl) ?_
      intro v29 h29
      refine relAsk_in (by rfl) ?_
      intro v30 h30
      obtain rfl : v30 = .pointer (some ⟨w.heap.size, 2, none⟩) := h30
      refine relAsk_in (by rfl) ?_
      intro v31 h31
      refine relAsk_in (by rfl) ?_
      intro v32 h32
      refine relAsk_in (by rfl) ?_
      intro v6 h6
      refine relAsk_in (by rfl) ?_
      intro v7 h7
      refine relAsk_in (by rfl) ?_
      intro v8 h8
      refine relAsk_nil ?_
      have h6 : OwnB wr.heap.size w0 v6 p := h6
      have h7 : OwnB wr.heap.size w0 v7 q := h7
      have h8 : OwnB wr.heap.size w0 v8 m := h8
      obtain ⟨A6, c6, rfl⟩ := h6.1.form
      obtain ⟨A7, c7, rfl⟩ := h7.1.form
      obtain ⟨A8, c8, rfl⟩ := h8.1.form
      have f6 := HK0.out.free h6
      have f7 := HK0.out.free h7
      have f8 := HK0.out.free h8
      have k0 := HK0.out.below hb0
      obtain ⟨k1, e1, b1⟩ := k0.give (r := (20, 0)) h6.1 (fun i hi => ⟨(f6 i hi).1, .inl (f6 i hi).2⟩)
      have f7' : ∀ i, (Value.slice A7 q.length c7).ownBlock = some i → (w.heap.size + 1) ≤ i ∧ (upd role (.slice A6 p.length c6) (20, 0) i = none ∨ upd role (.slice A6 p.length c6) (20, 0) i = some (20, 0)) := fun i hi => by
        refine ⟨(f7 i hi).1, ?_⟩
        by_cases e : (Value.slice A6 p.length c6).ownBlock = some i
        · exact .inr (upd_self _ _ _ e)
        · rw [upd_old _ _ _ e]; exact .inl (f7 i hi).2
      obtain ⟨k2, e2, b2⟩ := k1.give (r := (20, 0)) h7.1 f7'
      have f8' : ∀ i, (Value.slice A8 m.length c8).ownBlock = some i → (w.heap.size + 1) ≤ i ∧ (upd (upd role (.slice A6 p.length c6) (20, 0)) (.slice A7 q.length c7) (20, 0) i = none ∨ upd (upd role (.slice A6 p.length c6) (20, 0)) (.slice A7 q.length c7) (20, 0) i = some (20, 0)) := fun i hi => by
        refine ⟨(f8 i hi).1, ?_⟩
        by_cases e : (Value.slice A7 q.length c7).ownBlock = some i
        · exact .inr (upd_self _ _ _ e)
        · rw [upd_old _ _ _ e]
          by_cases e : (Value.slice A6 p.length c6).ownBlock = some i
          · exact .inr (upd_self _ _ _ e)
          · rw [upd_old _ _ _ e]; exact .inl (f8 i hi).2
      obtain ⟨k3, e3, b3⟩ := k2.give (r := (20, 0)) h8.1 f8'
      have hcr : ∀ (r : Role), ChgR (fun _ => False) r w0 w0 := fun r => ChgR.refl _ _ _
      have HP := Lib.hid (b1.keep (hcr _) id (e2.trans e3))
      have HQ := Lib.hid (b2.keep (hcr _) id e3)
      have HM := Lib.hid b3
      have HK := Lib.hid k3
      replace HB := Lib.hid (HB.out.trans (hb0.mono HK0.out.old.1))
      clear h6 h7 h8 h25 h26 h28 h29 h31 h32 f6 f7 f8 f7' f8' k0 k1 k2 k3 e1 e2 e3 b1 b2 b3 hcr hb0 PA PB PM PX HK0 RA RB RM HX FP FQ FM
      generalize upd (upd (upd role (.slice A6 p.length c6) (20, 0)) (.slice A7 q.length c7) (20, 0)) (.slice A8 m.length c8) (20, 0) = role9 at *
      refine wpList_nil ?_
      go_simp
      have C := Lib.hid (HK.out.lend HP.out.1.rd HP.out.1.1 (by have := HL.out; omega) (by have := HKB.out; omega))
      go_wp2_with fail
      (with_reducible refine C.out.mono ?_)
      rintro e w1 ⟨r1, g1, c1, j1, rfl, s8, hk, her, hch, hbb⟩
      have hex := HK.out.ext her
      replace HP := Lib.hid (HP.out.lent (by simp) hch hex)
      replace HQ := Lib.hid (HQ.out.lent (by simp) hch hex)
      replace HM := Lib.hid (HM.out.lent (by simp) hch hex)
      have S1 := Lib.hid s8
      replace HB := Lib.hid (HB.out.trans hbb)
      replace HK := Lib.hid hk
      clear C s8 hk her hch hbb hex
      have C := Lib.hid (trim_any S1.out.1.rd S1.out.1.1 (by have := HL.out; omega))
      go_wp2_with fail
      (with_reducible refine C.out.mono ?_)
      rintro e w2 ⟨v2, z2, rfl, ho, hzl, hbb⟩
      obtain ⟨A2, c2, rfl⟩ := ho.1.form
      have hfr := HK.out.free ho
      replace HP := Lib.hid (HP.out.same hbb)
      replace HQ := Lib.hid (HQ.out.same hbb)
      replace HM := Lib.hid (HM.out.same hbb)
      replace S1 := Lib.hid (S1.out.same hbb)
      replace HB := Lib.hid (HB.out.trans (hbb.mono HK.out.old.1))
      replace HK := Lib.hid (HK.out.below hbb)
      obtain ⟨M2, hM⟩ : ∃ M, M = z2.length := ⟨_, rfl⟩
      have ho1 := ho.1
      rw [← hM] at ho1 hfr ⊢
      have V := Lib.hid (And.intro ho1 (And.intro hfr hzl))
      clear C ho ho1 hM hfr hzl hbb
      clear S1
      have C := Lib.hid (HK.out.keep V.out.1 V.out.2.1 (by have := V.out.2.2; omega))
      go_wp2_with fail
      (with_reducible refine C.out.mono ?_)
      rintro e w3 ⟨rfl, r3, hk, hex, her, hch, hbb⟩
      replace HP := Lib.hid (HP.out.lent (by simp) hch hex)
      replace HQ := Lib.hid (HQ.out.lent (by simp) hch hex)
      replace HM := Lib.hid (HM.out.lent (by simp) hch hex)
      replace HB := Lib.hid (HB.out.trans hbb)
      replace HK := Lib.hid hk
      clear C hk hex her hch hbb V
      have C := Lib.hid (HK.out.lend HP.out.1.rd HP.out.1.1 (by have := HL.out; omega) (by have := HKB.out; omega))
      go_wp2_with fail
      (with_reducible refine C.out.mono ?_)
      rintro e w4 ⟨r4, g4, c4, j4, rfl, s8, hk, her, hch, hbb⟩
      have hex := HK.out.ext her
      replace HP := Lib.hid (HP.out.lent (by simp) hch hex)
      replace HQ := Lib.hid (HQ.out.lent (by simp) hch hex)
      replace HM := Lib.hid (HM.out.lent (by simp) hch hex)
      have S4 := Lib.hid s8
      replace HB := Lib.hid (HB.out.trans hbb)
      replace HK := Lib.hid hk
      clear C s8 hk her hch hbb hex
      have C := Lib.hid (HK.out.lend HQ.out.1.rd HQ.out.1.1 (by have := HL.out; omega) (by have := HKB.out; omega))
      go_wp2_with fail
      (with_reducible refine C.out.mono ?_)
      rintro e w5 ⟨r5, g5, c5, j5, rfl, s8, hk, her, hch, hbb⟩
      have hex := HK.out.ext her
      replace HP := Lib.hid (HP.out.lent (by simp) hch hex)
      replace HQ := Lib.hid (HQ.out.lent (by simp) hch hex)
      replace HM := Lib.hid (HM.out.lent (by simp) hch hex)
      replace S4 := Lib.hid (S4.out.lent (by simp) hch hex)
      have S5 := Lib.hid s8
      replace HB := Lib.hid (HB.out.trans hbb)
      replace HK := Lib.hid hk
      clear C s8 hk her hch hbb hex
      have C := Lib.hid (add_any S4.out.1.rd S5.out.1.rd S4.out.1.1 S5.out.1.1 (by have := HL.out; omega) (by have := HL.out; omega))
      go_wp2_with fail
      (with_reducible refine C.out.mono ?_)
      rintro e w6 ⟨v6, z6, rfl, ho, hzl, hbb⟩
      obtain ⟨A6, c6, rfl⟩ := ho.1.form
      have hfr := HK.out.free ho
      replace HP := Lib.hid (HP.out.same hbb)
      replace HQ := Lib.hid (HQ.out.same hbb)
      replace HM := Lib.hid (HM.out.same hbb)
      replace S4 := Lib.hid (S4.out.same hbb)
      replace S5 := Lib.hid (S5.out.same hbb)
      replace HB := Lib.hid (HB.out.trans (hbb.mono HK.out.old.1))
      replace HK := Lib.hid (HK.out.below hbb)
      obtain ⟨M6, hM⟩ : ∃ M, M = z6.length := ⟨_, rfl⟩
      have ho1 := ho.1
      rw [← hM] at ho1 hfr ⊢
      have V := Lib.hid (And.intro ho1 (And.intro hfr hzl))
      clear C ho ho1 hM hfr hzl hbb
      clear S4 S5
      have C := Lib.hid (HK.out.keep V.out.1 V.out.2.1 (by have := V.out.2.2; omega))
      go_wp2_with fail
      (with_reducible refine C.out.mono ?_)
      rintro e w7 ⟨rfl, r7, hk, hex, her, hch, hbb⟩
      replace HP := Lib.hid (HP.out.lent (by simp) hch hex)
      replace HQ := Lib.hid (HQ.out.lent (by simp) hch hex)
      replace HM := Lib.hid (HM.out.lent (by simp) hch hex)
      replace HB := Lib.hid (HB.out.trans hbb)
      replace HK := Lib.hid hk
      clear C hk hex her hch hbb V
      have C := Lib.hid (HK.out.lend HP.out.1.rd HP.out.1.1 (by have := HL.out; omega) (by have := HKB.out; omega))
      go_wp2_with fail
      (with_reducible refine C.out.mono ?_)
      rintro e w8 ⟨r8, g8, c8, j8, rfl, s8, hk, her, hch, hbb⟩
      have hex := HK.out.ext her
      replace HP := Lib.hid (HP.out.lent (by simp) hch hex)
      replace HQ := Lib.hid (HQ.out.lent (by simp) hch hex)
      replace HM := Lib.hid (HM.out.lent (by simp) hch hex)
      have S8 := Lib.hid s8
      replace HB := Lib.hid (HB.out.trans hbb)
      replace HK := Lib.hid hk
      clear C s8 hk her hch hbb hex
      have C := Lib.hid (HK.out.lend0 (by have := HKB.out; omega))
      go_wp2_with fail
      (with_reducible refine C.out.mono ?_)
      rintro e w9 ⟨r9, g9, c9, j9, rfl, s8, hk, her, hch, hbb⟩
      have hex := HK.out.ext her
      replace HP := Lib.hid (HP.out.lent (by simp) hch hex)
      replace HQ := Lib.hid (HQ.out.lent (by simp) hch hex)
      replace HM := Lib.hid (HM.out.lent (by simp) hch hex)
      replace S8 := Lib.hid (S8.out.lent (by simp) hch hex)
      have S9 := Lib.hid s8
      replace HB := Lib.hid (HB.out.trans hbb)
      replace HK := Lib.hid hk
      clear C s8 hk her hch hbb hex
      have C0 := add_any S8.out.1.rd S9.out.1.rd S8.out.1.1 S9.out.1.1 (by have := HL.out; omega) (by simp)
      have C : Hid (Calls Try.prog 11 #[.slice (some ⟨g8, 0, none⟩) p.length c8, .slice (some ⟨g9, 0, none⟩) 0 c9] w9 (OwnOne w9)) := C0
      clear C0
      go_wp2_with fail
      (with_reducible refine C.out.mono ?_)
      rintro e w10 ⟨v10, z10, rfl, ho, hzl, hbb⟩
      obtain ⟨A10, c10, rfl⟩ := ho.1.form
      have hfr := HK.out.free ho
      replace HP := Lib.hid (HP.out.same hbb)
      replace HQ := Lib.hid (HQ.out.same hbb)
      replace HM := Lib.hid (HM.out.same hbb)
      replace S8 := Lib.hid (S8.out.same hbb)
      replace S9 := Lib.hid (S9.out.same hbb)
      replace HB := Lib.hid (HB.out.trans (hbb.mono HK.out.old.1))
      replace HK := Lib.hid (HK.out.below hbb)
      obtain ⟨M10, hM⟩ : ∃ M, M = z10.length := ⟨_, rfl⟩
      have ho1 := ho.1
      rw [← hM] at ho1 hfr ⊢
      have V := Lib.hid (And.intro ho1 (And.intro hfr hzl))
      clear C ho ho1 hM hfr hzl hbb
      clear S8 S9
      have C := Lib.hid (HK.out.keep V.out.1 V.out.2.1 (by have := V.out.2.2; omega))
      go_wp2_with fail
      (with_reducible refine C.out.mono ?_)
      rintro e w11 ⟨rfl, r11, hk, hex, her, hch, hbb⟩
      replace HP := Lib.hid (HP.out.lent (by simp) hch hex)
      replace HQ := Lib.hid (HQ.out.lent (by simp) hch hex)
      replace HM := Lib.hid (HM.out.lent (by simp) hch hex)
      replace HB := Lib.hid (HB.out.trans hbb)
      replace HK := Lib.hid hk
      clear C hk hex her hch hbb V
      have C := Lib.hid (HK.out.lend HP.out.1.rd HP.out.1.1 (by have := HL.out; omega) (by have := HKB.out; omega))
      go_wp2_with fail
      (with_reducible refine C.out.mono ?_)
      rintro e w12 ⟨r12, g12, c12, j12, rfl, s8, hk, her, hch, hbb⟩
      have hex := HK.out.ext her
      replace HP := Lib.hid (HP.out.lent (by simp) hch hex)
      replace HQ := Lib.hid (HQ.out.lent (by simp) hch hex)
      replace HM := Lib.hid (HM.out.lent (by simp) hch hex)
      have S12 := Lib.hid s8
      replace HB := Lib.hid (HB.out.trans hbb)
      replace HK := Lib.hid hk
      clear C s8 hk her hch hbb hex
      have C := Lib.hid (HK.out.lend HQ.out.1.rd HQ.out.1.1 (by have := HL.out; omega) (by have := HKB.out; omega))
      go_wp2_with fail
      (with_reducible refine C.out.mono ?_)
      rintro e w13 ⟨r13, g13, c13, j13, rfl, s8, hk, her, hch, hbb⟩
      have hex := HK.out.ext her
      replace HP := Lib.hid (HP.out.lent (by simp) hch hex)
      replace HQ := Lib.hid (HQ.out.lent (by simp) hch hex)
      replace HM := Lib.hid (HM.out.lent (by simp) hch hex)
      replace S12 := Lib.hid (S12.out.lent (by simp) hch hex)
      have S13 := Lib.hid s8
      replace HB := Lib.hid (HB.out.trans hbb)
      replace HK := Lib.hid hk
      clear C s8 hk her hch hbb hex
      have C := Lib.hid (sub_any S12.out.1.rd S13.out.1.rd S12.out.1.1 S13.out.1.1 (by have := HL.out; omega) (by have := HL.out; omega))
      go_wp2_with fail
      (with_reducible refine C.out.mono ?_)
      rintro e w14 ⟨v14, b14, z14, rfl, ho, hzl, hbb⟩
      obtain ⟨A14, c14, rfl⟩ := ho.1.form
      have hfr := HK.out.free ho
      replace HP := Lib.hid (HP.out.same hbb)
      replace HQ := Lib.hid (HQ.out.same hbb)
      replace HM := Lib.hid (HM.out.same hbb)
      replace S12 := Lib.hid (S12.out.same hbb)
      replace S13 := Lib.hid (S13.out.same hbb)
      replace HB := Lib.hid (HB.out.trans (hbb.mono HK.out.old.1))
      replace HK := Lib.hid (HK.out.below hbb)
      obtain ⟨M14, hM⟩ : ∃ M, M = z14.length := ⟨_, rfl⟩
      have ho1 := ho.1
      rw [← hM] at ho1 hfr ⊢
      have V := Lib.hid (And.intro ho1 (And.intro hfr hzl))
      clear C ho ho1 hM hfr hzl hbb
      clear S12 S13
      have C := Lib.hid (HK.out.keep V.out.1 V.out.2.1 (by have := V.out.2.2; omega))
      go_wp2_with fail
      (with_reducible refine C.out.mono ?_)
      rintro e w15 ⟨rfl, r15, hk, hex, her, hch, hbb⟩
      replace HP := Lib.hid (HP.out.lent (by simp) hch hex)
      replace HQ := Lib.hid (HQ.out.lent (by simp) hch hex)
      replace HM := Lib.hid (HM.out.lent (by simp) hch hex)
      replace HB := Lib.hid (HB.out.trans hbb)
      replace HK := Lib.hid hk
      clear C hk hex her hch hbb V
      have C := Lib.hid (HK.out.lend HP.out.1.rd HP.out.1.1 (by have := HL.out; omega) (by have := HKB.out; omega))
      go_wp2_with fail
      (with_reducible refine C.out.mono ?_)
      rintro e w16 ⟨r16, g16, c16, j16, rfl, s8, hk, her, hch, hbb⟩
      have hex := HK.out.ext her
      replace HP := Lib.hid (HP.out.lent (by simp) hch hex)
      replace HQ := Lib.hid (HQ.out.lent (by simp) hch hex)
      replace HM := Lib.hid (HM.out.lent (by simp) hch hex)
      have S16 := Lib.hid s8
      replace HB := Lib.hid (HB.out.trans hbb)
      replace HK := Lib.hid hk
      clear C s8 hk her hch hbb hex
      have C := Lib.hid (HK.out.lend0 (by have := HKB.out; omega))
      go_wp2_with fail
      (with_reducible refine C.out.mono ?_)
      rintro e w17 ⟨r17, g17, c17, j17, rfl, s8, hk, her, hch, hbb⟩
      have hex := HK.out.ext her
      replace HP := Lib.hid (HP.out.lent (by simp) hch hex)
      replace HQ := Lib.hid (HQ.out.lent (by simp) hch hex)
      replace HM := Lib.hid (HM.out.lent (by simp) hch hex)
      replace S16 := Lib.hid (S16.out.lent (by simp) hch hex)
      have S17 := Lib.hid s8
      replace HB := Lib.hid (HB.out.trans hbb)
      replace HK := Lib.hid hk
      clear C s8 hk her hch hbb hex
      have C0 := sub_any S16.out.1.rd S17.out.1.rd S16.out.1.1 S17.out.1.1 (by have := HL.out; omega) (by simp)
      have C : Hid (Calls Try.prog 12 #[.slice (some ⟨g16, 0, none⟩) p.length c16, .slice (some ⟨g17, 0, none⟩) 0 c17] w17 (OwnOneB w17)) := C0
      clear C0
      go_wp2_with fail
      (with_reducible refine C.out.mono ?_)
      rintro e w18 ⟨v18, b18, z18, rfl, ho, hzl, hbb⟩
      obtain ⟨A18, c18, rfl⟩ := ho.1.form
      have hfr := HK.out.free ho
      replace HP := Lib.hid (HP.out.same hbb)
      replace HQ := Lib.hid (HQ.out.same hbb)
      replace HM := Lib.hid (HM.out.same hbb)
      replace S16 := Lib.hid (S16.out.same hbb)
      replace S17 := Lib.hid (S17.out.same hbb)
      replace HB := Lib.hid (HB.out.trans (hbb.mono HK.out.old.1))
      replace HK := Lib.hid (HK.out.below hbb)
      obtain ⟨M18, hM⟩ : ∃ M, M = z18.length := ⟨_, rfl⟩
      have ho1 := ho.1
      rw [← hM] at ho1 hfr ⊢
      have V := Lib.hid (And.intro ho1 (And.intro hfr hzl))
      clear C ho ho1 hM hfr hzl hbb
      clear S16 S17
      have C := Lib.hid (HK.out.keep V.out.1 V.out.2.1 (by have := V.out.2.2; omega))
      go_wp2_with fail
      (with_reducible refine C.out.mono ?_)
      rintro e w19 ⟨rfl, r19, hk, hex, her, hch, hbb⟩
      replace HP := Lib.hid (HP.out.lent (by simp) hch hex)
      replace HQ := Lib.hid (HQ.out.lent (by simp) hch hex)
      replace HM := Lib.hid (HM.out.lent (by simp) hch hex)
      replace HB := Lib.hid (HB.out.trans hbb)
      replace HK := Lib.hid hk
      clear C hk hex her hch hbb V
      have C := Lib.hid (HK.out.lend HP.out.1.rd HP.out.1.1 (by have := HL.out; omega) (by have := HKB.out; omega))
      go_wp2_with fail
      (with_reducible refine C.out.mono ?_)
      rintro e w20 ⟨r20, g20, c20, j20, rfl, s8, hk, her, hch, hbb⟩
      have hex := HK.out.ext her
      replace HP := Lib.hid (HP.out.lent (by simp) hch hex)
      replace HQ := Lib.hid (HQ.out.lent (by simp) hch hex)
      replace HM := Lib.hid (HM.out.lent (by simp) hch hex)
      have S20 := Lib.hid s8
      replace HB := Lib.hid (HB.out.trans hbb)
      replace HK := Lib.hid hk
      clear C s8 hk her hch hbb hex
      have C := Lib.hid (HK.out.lend1 (by have := HKB.out; omega))
      go_wp2_with fail
      (with_reducible refine C.out.mono ?_)
      rintro e w21 ⟨r21, g21, c21, j21, rfl, s8, hk, her, hch, hbb⟩
      have hex := HK.out.ext her
      replace HP := Lib.hid (HP.out.lent (by simp) hch hex)
      replace HQ := Lib.hid (HQ.out.lent (by simp) hch hex)
      replace HM := Lib.hid (HM.out.lent (by simp) hch hex)
      replace S20 := Lib.hid (S20.out.lent (by simp) hch hex)
      have S21 := Lib.hid s8
      replace HB := Lib.hid (HB.out.trans hbb)
      replace HK := Lib.hid hk
      clear C s8 hk her hch hbb hex
      have C0 := mul_any S20.out.1.rd S21.out.1.rd S20.out.1.1 S21.out.1.1 (by have := HL.out; omega) (by simp)
      have C : Hid (Calls Try.prog 13 #[.slice (some ⟨g20, 0, none⟩) p.length c20, .slice (some ⟨g21, 0, none⟩) 1 c21] w21 (OwnOne w21)) := C0
      clear C0
      go_wp2_with fail
      (with_reducible refine C.out.mono ?_)
      rintro e w22 ⟨v22, z22, rfl, ho, hzl, hbb⟩
      obtain ⟨A22, c22, rfl⟩ := ho.1.form
      have hfr := HK.out.free ho
      replace HP := Lib.hid (HP.out.same hbb)
      replace HQ := Lib.hid (HQ.out.same hbb)
      replace HM := Lib.hid (HM.out.same hbb)
      replace S20 := Lib.hid (S20.out.same hbb)
      replace S21 := Lib.hid (S21.out.same hbb)
      replace HB := Lib.hid (HB.out.trans (hbb.mono HK.out.old.1))
      replace HK := Lib.hid (HK.out.below hbb)
      obtain ⟨M22, hM⟩ : ∃ M, M = z22.length := ⟨_, rfl⟩
      have ho1 := ho.1
      rw [← hM] at ho1 hfr ⊢
      have V := Lib.hid (And.intro ho1 (And.intro hfr hzl))
      clear C ho ho1 hM hfr hzl hbb
      clear S20 S21
      have C := Lib.hid (HK.out.keep V.out.1 V.out.2.1 (by have := V.out.2.2; omega))
      go_wp2_with fail
      (with_reducible refine C.out.mono ?_)
      rintro e w23 ⟨rfl, r23, hk, hex, her, hch, hbb⟩
      replace HP := Lib.hid (HP.out.lent (by simp) hch hex)
      replace HQ := Lib.hid (HQ.out.lent (by simp) hch hex)
      replace HM := Lib.hid (HM.out.lent (by simp) hch hex)
      replace HB := Lib.hid (HB.out.trans hbb)
      replace HK := Lib.hid hk
      clear C hk hex her hch hbb V
      have C := Lib.hid (HK.out.lend HP.out.1.rd HP.out.1.1 (by have := HL.out; omega) (by have := HKB.out; omega))
      go_wp2_with fail
      (with_reducible refine C.out.mono ?_)
      rintro e w24 ⟨r24, g24, c24, j24, rfl, s8, hk, her, hch, hbb⟩
      have hex := HK.out.ext her
      replace HP := Lib.hid (HP.out.lent (by simp) hch hex)
      replace HQ := Lib.hid (HQ.out.lent (by simp) hch hex)
      replace HM := Lib.hid (HM.out.lent (by simp) hch hex)
      have S24 := Lib.hid s8
      replace HB := Lib.hid (HB.out.trans hbb)
      replace HK := Lib.hid hk
      clear C s8 hk her hch hbb hex
      have C := Lib.hid (HK.out.lend HQ.out.1.rd HQ.out.1.1 (by have := HL.out; omega) (by have := HKB.out; omega))
      go_wp2_with fail
      (with_reducible refine C.out.mono ?_)
      rintro e w25 ⟨r25, g25, c25, j25, rfl, s8, hk, her, hch, hbb⟩
      have hex := HK.out.ext her
      replace HP := Lib.hid (HP.out.lent (by simp) hch hex)
      replace HQ := Lib.hid (HQ.out.lent (by simp) hch hex)
      replace HM := Lib.hid (HM.out.lent (by simp) hch hex)
      replace S24 := Lib.hid (S24.out.lent (by simp) hch hex)
      have S25 := Lib.hid s8
      replace HB := Lib.hid (HB.out.trans hbb)
      replace HK := Lib.hid hk
      clear C s8 hk her hch hbb hex
      have C := Lib.hid (dm_any S24.out.1.rd S25.out.1.rd S24.out.1.1 S25.out.1.1 (by have := HL.out; omega) (by have := HL.out; omega))
      go_wp2_with fail
      (with_reducible refine C.out.mono ?_)
      rintro e w26 ⟨u26, v26, b26, y26, z26, rfl, ho, hyl, ho2, hzl, hne, hbb⟩
      obtain ⟨A26, c26, rfl⟩ := ho.1.form
      obtain ⟨B26, d26, rfl⟩ := ho2.1.form
      have hfr := HK.out.free ho
      have hfr2 := HK.out.free ho2
      replace HP := Lib.hid (HP.out.same hbb)
      replace HQ := Lib.hid (HQ.out.same hbb)
      replace HM := Lib.hid (HM.out.same hbb)
      replace S24 := Lib.hid (S24.out.same hbb)
      replace S25 := Lib.hid (S25.out.same hbb)
      replace HB := Lib.hid (HB.out.trans (hbb.mono HK.out.old.1))
      replace HK := Lib.hid (HK.out.below hbb)
      obtain ⟨M26, hM⟩ : ∃ M, M = y26.length := ⟨_, rfl⟩
      obtain ⟨N26, hN⟩ : ∃ M, M = z26.length := ⟨_, rfl⟩
      have ho1 := ho.1
      have ho3 := ho2.1
      rw [← hM] at ho1 hfr hne ⊢
      rw [← hN] at ho3 hfr2 hne ⊢
      have V := Lib.hid (And.intro ho1 (And.intro hfr hyl))
      have V2 := Lib.hid (And.intro ho3 (And.intro hfr2 hzl))
      have HNE := Lib.hid hne
      clear C ho ho1 hM hfr hyl hbb ho2 ho3 hN hfr2 hzl hne
      clear S24 S25
      have C := Lib.hid (HK.out.keep V.out.1 V.out.2.1 (by have := V.out.2.2; omega))
      go_wp2_with fail
      (with_reducible refine C.out.mono ?_)
      rintro e w27 ⟨rfl, r27, hk, hex, her, hch, hbb⟩
      replace HP := Lib.hid (HP.out.lent (by simp) hch hex)
      replace HQ := Lib.hid (HQ.out.lent (by simp) hch hex)
      replace HM := Lib.hid (HM.out.lent (by simp) hch hex)
      have hst := free_still V2.out.1 V2.out.2.1 HNE.out her hch
      replace V2 := Lib.hid (And.intro hst.1 (And.intro hst.2 V2.out.2.2))
      clear hst HNE
      replace HB := Lib.hid (HB.out.trans hbb)
      replace HK := Lib.hid hk
      clear C hk hex her hch hbb V
      have C := Lib.hid (HK.out.keep V2.out.1 V2.out.2.1 (by have := V2.out.2.2; omega))
      go_wp2_with fail
      (with_reducible refine C.out.mono ?_)
      rintro e w28 ⟨rfl, r28, hk, hex, her, hch, hbb⟩
      replace HP := Lib.hid (HP.out.lent (by simp) hch hex)
      replace HQ := Lib.hid (HQ.out.lent (by simp) hch hex)
      replace HM := Lib.hid (HM.out.lent (by simp) hch hex)
      replace HB := Lib.hid (HB.out.trans hbb)
      replace HK := Lib.hid hk
      clear C hk hex her hch hbb V2
      have C := Lib.hid (HK.out.lend HM.out.1.rd HM.out.1.1 (by have := HL.out; omega) (by have := HKB.out; omega))
      go_wp2_with fail
      (with_reducible refine C.out.mono ?_)
      rintro e w29 ⟨r29, g29, c29, j29, rfl, s8, hk, her, hch, hbb⟩
      have hex := HK.out.ext her
      replace HP := Lib.hid (HP.out.lent (by simp) hch hex)
      replace HQ := Lib.hid (HQ.out.lent (by simp) hch hex)
      replace HM := Lib.hid (HM.out.lent (by simp) hch hex)
      have S29 := Lib.hid s8
      replace HB := Lib.hid (HB.out.trans hbb)
      replace HK := Lib.hid hk
      clear C s8 hk her hch hbb hex
      have C := Lib.hid (HK.out.lend1 (by have := HKB.out; omega))
      go_wp2_with fail
      (with_reducible refine C.out.mono ?_)
      rintro e w30 ⟨r30, g30, c30, j30, rfl, s8, hk, her, hch, hbb⟩
      have hex := HK.out.ext her
      replace HP := Lib.hid (HP.out.lent (by simp) hch hex)
      replace HQ := Lib.hid (HQ.out.lent (by simp) hch hex)
      replace HM := Lib.hid (HM.out.lent (by simp) hch hex)
      replace S29 := Lib.hid (S29.out.lent (by simp) hch hex)
      have S30 := Lib.hid s8
      replace HB := Lib.hid (HB.out.trans hbb)
      replace HK := Lib.hid hk
      clear C s8 hk her hch hbb hex
      have C := Lib.hid (HK.out.lend HM.out.1.rd HM.out.1.1 (by have := HL.out; omega) (by have := HKB.out; omega))
      go_wp2_with fail
      (with_reducible refine C.out.mono ?_)
      rintro e w31 ⟨r31, g31, c31, j31, rfl, s8, hk, her, hch, hbb⟩
      have hex := HK.out.ext her
      replace HP := Lib.hid (HP.out.lent (by simp) hch hex)
      replace HQ := Lib.hid (HQ.out.lent (by simp) hch hex)
      replace HM := Lib.hid (HM.out.lent (by simp) hch hex)
      replace S29 := Lib.hid (S29.out.lent (by simp) hch hex)
      replace S30 := Lib.hid (S30.out.lent (by simp) hch hex)
      have S31 := Lib.hid s8
      replace HB := Lib.hid (HB.out.trans hbb)
      replace HK := Lib.hid hk
      clear C s8 hk her hch hbb hex
      have C0 := exp_any S29.out.1.rd S30.out.1.rd S31.out.1.rd S29.out.1.1 S30.out.1.1 S31.out.1.1 (by have := HL.out; omega) (by simp) (by have := HL.out; omega)
      have C : Hid (Calls Try.prog 15 #[.slice (some ⟨g29, 0, none⟩) m.length c29, .slice (some ⟨g30, 0, none⟩) 1 c30, .slice (some ⟨g31, 0, none⟩) m.length c31] w31 (OwnOne w31)) := C0
      clear C0
      go_wp2_with fail
      (with_reducible refine C.out.mono ?_)
      rintro e w32 ⟨v32, z32, rfl, ho, hzl, hbb⟩
      obtain ⟨A32, c32, rfl⟩ := ho.1.form
      have hfr := HK.out.free ho
      replace HP := Lib.hid (HP.out.same hbb)
      replace HQ := Lib.hid (HQ.out.same hbb)
      replace HM := Lib.hid (HM.out.same hbb)
      replace S29 := Lib.hid (S29.out.same hbb)
      replace S30 := Lib.hid (S30.out.same hbb)
      replace S31 := Lib.hid (S31.out.same hbb)
      replace HB := Lib.hid (HB.out.trans (hbb.mono HK.out.old.1))
      replace HK := Lib.hid (HK.out.below hbb)
      obtain ⟨M32, hM⟩ : ∃ M, M = z32.length := ⟨_, rfl⟩
      have ho1 := ho.1
      rw [← hM] at ho1 hfr ⊢
      have V := Lib.hid (And.intro ho1 (And.intro hfr hzl))
      clear C ho ho1 hM hfr hzl hbb
      clear S29 S30 S31
      have C := Lib.hid (HK.out.keep V.out.1 V.out.2.1 (by have := V.out.2.2; omega))
      go_wp2_with fail
      (with_reducible refine C.out.mono ?_)
      rintro e w33 ⟨rfl, r33, hk, hex, her, hch, hbb⟩
      replace HP := Lib.hid (HP.out.lent (by simp) hch hex)
      replace HQ := Lib.hid (HQ.out.lent (by simp) hch hex)
      replace HM := Lib.hid (HM.out.lent (by simp) hch hex)
      replace HB := Lib.hid (HB.out.trans hbb)
      replace HK := Lib.hid hk
      clear C hk hex her hch hbb V
      have C := Lib.hid (HK.out.lend HP.out.1.rd HP.out.1.1 (by have := HL.out; omega) (by have := HKB.out; omega))
      go_wp2_with fail
      (with_reducible refine C.out.mono ?_)
      rintro e w34 ⟨r34, g34, c34, j34, rfl, s8, hk, her, hch, hbb⟩
      have hex := HK.out.ext her
      replace HP := Lib.hid (HP.out.lent (by simp) hch hex)
      replace HQ := Lib.hid (HQ.out.lent (by simp) hch hex)
      replace HM := Lib.hid (HM.out.lent (by simp) hch hex)
      have S34 := Lib.hid s8
      replace HB := Lib.hid (HB.out.trans hbb)
      replace HK := Lib.hid hk
      clear C s8 hk her hch hbb hex
      have C := Lib.hid (fill_any S34.out.1.rd S34.out.1.1 (by have := HL.out; omega))
      go_wp2_with fail
      (with_reducible refine C.out.mono ?_)
      rintro e w35 ⟨v35, b35, z35, rfl, ho, hzl, hbb⟩
      obtain ⟨A35, c35, rfl⟩ := ho.1.form
      have hfr := HK.out.free ho
      replace HP := Lib.hid (HP.out.same hbb)
      replace HQ := Lib.hid (HQ.out.same hbb)
      replace HM := Lib.hid (HM.out.same hbb)
      replace S34 := Lib.hid (S34.out.same hbb)
      replace HB := Lib.hid (HB.out.trans (hbb.mono HK.out.old.1))
      replace HK := Lib.hid (HK.out.below hbb)
      obtain ⟨M35, hM⟩ : ∃ M, M = z35.length := ⟨_, rfl⟩
      have ho1 := ho.1
      rw [← hM] at ho1 hfr ⊢
      have V := Lib.hid (And.intro ho1 (And.intro hfr hzl))
      clear C ho ho1 hM hfr hzl hbb
      clear S34
      have C := Lib.hid (HK.out.keep V.out.1 V.out.2.1 (by have := V.out.2.2; omega))
      go_wp2_with fail
      (with_reducible refine C.out.mono ?_)
      rintro e w36 ⟨rfl, r36, hk, hex, her, hch, hbb⟩
      replace HP := Lib.hid (HP.out.lent (by simp) hch hex)
      replace HQ := Lib.hid (HQ.out.lent (by simp) hch hex)
      replace HM := Lib.hid (HM.out.lent (by simp) hch hex)
      replace HB := Lib.hid (HB.out.trans hbb)
      replace HK := Lib.hid hk
      clear C hk hex her hch hbb V
      have C := Lib.hid (HK.out.lend HP.out.1.rd HP.out.1.1 (by have := HL.out; omega) (by have := HKB.out; omega))
      go_wp2_with fail
      (with_reducible refine C.out.mono ?_)
      rintro e w37 ⟨r37, g37, c37, j37, rfl, s8, hk, her, hch, hbb⟩
      have hex := HK.out.ext her
      replace HP := Lib.hid (HP.out.lent (by simp) hch hex)
      replace HQ := Lib.hid (HQ.out.lent (by simp) hch hex)
      replace HM := Lib.hid (HM.out.lent (by simp) hch hex)
      have S37 := Lib.hid s8
      replace HB := Lib.hid (HB.out.trans hbb)
      replace HK := Lib.hid hk
      clear C s8 hk her hch hbb hex
      have C := Lib.hid (HK.out.lend HQ.out.1.rd HQ.out.1.1 (by have := HL.out; omega) (by have := HKB.out; omega))
      go_wp2_with fail
      (with_reducible refine C.out.mono ?_)
      rintro e w38 ⟨r38, g38, c38, j38, rfl, s8, hk, her, hch, hbb⟩
      have hex := HK.out.ext her
      replace HP := Lib.hid (HP.out.lent (by simp) hch hex)
      replace HQ := Lib.hid (HQ.out.lent (by simp) hch hex)
      replace HM := Lib.hid (HM.out.lent (by simp) hch hex)
      replace S37 := Lib.hid (S37.out.lent (by simp) hch hex)
      have S38 := Lib.hid s8
      replace HB := Lib.hid (HB.out.trans hbb)
      replace HK := Lib.hid hk
      clear C s8 hk her hch hbb hex
      have C := Lib.hid (cmp_any S37.out.1.rd S38.out.1.rd S37.out.1.1 S38.out.1.1 (by have := HL.out; omega) (by have := HL.out; omega))
      go_wp2_with fail
      (with_reducible refine C.out.mono ?_)
      rintro e w39 ⟨⟨z39, rfl⟩, rfl⟩
      clear C
      clear S37 S38
      have C := Lib.hid (HK.out.lend HP.out.1.rd HP.out.1.1 (by have := HL.out; omega) (by have := HKB.out; omega))
      go_wp2_with fail
      (with_reducible refine C.out.mono ?_)
      rintro e w40 ⟨r40, g40, c40, j40, rfl, s8, hk, her, hch, hbb⟩
      have hex := HK.out.ext her
      replace HP := Lib.hid (HP.out.lent (by simp) hch hex)
      replace HQ := Lib.hid (HQ.out.lent (by simp) hch hex)
      replace HM := Lib.hid (HM.out.lent (by simp) hch hex)
      have S40 := Lib.hid s8
      replace HB := Lib.hid (HB.out.trans hbb)
      replace HK := Lib.hid hk
      clear C s8 hk her hch hbb hex
      have C := Lib.hid (bits_any S40.out.1.rd S40.out.1.1 (by have := HL.out; omega))
      go_wp2_with fail
      (with_reducible refine C.out.mono ?_)
      rintro e w41 ⟨⟨z41, rfl⟩, rfl⟩
      clear C
      clear S40
      have C := Lib.hid (HK.out.lend HP.out.1.rd HP.out.1.1 (by have := HL.out; omega) (by have := HKB.out; omega))
      go_wp2_with fail
      (with_reducible refine C.out.mono ?_)
      rintro e w42 ⟨r42, g42, c42, j42, rfl, s8, hk, her, hch, hbb⟩
      have hex := HK.out.ext her
      replace HP := Lib.hid (HP.out.lent (by simp) hch hex)
      replace HQ := Lib.hid (HQ.out.lent (by simp) hch hex)
      replace HM := Lib.hid (HM.out.lent (by simp) hch hex)
      have S42 := Lib.hid s8
      replace HB := Lib.hid (HB.out.trans hbb)
      replace HK := Lib.hid hk
      clear C s8 hk her hch hbb hex
      have C := Lib.hid (bit_any S42.out.1.rd S42.out.1.1 (by have := HL.out; omega))
      go_wp2_with fail
      (with_reducible refine C.out.mono ?_)
      rintro e w43 ⟨⟨z43, rfl⟩, rfl⟩
      clear C
      clear S42
      have ej : IntKind.i64.wrap ((j : Int) + 1) = (j : Int) + 1 := IntWalk.i64_in _ (by have := HJ.out; omega)
      go_wp2_with fail
      exact ⟨⟨j + 1, _, _, HJ.out, by simp, by have := HKB.out; show _ ≤ _; omega, HK.out, HB.out⟩, by simp [intOf]; have := HJ.out; omega⟩
    · have hj1 : ¬ ((j : Int) < 2) := by omega
      have C1 := Lib.hid (hk.out.back (by have := hkj.out; omega))
      have HBB := Lib.hid hb.out
      have HO := Lib.hid hk.out.old.1
      clear hk hb hj2 hkj hj HKK HBW RA RB RM HX FP FQ FM
      go_wp2_with fail
      (with_reducible refine C1.out.mono ?_)
      rintro e w1 ⟨rfl, hb1, hc1⟩
      have C2 := Lib.hid hc1
      have HB1 := Lib.hid (HBB.out.trans hb1)
      clear hb1 hc1 C1 HBB
      go_wp2_with fail
      (with_reducible refine C2.out.mono ?_)
      rintro e w2 ⟨rfl, hb2⟩
      have HB2 := Lib.hid (HB1.out.trans hb2)
      clear hb2 C2 HB1
      go_wp2_with fail
      (with_reducible refine (nwakes_c _).mono ?_)
      rintro e w5 ⟨rfl, hb5⟩
      have HB5 := Lib.hid (HW.out.trans ((HB2.out.trans (hb5.mono (by have := HB2.out.size; rw [HXS.out] at this; exact this))).mono (Nat.le_succ _)))
      clear hb5 HB2
      go_wp2_with fail
      go_ret
      exact ⟨rfl, HB5.out⟩
end Go.Proofs.Ytakojlgoelbjmaa
