/- The law NatWhole, by the contracts of its callees. -/
import Derived.Test.YtkalmmpgcgempaaNFrame
namespace Go.Proofs.Ytkalmmpgcgempaa
open Go.RowKit

set_option maxRecDepth 100000 in
set_option maxHeartbeats 12800000 in
theorem whole_pos {A B M : Option Addr} {ca cb cm : Nat} {i wide : Int} {xs ys zs : List Nat} (w : World) (hA : Rd .u8 w A ca xs) (dA : Ds 256 xs) (hB : Rd .u8 w B cb ys) (dB : Ds 256 ys) (hM : Rd .u8 w M cm zs) (dM : Ds 256 zs) (h0 : 0 < nv (ys.take 600)) :
    Calls Try.prog 15 #[.agg #[.slice A xs.length ca, .slice B ys.length cb, .slice M zs.length cm, .int .i64 i, .int .i64 wide]] w (RetV (.bool true) w) := by
  have ltp : nv (xs.take 600) < 256 ^ 600 := nv_take dA 600
  have ltq : nv (ys.take 600) < 256 ^ 600 := nv_take dB 600
  have ltr : nv (zs.take 600) < 256 ^ 600 := nv_take dM 600
  obtain ⟨p, hp⟩ : ∃ zz, zz = xs.take 600 := ⟨_, rfl⟩
  have hlp : p.length ≤ 600 := by rw [hp, List.length_take]; omega
  have ffp : ∀ (w : World) {u : Value}, Byt w u xs → Calls Try.prog 75 #[u] w (RetR (fun w' v => Byt w' v p) w) := fun w u h => by rw [hp]; exact few_v w h
  have HLp := Lib.hid hlp
  have FFp := Lib.hid ffp
  have Hp := Lib.hid hp
  clear hlp ffp hp
  obtain ⟨q, hq⟩ : ∃ zz, zz = ys.take 600 := ⟨_, rfl⟩
  have hlq : q.length ≤ 600 := by rw [hq, List.length_take]; omega
  have ffq : ∀ (w : World) {u : Value}, Byt w u ys → Calls Try.prog 75 #[u] w (RetR (fun w' v => Byt w' v q) w) := fun w u h => by rw [hq]; exact few_v w h
  have HLq := Lib.hid hlq
  have FFq := Lib.hid ffq
  have Hq := Lib.hid hq
  clear hlq ffq hq
  obtain ⟨r, hr⟩ : ∃ zz, zz = zs.take 600 := ⟨_, rfl⟩
  have hlr : r.length ≤ 600 := by rw [hr, List.length_take]; omega
  have ffr : ∀ (w : World) {u : Value}, Byt w u zs → Calls Try.prog 75 #[u] w (RetR (fun w' v => Byt w' v r) w) := fun w u h => by rw [hr]; exact few_v w h
  have HLr := Lib.hid hlr
  have FFr := Lib.hid ffr
  have Hr := Lib.hid hr
  clear hlr ffr hr
  rw [← Hp.out] at ltp
  rw [← Hq.out] at ltq
  rw [← Hr.out] at ltr
  obtain ⟨S, hS⟩ : ∃ zz, zz = nb (nv p + nv q) := ⟨_, rfl⟩
  have nS : nv S = nv p + nv q := by rw [hS, nv_nb]
  have hlS : S.length ≤ 2401 := by rw [hS]; exact nb_le256 (lt_add256 ltp ltq) (by decide)
  have HLS := Lib.hid hlS
  obtain ⟨T, hT⟩ : ∃ zz, zz = nb (nv q + nv r) := ⟨_, rfl⟩
  have nT : nv T = nv q + nv r := by rw [hT, nv_nb]
  have hlT : T.length ≤ 2401 := by rw [hT]; exact nb_le256 (lt_add256 ltq ltr) (by decide)
  have HLT := Lib.hid hlT
  obtain ⟨U, hU⟩ : ∃ zz, zz = nb (nv p * nv q) := ⟨_, rfl⟩
  have nU : nv U = nv p * nv q := by rw [hU, nv_nb]
  have hlU : U.length ≤ 2401 := by rw [hU]; exact nb_le256 (lt_mul256 ltp ltq) (by decide)
  have HLU := Lib.hid hlU
  obtain ⟨V, hV⟩ : ∃ zz, zz = nb (nv p * nv r) := ⟨_, rfl⟩
  have nV : nv V = nv p * nv r := by rw [hV, nv_nb]
  have hlV : V.length ≤ 2401 := by rw [hV]; exact nb_le256 (lt_mul256 ltp ltr) (by decide)
  have HLV := Lib.hid hlV
  obtain ⟨X1, hX1⟩ : ∃ zz, zz = nb (nv p * (nv q + nv r)) := ⟨_, rfl⟩
  have nX1 : nv X1 = nv p * (nv q + nv r) := by rw [hX1, nv_nb]
  have hlX1 : X1.length ≤ 2401 := by rw [hX1]; exact nb_le256 (lt_mul256 ltp (lt_add256 ltq ltr)) (by decide)
  have HLX1 := Lib.hid hlX1
  obtain ⟨D, hD⟩ : ∃ zz, zz = nb (nv p) := ⟨_, rfl⟩
  have nD : nv D = nv p := by rw [hD, nv_nb]
  have hlD : D.length ≤ 2401 := by rw [hD]; exact nb_le256 ltp (by decide)
  have HLD := Lib.hid hlD
  obtain ⟨Q1, hQ1⟩ : ∃ zz, zz = nb (nv p / nv q) := ⟨_, rfl⟩
  have nQ1 : nv Q1 = nv p / nv q := by rw [hQ1, nv_nb]
  have hlQ1 : Q1.length ≤ 2401 := by rw [hQ1]; exact nb_le256 (Nat.lt_of_le_of_lt (Nat.div_le_self _ _) ltp) (by decide)
  have HLQ1 := Lib.hid hlQ1
  obtain ⟨R1, hR1⟩ : ∃ zz, zz = nb (nv p % nv q) := ⟨_, rfl⟩
  have nR1 : nv R1 = nv p % nv q := by rw [hR1, nv_nb]
  have hlR1 : R1.length ≤ 2401 := by rw [hR1]; exact nb_le256 (Nat.lt_of_le_of_lt (Nat.mod_le _ _) ltp) (by decide)
  have HLR1 := Lib.hid hlR1
  obtain ⟨Y1, hY1⟩ : ∃ zz, zz = nb (nv p / nv q * nv q) := ⟨_, rfl⟩
  have nY1 : nv Y1 = nv p / nv q * nv q := by rw [hY1, nv_nb]
  have hlY1 : Y1.length ≤ 2401 := by rw [hY1]; exact nb_le256 (Nat.lt_of_le_of_lt (Nat.div_mul_le_self _ _) ltp) (by decide)
  have HLY1 := Lib.hid hlY1
  have Ec1 : Hid (nb (nv p + nv q) = S) := by show _ = _; exact hS.symm
  have Ec2 : Hid (nb (nv S - nv q) = D) := by show _ = _; rw [nS, hD, Nat.add_sub_cancel]
  have Ec3 : Hid (nb (nv p) = D) := by show _ = _; exact hD.symm
  have Ec4 : Hid (nb (nv q + nv p) = S) := by show _ = _; rw [hS, Nat.add_comm]
  have Ec5 : Hid (nb (nv q + nv r) = T) := by show _ = _; exact hT.symm
  have Ec6 : Hid (nb (nv p * nv T) = X1) := by show _ = _; rw [nT, hX1]
  have Ec7 : Hid (nb (nv p * nv q) = U) := by show _ = _; exact hU.symm
  have Ec8 : Hid (nb (nv p * nv r) = V) := by show _ = _; exact hV.symm
  have Ec9 : Hid (nb (nv U + nv V) = X1) := by show _ = _; rw [nU, nV, hX1, Nat.mul_add]
  have Eca : Hid (nb (nv q * nv p) = U) := by show _ = _; rw [hU, Nat.mul_comm]
  have Ecb : Hid (nb (nv p / nv q) = Q1) := by show _ = _; exact hQ1.symm
  have Ecc : Hid (nb (nv p % nv q) = R1) := by show _ = _; exact hR1.symm
  have Ecd : Hid (nb (nv Q1 * nv q) = Y1) := by show _ = _; rw [nQ1, hY1]
  have Ece : Hid (nb (nv Y1 + nv R1) = D) := by show _ = _; rw [nY1, nR1, hD, Nat.div_add_mod']
  have HLE : Hid (nv q ≤ nv S) := by show _ ≤ _; rw [nS]; omega
  have HC1 : Hid (∀ w, (binOp .lss 3 (.int .i64 (ordI (nv S) (nv p))) (.int .i64 0)).run Try.prog w = .ok (.bool false) w) := ordI_pos (by rw [nS]; omega)
  have h1 := h0
  rw [← Hq.out] at h1
  have HPOS := Lib.hid h1
  have HC2 : Hid (∀ w, (binOp .lss 3 (.int .i64 (ordI (nv R1) (nv q))) (.int .i64 0)).run Try.prog w = .ok (.bool true) w) := ordI_neg (by rw [nR1]; exact Nat.mod_lt _ h1)
  clear h1
  clear h0 ltp ltq ltr hS nS hlS hT nT hlT hU nU hlU hV nV hlV hX1 nX1 hlX1 hD nD hlD hQ1 nQ1 hlQ1 hR1 nR1 hlR1 hY1 nY1 hlY1
  obtain ⟨L, hL⟩ : ∃ L, L = xs.length := ⟨_, rfl⟩
  obtain ⟨K, hK⟩ : ∃ K, K = ys.length := ⟨_, rfl⟩
  obtain ⟨J, hJ⟩ : ∃ J, J = zs.length := ⟨_, rfl⟩
  have rA : Byt w (.slice A L ca) xs := ⟨A, ca, by rw [hL], hA, dA⟩
  have rB : Byt w (.slice B K cb) ys := ⟨B, cb, by rw [hK], hB, dB⟩
  have rM : Byt w (.slice M J cm) zs := ⟨M, cm, by rw [hJ], hM, dM⟩
  rw [← hL, ← hK, ← hJ]
  have hW := (Below.refl w.heap.size w).alloc (Nat.le_refl _) (.cells #[.slice A L ca, .slice B K cb, .slice M J cm, .int .i64 i, .int .i64 wide] 51)
  have hx := Box5.new w (.slice A L ca) (.slice B K cb) (.slice M J cm) (.int .i64 i) (.int .i64 wide) 51
  have RA := Lib.hid (rA.below hW)
  have RB := Lib.hid (rB.below hW)
  have RM := Lib.hid (rM.below hW)
  have HX := Lib.hid hx
  have HW := Lib.hid hW
  clear hA dA hB dB hM dM hL hK hJ rA rB rM hW hx
  go_enter Try.func15, Try.ntmps15
  go_upto_region 1 with (fail)
  generalize hX : w.alloc (.cells #[.slice A L ca, .slice B K cb, .slice M J cm, .int .i64 i, .int .i64 wide] 51) = X at *
  clear hX
  refine wp_region_see 12 [11, 12, 13, 14, 15, 16, 17, 18, 19, 3, 4, 5] [(11, .is (.pointer (some ⟨w.heap.size, 0, none⟩))), (12, .byt (xs)), (13, .byt (p)), (14, .is (.pointer (some ⟨w.heap.size, 1, none⟩))), (15, .byt (ys)), (16, .byt (q)), (17, .is (.pointer (some ⟨w.heap.size, 2, none⟩))), (18, .byt (zs)), (19, .byt (r)), (3, .byt (p)), (4, .byt (q)), (5, .byt (r))] (by kernel_rfl) (by kernel_rfl) (by rfl) ?_ ?_
  · refine seeOps_cons ?_ (seeOps_cons ?_ (seeOps_cons ?_ (seeOps_cons ?_ (seeOps_cons ?_ (seeOps_cons ?_ (seeOps_cons ?_ (seeOps_cons ?_ (seeOps_cons ?_ (seeOps_cons ?_ (seeOps_cons ?_ (seeOps_cons ?_ seeOps_nil)))))))))))
    · intro w2 hb2 fr hout hin
      have h1 : fr.tmps.getD 1 undef = .pointer (some ⟨w.heap.size, 0, none⟩) := hout 1 (by decide)
      exact op_fieldN (.tmp 1) rfl (by decide) h1 (wanted_none rfl) rfl
    · intro w2 hb2 fr hout hin
      have h11 : fr.tmps.getD 11 undef = .pointer (some ⟨w.heap.size, 0, none⟩) := hin 11 (by decide) (by decide)
      exact op_load1 (.tmp 11) rfl (fun _ => by kernel_rfl) h11 ((HX.out.below hb2).c0) (wanted_none rfl) (RA.out.below hb2)
    · intro w2 hb2 fr hout hin
      have h12 : Byt w2 (fr.tmps.getD 12 undef) (xs) := hin 12 (by decide) (by decide)
      exact op_call1 (.tmp 12) rfl en_few (wanted_none rfl) (FFp.out _ h12) (fun _ _ h => h)
    · intro w2 hb2 fr hout hin
      have h1 : fr.tmps.getD 1 undef = .pointer (some ⟨w.heap.size, 0, none⟩) := hout 1 (by decide)
      exact op_fieldN (.tmp 1) rfl (by decide) h1 (wanted_none rfl) rfl
    · intro w2 hb2 fr hout hin
      have h14 : fr.tmps.getD 14 undef = .pointer (some ⟨w.heap.size, 1, none⟩) := hin 14 (by decide) (by decide)
      exact op_load1 (.tmp 14) rfl (fun _ => by kernel_rfl) h14 ((HX.out.below hb2).c1) (wanted_none rfl) (RB.out.below hb2)
    · intro w2 hb2 fr hout hin
      have h15 : Byt w2 (fr.tmps.getD 15 undef) (ys) := hin 15 (by decide) (by decide)
      exact op_call1 (.tmp 15) rfl en_few (wanted_none rfl) (FFq.out _ h15) (fun _ _ h => h)
    · intro w2 hb2 fr hout hin
      have h1 : fr.tmps.getD 1 undef = .pointer (some ⟨w.heap.size, 0, none⟩) := hout 1 (by decide)
      exact op_fieldN (.tmp 1) rfl (by decide) h1 (wanted_none rfl) rfl
    · intro w2 hb2 fr hout hin
      have h17 : fr.tmps.getD 17 undef = .pointer (some ⟨w.heap.size, 2, none⟩) := hin 17 (by decide) (by decide)
      exact op_load1 (.tmp 17) rfl (fun _ => by kernel_rfl) h17 ((HX.out.below hb2).c2) (wanted_none rfl) (RM.out.below hb2)
    · intro w2 hb2 fr hout hin
      have h18 : Byt w2 (fr.tmps.getD 18 undef) (zs) := hin 18 (by decide) (by decide)
      exact op_call1 (.tmp 18) rfl en_few (wanted_none rfl) (FFr.out _ h18) (fun _ _ h => h)
    · intro w2 hb2 fr hout hin
      have h13 : Byt w2 (fr.tmps.getD 13 undef) (p) := hin 13 (by decide) (by decide)
      exact relStep_assign (.tmp 13) rfl (wanted_none rfl) h13
    · intro w2 hb2 fr hout hin
      have h16 : Byt w2 (fr.tmps.getD 16 undef) (q) := hin 16 (by decide) (by decide)
      exact relStep_assign (.tmp 16) rfl (wanted_none rfl) h16
    · intro w2 hb2 fr hout hin
      have h19 : Byt w2 (fr.tmps.getD 19 undef) (r) := hin 19 (by decide) (by decide)
      exact relStep_assign (.tmp 19) rfl (wanted_none rfl) h19
  intro w1 hb1
  refine relAsk_in (by rfl) ?_
  intro v11 h11
  obtain rfl : v11 = .pointer (some ⟨w.heap.size, 0, none⟩) := h11
  refine relAsk_in (by rfl) ?_
  intro v12 h12
  refine relAsk_in (by rfl) ?_
  intro v13 h13
  refine relAsk_in (by rfl) ?_
  intro v14 h14
  obtain rfl : v14 = .pointer (some ⟨w.heap.size, 1, none⟩) := h14
  refine relAsk_in (by rfl) ?_
  intro v15 h15
  refine relAsk_in (by rfl) ?_
  intro v16 h16
  refine relAsk_in (by rfl) ?_
  intro v17 h17
  obtain rfl : v17 = .pointer (some ⟨w.heap.size, 2, none⟩) := h17
  refine relAsk_in (by rfl) ?_
  intro v18 h18
  refine relAsk_in (by rfl) ?_
  intro v19 h19
  refine relAsk_in (by rfl) ?_
  intro v3 h3
  refine relAsk_in (by rfl) ?_
  intro v4 h4
  refine relAsk_in (by rfl) ?_
  intro v5 h5
  refine relAsk_nil ?_
  have RA := Lib.hid (RA.out.below hb1)
  have RB := Lib.hid (RB.out.below hb1)
  have RM := Lib.hid (RM.out.below hb1)
  have HX := Lib.hid (HX.out.below hb1)
  have HW := Lib.hid (HW.out.trans (hb1.mono HW.out.size))
  have H3 : Hid (Byt w1 (v3) (p)) := h3
  have H4 : Hid (Byt w1 (v4) (q)) := h4
  have H5 : Hid (Byt w1 (v5) (r)) := h5
  clear h12 h13 h15 h16 h18 h19 h3 h4 h5 hb1
  refine wpList_nil ?_
  go_simp
  go_upto_region 2 with (fail)
  refine wp_region_seq 4 [20, 21, 22, 6] [(20, .byt (p)), (21, .byt (q)), (22, .byt (S)), (6, .byt (S))] (by kernel_rfl) (by rfl) ?_ ?_
  · refine seeOps_cons ?_ (seeOps_cons ?_ (seeOps_cons ?_ (seeOps_cons ?_ seeOps_nil)))
    · intro w2 hb2 fr hout hin
      have h3 : Byt w2 (fr.tmps.getD 3 undef) (p) := by
        have e : fr.tmps.getD 3 undef = v3 := hout 3 (by decide)
        rw [e]; exact H3.out.below hb2
      exact relStep_move (.tmp 3) rfl (wanted_none rfl) h3
    · intro w2 hb2 fr hout hin
      have h4 : Byt w2 (fr.tmps.getD 4 undef) (q) := by
        have e : fr.tmps.getD 4 undef = v4 := hout 4 (by decide)
        rw [e]; exact H4.out.below hb2
      exact relStep_move (.tmp 4) rfl (wanted_none rfl) h4
    · intro w2 hb2 fr hout hin
      have h20 : Byt w2 (fr.tmps.getD 20 undef) (p) := hin 20 (by decide) (by decide)
      have h21 : Byt w2 (fr.tmps.getD 21 undef) (q) := hin 21 (by decide) (by decide)
      exact op_call2 (.tmp 20) (.tmp 21) rfl en_add (wanted_none rfl) (by have k := (add_v _ h20 h21 (by have := HLp.out; omega) (by have := HLq.out; omega)); rw [Ec1.out] at k; exact k) (fun _ _ h => h)
    · intro w2 hb2 fr hout hin
      have h22 : Byt w2 (fr.tmps.getD 22 undef) (S) := hin 22 (by decide) (by decide)
      exact relStep_assign (.tmp 22) rfl (wanted_none rfl) h22
  intro w2 hb2
  refine relAsk_in (by rfl) ?_
  intro v20 h20
  refine relAsk_in (by rfl) ?_
  intro v21 h21
  refine relAsk_in (by rfl) ?_
  intro v22 h22
  refine relAsk_in (by rfl) ?_
  intro v6 h6
  refine relAsk_nil ?_
  have RA := Lib.hid (RA.out.below hb2)
  have RB := Lib.hid (RB.out.below hb2)
  have RM := Lib.hid (RM.out.below hb2)
  have HX := Lib.hid (HX.out.below hb2)
  have HW := Lib.hid (HW.out.trans (hb2.mono HW.out.size))
  have H3 := Lib.hid (H3.out.below hb2)
  have H4 := Lib.hid (H4.out.below hb2)
  have H5 := Lib.hid (H5.out.below hb2)
  have H6 : Hid (Byt w2 (v6) (S)) := h6
  clear h20 h21 h22 h6 hb2
  refine wpList_nil ?_
  go_simp
  go_upto_region 3 with (fail)
  refine wp_region_seq 8 [24, 25, 26, 23, 27, 28, 7, 8] [(24, .byt (S)), (25, .byt (q)), (26, .okB (D)), (23, .okB (D)), (27, .byt (D)), (28, .is (.bool true)), (7, .byt (D)), (8, .is (.bool true))] (by kernel_rfl) (by rfl) ?_ ?_
  · refine seeOps_cons ?_ (seeOps_cons ?_ (seeOps_cons ?_ (seeOps_cons ?_ (seeOps_cons ?_ (seeOps_cons ?_ (seeOps_cons ?_ (seeOps_cons ?_ seeOps_nil)))))))
    · intro w2 hb2 fr hout hin
      have h6 : Byt w2 (fr.tmps.getD 6 undef) (S) := by
        have e : fr.tmps.getD 6 undef = v6 := hout 6 (by decide)
        rw [e]; exact H6.out.below hb2
      exact relStep_move (.tmp 6) rfl (wanted_none rfl) h6
    · intro w2 hb2 fr hout hin
      have h4 : Byt w2 (fr.tmps.getD 4 undef) (q) := by
        have e : fr.tmps.getD 4 undef = v4 := hout 4 (by decide)
        rw [e]; exact H4.out.below hb2
      exact relStep_move (.tmp 4) rfl (wanted_none rfl) h4
    · intro w2 hb2 fr hout hin
      have h24 : Byt w2 (fr.tmps.getD 24 undef) (S) := hin 24 (by decide) (by decide)
      have h25 : Byt w2 (fr.tmps.getD 25 undef) (q) := hin 25 (by decide) (by decide)
      exact op_call2 (.tmp 24) (.tmp 25) rfl en_sub (wanted_none rfl) (by have k := (sub_v _ h24 h25 (by have := HLS.out; omega) (by have := HLq.out; omega) HLE.out); rw [Ec2.out] at k; exact k) (fun _ _ h => h)
    · intro w2 hb2 fr hout hin
      have h26 : OkB w2 (fr.tmps.getD 26 undef) (D) := hin 26 (by decide) (by decide)
      exact relStep_move (.tmp 26) rfl (wanted_none rfl) h26
    · intro w2 hb2 fr hout hin
      have h23 : OkB w2 (fr.tmps.getD 23 undef) (D) := hin 23 (by decide) (by decide)
      obtain ⟨x, e, hx⟩ := h23
      exact op_ext (.tmp 23) 0 rfl e rfl (wanted_none rfl) hx
    · intro w2 hb2 fr hout hin
      have h23 : OkB w2 (fr.tmps.getD 23 undef) (D) := hin 23 (by decide) (by decide)
      obtain ⟨x, e, hx⟩ := h23
      exact op_ext (.tmp 23) 1 rfl e rfl (wanted_none rfl) rfl
    · intro w2 hb2 fr hout hin
      have h27 : Byt w2 (fr.tmps.getD 27 undef) (D) := hin 27 (by decide) (by decide)
      exact relStep_assign (.tmp 27) rfl (wanted_none rfl) h27
    · intro w2 hb2 fr hout hin
      have h28 : fr.tmps.getD 28 undef = .bool true := hin 28 (by decide) (by decide)
      exact relStep_assign (.tmp 28) rfl (wanted_none rfl) h28
  intro w3 hb3
  refine relAsk_in (by rfl) ?_
  intro v24 h24
  refine relAsk_in (by rfl) ?_
  intro v25 h25
  refine relAsk_in (by rfl) ?_
  intro v26 h26
  refine relAsk_in (by rfl) ?_
  intro v23 h23
  refine relAsk_in (by rfl) ?_
  intro v27 h27
  refine relAsk_in (by rfl) ?_
  intro v28 h28
  obtain rfl : v28 = .bool true := h28
  refine relAsk_in (by rfl) ?_
  intro v7 h7
  refine relAsk_in (by rfl) ?_
  intro v8 h8
  obtain rfl : v8 = .bool true := h8
  refine relAsk_nil ?_
  have RA := Lib.hid (RA.out.below hb3)
  have RB := Lib.hid (RB.out.below hb3)
  have RM := Lib.hid (RM.out.below hb3)
  have HX := Lib.hid (HX.out.below hb3)
  have HW := Lib.hid (HW.out.trans (hb3.mono HW.out.size))
  have H3 := Lib.hid (H3.out.below hb3)
  have H4 := Lib.hid (H4.out.below hb3)
  have H5 := Lib.hid (H5.out.below hb3)
  have H6 := Lib.hid (H6.out.below hb3)
  have H7 : Hid (Byt w3 (v7) (D)) := h7
  clear h24 h25 h26 h23 h27 h7 hb3
  refine wpList_nil ?_
  go_simp
  go_upto_region 4 with (fail)
  refine wp_region_see 25 [29, 30, 31, 32, 33, 34, 35, 36, 37, 38, 39, 40, 41, 42, 43, 44, 45, 46, 47, 48, 49, 50, 51, 52, 53] [(29, .is (.bool true)), (30, .is (.bool false)), (31, .is (.bool false)), (32, .byt (D)), (33, .is (.string (sOf (D)))), (34, .byt (p)), (35, .byt (D)), (36, .is (.string (sOf (D)))), (37, .is (.bool false)), (38, .is (.bool false)), (39, .is (.bool false)), (40, .byt (S)), (41, .is (.string (sOf (S)))), (42, .byt (q)), (43, .byt (p)), (44, .byt (S)), (45, .is (.string (sOf (S)))), (46, .is (.bool false)), (47, .is (.bool false)), (48, .is (.bool false)), (49, .byt (S)), (50, .byt (p)), (51, .is (.int .i64 (ordI (nv S) (nv p)))), (52, .is (.bool false)), (53, .is (.bool false))] (by kernel_rfl) (by kernel_rfl) (by rfl) ?_ ?_
  · refine seeOps_cons ?_ (seeOps_cons ?_ (seeOps_cons ?_ (seeOps_cons ?_ (seeOps_cons ?_ (seeOps_cons ?_ (seeOps_cons ?_ (seeOps_cons ?_ (seeOps_cons ?_ (seeOps_cons ?_ (seeOps_cons ?_ (seeOps_cons ?_ (seeOps_cons ?_ (seeOps_cons ?_ (seeOps_cons ?_ (seeOps_cons ?_ (seeOps_cons ?_ (seeOps_cons ?_ (seeOps_cons ?_ (seeOps_cons ?_ (seeOps_cons ?_ (seeOps_cons ?_ (seeOps_cons ?_ (seeOps_cons ?_ (seeOps_cons ?_ seeOps_nil))))))))))))))))))))))))
    · intro w2 hb2 fr hout hin
      have h8 : fr.tmps.getD 8 undef = .bool true := hout 8 (by decide)
      exact relStep_move (.tmp 8) rfl (wanted_none rfl) h8
    · intro w2 hb2 fr hout hin
      have h29 : fr.tmps.getD 29 undef = .bool true := hin 29 (by decide) (by decide)
      exact op_not (.tmp 29) _ rfl h29 (wanted_none rfl) rfl
    · intro w2 hb2 fr hout hin
      have h30 : fr.tmps.getD 30 undef = .bool false := hin 30 (by decide) (by decide)
      exact relStep_move (.tmp 30) rfl (wanted_none rfl) h30
    · intro w2 hb2 fr hout hin
      have h31 : fr.tmps.getD 31 undef = .bool false := hin 31 (by decide) (by decide)
      have h7 : Byt w2 (fr.tmps.getD 7 undef) (D) := by
        have e : fr.tmps.getD 7 undef = v7 := hout 7 (by decide)
        rw [e]; exact H7.out.below hb2
      exact relStep_move (.tmp 7) rfl (wanted_some (g := 2) (t := 31) (b := false) rfl rfl h31) h7
    · intro w2 hb2 fr hout hin
      have h31 : fr.tmps.getD 31 undef = .bool false := hin 31 (by decide) (by decide)
      have h32 : Byt w2 (fr.tmps.getD 32 undef) (D) := hin 32 (by decide) (by decide)
      exact op_str (.tmp 32) rfl h32 (wanted_some (g := 2) (t := 31) (b := false) rfl rfl h31) rfl
    · intro w2 hb2 fr hout hin
      have h31 : fr.tmps.getD 31 undef = .bool false := hin 31 (by decide) (by decide)
      have h3 : Byt w2 (fr.tmps.getD 3 undef) (p) := by
        have e : fr.tmps.getD 3 undef = v3 := hout 3 (by decide)
        rw [e]; exact H3.out.below hb2
      exact relStep_move (.tmp 3) rfl (wanted_some (g := 2) (t := 31) (b := false) rfl rfl h31) h3
    · intro w2 hb2 fr hout hin
      have h31 : fr.tmps.getD 31 undef = .bool false := hin 31 (by decide) (by decide)
      have h34 : Byt w2 (fr.tmps.getD 34 undef) (p) := hin 34 (by decide) (by decide)
      exact op_call1 (.tmp 34) rfl en_trim (wanted_some (g := 2) (t := 31) (b := false) rfl rfl h31) (by have k := (trim_v _ h34 (by have := HLp.out; omega)); rw [Ec3.out] at k; exact k) (fun _ _ h => h)
    · intro w2 hb2 fr hout hin
      have h31 : fr.tmps.getD 31 undef = .bool false := hin 31 (by decide) (by decide)
      have h35 : Byt w2 (fr.tmps.getD 35 undef) (D) := hin 35 (by decide) (by decide)
      exact op_str (.tmp 35) rfl h35 (wanted_some (g := 2) (t := 31) (b := false) rfl rfl h31) rfl
    · intro w2 hb2 fr hout hin
      have h31 : fr.tmps.getD 31 undef = .bool false := hin 31 (by decide) (by decide)
      have h33 : fr.tmps.getD 33 undef = .string (sOf (D)) := hin 33 (by decide) (by decide)
      have h36 : fr.tmps.getD 36 undef = .string (sOf (D)) := hin 36 (by decide) (by decide)
      exact op_neS (.tmp 33) (.tmp 36) _ rfl h33 h36 (wanted_some (g := 2) (t := 31) (b := false) rfl rfl h31) rfl
    · intro w2 hb2 fr hout hin
      have h31 : fr.tmps.getD 31 undef = .bool false := hin 31 (by decide) (by decide)
      have h37 : fr.tmps.getD 37 undef = .bool false := hin 37 (by decide) (by decide)
      exact relStep_pickF (.tmp 31) (.const (.bool true)) (.tmp 37) rfl h31 (wanted_none rfl) h37
    · intro w2 hb2 fr hout hin
      have h38 : fr.tmps.getD 38 undef = .bool false := hin 38 (by decide) (by decide)
      exact relStep_move (.tmp 38) rfl (wanted_none rfl) h38
    · intro w2 hb2 fr hout hin
      have h39 : fr.tmps.getD 39 undef = .bool false := hin 39 (by decide) (by decide)
      have h6 : Byt w2 (fr.tmps.getD 6 undef) (S) := by
        have e : fr.tmps.getD 6 undef = v6 := hout 6 (by decide)
        rw [e]; exact H6.out.below hb2
      exact relStep_move (.tmp 6) rfl (wanted_some (g := 10) (t := 39) (b := false) rfl rfl h39) h6
    · intro w2 hb2 fr hout hin
      have h39 : fr.tmps.getD 39 undef = .bool false := hin 39 (by decide) (by decide)
      have h40 : Byt w2 (fr.tmps.getD 40 undef) (S) := hin 40 (by decide) (by decide)
      exact op_str (.tmp 40) rfl h40 (wanted_some (g := 10) (t := 39) (b := false) rfl rfl h39) rfl
    · intro w2 hb2 fr hout hin
      have h39 : fr.tmps.getD 39 undef = .bool false := hin 39 (by decide) (by decide)
      have h4 : Byt w2 (fr.tmps.getD 4 undef) (q) := by
        have e : fr.tmps.getD 4 undef = v4 := hout 4 (by decide)
        rw [e]; exact H4.out.below hb2
      exact relStep_move (.tmp 4) rfl (wanted_some (g := 10) (t := 39) (b := false) rfl rfl h39) h4
    · intro w2 hb2 fr hout hin
      have h39 : fr.tmps.getD 39 undef = .bool false := hin 39 (by decide) (by decide)
      have h3 : Byt w2 (fr.tmps.getD 3 undef) (p) := by
        have e : fr.tmps.getD 3 undef = v3 := hout 3 (by decide)
        rw [e]; exact H3.out.below hb2
      exact relStep_move (.tmp 3) rfl (wanted_some (g := 10) (t := 39) (b := false) rfl rfl h39) h3
    · intro w2 hb2 fr hout hin
      have h39 : fr.tmps.getD 39 undef = .bool false := hin 39 (by decide) (by decide)
      have h42 : Byt w2 (fr.tmps.getD 42 undef) (q) := hin 42 (by decide) (by decide)
      have h43 : Byt w2 (fr.tmps.getD 43 undef) (p) := hin 43 (by decide) (by decide)
      exact op_call2 (.tmp 42) (.tmp 43) rfl en_add (wanted_some (g := 10) (t := 39) (b := false) rfl rfl h39) (by have k := (add_v _ h42 h43 (by have := HLq.out; omega) (by have := HLp.out; omega)); rw [Ec4.out] at k; exact k) (fun _ _ h => h)
    · intro w2 hb2 fr hout hin
      have h39 : fr.tmps.getD 39 undef = .bool false := hin 39 (by decide) (by decide)
      have h44 : Byt w2 (fr.tmps.getD 44 undef) (S) := hin 44 (by decide) (by decide)
      exact op_str (.tmp 44) rfl h44 (wanted_some (g := 10) (t := 39) (b := false) rfl rfl h39) rfl
    · intro w2 hb2 fr hout hin
      have h39 : fr.tmps.getD 39 undef = .bool false := hin 39 (by decide) (by decide)
      have h41 : fr.tmps.getD 41 undef = .string (sOf (S)) := hin 41 (by decide) (by decide)
      have h45 : fr.tmps.getD 45 undef = .string (sOf (S)) := hin 45 (by decide) (by decide)
      exact op_neS (.tmp 41) (.tmp 45) _ rfl h41 h45 (wanted_some (g := 10) (t := 39) (b := false) rfl rfl h39) rfl
    · intro w2 hb2 fr hout hin
      have h39 : fr.tmps.getD 39 undef = .bool false := hin 39 (by decide) (by decide)
      have h46 : fr.tmps.getD 46 undef = .bool false := hin 46 (by decide) (by decide)
      exact relStep_pickF (.tmp 39) (.const (.bool true)) (.tmp 46) rfl h39 (wanted_none rfl) h46
    · intro w2 hb2 fr hout hin
      have h47 : fr.tmps.getD 47 undef = .bool false := hin 47 (by decide) (by decide)
      exact relStep_move (.tmp 47) rfl (wanted_none rfl) h47
    · intro w2 hb2 fr hout hin
      have h48 : fr.tmps.getD 48 undef = .bool false := hin 48 (by decide) (by decide)
      have h6 : Byt w2 (fr.tmps.getD 6 undef) (S) := by
        have e : fr.tmps.getD 6 undef = v6 := hout 6 (by decide)
        rw [e]; exact H6.out.below hb2
      exact relStep_move (.tmp 6) rfl (wanted_some (g := 19) (t := 48) (b := false) rfl rfl h48) h6
    · intro w2 hb2 fr hout hin
      have h48 : fr.tmps.getD 48 undef = .bool false := hin 48 (by decide) (by decide)
      have h3 : Byt w2 (fr.tmps.getD 3 undef) (p) := by
        have e : fr.tmps.getD 3 undef = v3 := hout 3 (by decide)
        rw [e]; exact H3.out.below hb2
      exact relStep_move (.tmp 3) rfl (wanted_some (g := 19) (t := 48) (b := false) rfl rfl h48) h3
    · intro w2 hb2 fr hout hin
      have h48 : fr.tmps.getD 48 undef = .bool false := hin 48 (by decide) (by decide)
      have h49 : Byt w2 (fr.tmps.getD 49 undef) (S) := hin 49 (by decide) (by decide)
      have h50 : Byt w2 (fr.tmps.getD 50 undef) (p) := hin 50 (by decide) (by decide)
      exact op_call2 (.tmp 49) (.tmp 50) rfl en_cmp (wanted_some (g := 19) (t := 48) (b := false) rfl rfl h48) (cmp_v _ h49 h50 (by have := HLS.out; omega) (by have := HLp.out; omega)) (fun _ _ h => h)
    · intro w2 hb2 fr hout hin
      have h48 : fr.tmps.getD 48 undef = .bool false := hin 48 (by decide) (by decide)
      have h51 : fr.tmps.getD 51 undef = .int .i64 (ordI (nv S) (nv p)) := hin 51 (by decide) (by decide)
      exact op_cmp .lss (.tmp 51) (.const (.int .i64 0)) _ rfl h51 rfl (HC1.out) (wanted_some (g := 19) (t := 48) (b := false) rfl rfl h48) rfl
    · intro w2 hb2 fr hout hin
      have h48 : fr.tmps.getD 48 undef = .bool false := hin 48 (by decide) (by decide)
      have h52 : fr.tmps.getD 52 undef = .bool false := hin 52 (by decide) (by decide)
      exact relStep_pickF (.tmp 48) (.const (.bool true)) (.tmp 52) rfl h48 (wanted_none rfl) h52
  intro w4 hb4
  refine relAsk_in (by rfl) ?_
  intro v29 h29
  obtain rfl : v29 = .bool true := h29
  refine relAsk_in (by rfl) ?_
  intro v30 h30
  obtain rfl : v30 = .bool false := h30
  refine relAsk_in (by rfl) ?_
  intro v31 h31
  obtain rfl : v31 = .bool false := h31
  refine relAsk_in (by rfl) ?_
  intro v32 h32
  refine relAsk_in (by rfl) ?_
  intro v33 h33
  obtain rfl : v33 = .string (sOf (D)) := h33
  refine relAsk_in (by rfl) ?_
  intro v34 h34
  refine relAsk_in (by rfl) ?_
  intro v35 h35
  refine relAsk_in (by rfl) ?_
  intro v36 h36
  obtain rfl : v36 = .string (sOf (D)) := h36
  refine relAsk_in (by rfl) ?_
  intro v37 h37
  obtain rfl : v37 = .bool false := h37
  refine relAsk_in (by rfl) ?_
  intro v38 h38
  obtain rfl : v38 = .bool false := h38
  refine relAsk_in (by rfl) ?_
  intro v39 h39
  obtain rfl : v39 = .bool false := h39
  refine relAsk_in (by rfl) ?_
  intro v40 h40
  refine relAsk_in (by rfl) ?_
  intro v41 h41
  obtain rfl : v41 = .string (sOf (S)) := h41
  refine relAsk_in (by rfl) ?_
  intro v42 h42
  refine relAsk_in (by rfl) ?_
  intro v43 h43
  refine relAsk_in (by rfl) ?_
  intro v44 h44
  refine relAsk_in (by rfl) ?_
  intro v45 h45
  obtain rfl : v45 = .string (sOf (S)) := h45
  refine relAsk_in (by rfl) ?_
  intro v46 h46
  obtain rfl : v46 = .bool false := h46
  refine relAsk_in (by rfl) ?_
  intro v47 h47
  obtain rfl : v47 = .bool false := h47
  refine relAsk_in (by rfl) ?_
  intro v48 h48
  obtain rfl : v48 = .bool false := h48
  refine relAsk_in (by rfl) ?_
  intro v49 h49
  refine relAsk_in (by rfl) ?_
  intro v50 h50
  refine relAsk_in (by rfl) ?_
  intro v51 h51
  obtain rfl : v51 = .int .i64 (ordI (nv S) (nv p)) := h51
  refine relAsk_in (by rfl) ?_
  intro v52 h52
  obtain rfl : v52 = .bool false := h52
  refine relAsk_in (by rfl) ?_
  intro v53 h53
  obtain rfl : v53 = .bool false := h53
  refine relAsk_nil ?_
  have RA := Lib.hid (RA.out.below hb4)
  have RB := Lib.hid (RB.out.below hb4)
  have RM := Lib.hid (RM.out.below hb4)
  have HX := Lib.hid (HX.out.below hb4)
  have HW := Lib.hid (HW.out.trans (hb4.mono HW.out.size))
  have H3 := Lib.hid (H3.out.below hb4)
  have H4 := Lib.hid (H4.out.below hb4)
  have H5 := Lib.hid (H5.out.below hb4)
  have H6 := Lib.hid (H6.out.below hb4)
  have H7 := Lib.hid (H7.out.below hb4)
  clear h32 h34 h35 h40 h42 h43 h44 h49 h50 hb4
  refine wpList_nil ?_
  go_simp
  go_upto_region 6 with (fail)
  refine wp_region_see 26 [54, 55, 56, 57, 58, 59, 60, 61, 62, 63, 64, 65, 66, 67, 68, 69, 70, 71, 72, 73, 74, 75, 76, 77, 78, 79] [(54, .byt (p)), (55, .byt (q)), (56, .byt (r)), (57, .byt (T)), (58, .byt (X1)), (59, .is (.string (sOf (X1)))), (60, .byt (p)), (61, .byt (q)), (62, .byt (U)), (63, .byt (p)), (64, .byt (r)), (65, .byt (V)), (66, .byt (X1)), (67, .is (.string (sOf (X1)))), (68, .is (.bool false)), (69, .is (.bool false)), (70, .byt (p)), (71, .byt (q)), (72, .byt (U)), (73, .is (.string (sOf (U)))), (74, .byt (q)), (75, .byt (p)), (76, .byt (U)), (77, .is (.string (sOf (U)))), (78, .is (.bool false)), (79, .is (.bool false))] (by kernel_rfl) (by kernel_rfl) (by rfl) ?_ ?_
  · refine seeOps_cons ?_ (seeOps_cons ?_ (seeOps_cons ?_ (seeOps_cons ?_ (seeOps_cons ?_ (seeOps_cons ?_ (seeOps_cons ?_ (seeOps_cons ?_ (seeOps_cons ?_ (seeOps_cons ?_ (seeOps_cons ?_ (seeOps_cons ?_ (seeOps_cons ?_ (seeOps_cons ?_ (seeOps_cons ?_ (seeOps_cons ?_ (seeOps_cons ?_ (seeOps_cons ?_ (seeOps_cons ?_ (seeOps_cons ?_ (seeOps_cons ?_ (seeOps_cons ?_ (seeOps_cons ?_ (seeOps_cons ?_ (seeOps_cons ?_ (seeOps_cons ?_ seeOps_nil)))))))))))))))))))))))))
    · intro w2 hb2 fr hout hin
      have h3 : Byt w2 (fr.tmps.getD 3 undef) (p) := by
        have e : fr.tmps.getD 3 undef = v3 := hout 3 (by decide)
        rw [e]; exact H3.out.below hb2
      exact relStep_move (.tmp 3) rfl (wanted_none rfl) h3
    · intro w2 hb2 fr hout hin
      have h4 : Byt w2 (fr.tmps.getD 4 undef) (q) := by
        have e : fr.tmps.getD 4 undef = v4 := hout 4 (by decide)
        rw [e]; exact H4.out.below hb2
      exact relStep_move (.tmp 4) rfl (wanted_none rfl) h4
    · intro w2 hb2 fr hout hin
      have h5 : Byt w2 (fr.tmps.getD 5 undef) (r) := by
        have e : fr.tmps.getD 5 undef = v5 := hout 5 (by decide)
        rw [e]; exact H5.out.below hb2
      exact relStep_move (.tmp 5) rfl (wanted_none rfl) h5
    · intro w2 hb2 fr hout hin
      have h55 : Byt w2 (fr.tmps.getD 55 undef) (q) := hin 55 (by decide) (by decide)
      have h56 : Byt w2 (fr.tmps.getD 56 undef) (r) := hin 56 (by decide) (by decide)
      exact op_call2 (.tmp 55) (.tmp 56) rfl en_add (wanted_none rfl) (by have k := (add_v _ h55 h56 (by have := HLq.out; omega) (by have := HLr.out; omega)); rw [Ec5.out] at k; exact k) (fun _ _ h => h)
    · intro w2 hb2 fr hout hin
      have h54 : Byt w2 (fr.tmps.getD 54 undef) (p) := hin 54 (by decide) (by decide)
      have h57 : Byt w2 (fr.tmps.getD 57 undef) (T) := hin 57 (by decide) (by decide)
      exact op_call2 (.tmp 54) (.tmp 57) rfl en_mul (wanted_none rfl) (by have k := (mul_v _ h54 h57 (by have := HLp.out; omega) (by have := HLT.out; omega)); rw [Ec6.out] at k; exact k) (fun _ _ h => h)
    · intro w2 hb2 fr hout hin
      have h58 : Byt w2 (fr.tmps.getD 58 undef) (X1) := hin 58 (by decide) (by decide)
      exact op_str (.tmp 58) rfl h58 (wanted_none rfl) rfl
    · intro w2 hb2 fr hout hin
      have h3 : Byt w2 (fr.tmps.getD 3 undef) (p) := by
        have e : fr.tmps.getD 3 undef = v3 := hout 3 (by decide)
        rw [e]; exact H3.out.below hb2
      exact relStep_move (.tmp 3) rfl (wanted_none rfl) h3
    · intro w2 hb2 fr hout hin
      have h4 : Byt w2 (fr.tmps.getD 4 undef) (q) := by
        have e : fr.tmps.getD 4 undef = v4 := hout 4 (by decide)
        rw [e]; exact H4.out.below hb2
      exact relStep_move (.tmp 4) rfl (wanted_none rfl) h4
    · intro w2 hb2 fr hout hin
      have h60 : Byt w2 (fr.tmps.getD 60 undef) (p) := hin 60 (by decide) (by decide)
      have h61 : Byt w2 (fr.tmps.getD 61 undef) (q) := hin 61 (by decide) (by decide)
      exact op_call2 (.tmp 60) (.tmp 61) rfl en_mul (wanted_none rfl) (by have k := (mul_v _ h60 h61 (by have := HLp.out; omega) (by have := HLq.out; omega)); rw [Ec7.out] at k; exact k) (fun _ _ h => h)
    · intro w2 hb2 fr hout hin
      have h3 : Byt w2 (fr.tmps.getD 3 undef) (p) := by
        have e : fr.tmps.getD 3 undef = v3 := hout 3 (by decide)
        rw [e]; exact H3.out.below hb2
      exact relStep_move (.tmp 3) rfl (wanted_none rfl) h3
    · intro w2 hb2 fr hout hin
      have h5 : Byt w2 (fr.tmps.getD 5 undef) (r) := by
        have e : fr.tmps.getD 5 undef = v5 := hout 5 (by decide)
        rw [e]; exact H5.out.below hb2
      exact relStep_move (.tmp 5) rfl (wanted_none rfl) h5
    · intro w2 hb2 fr hout hin
      have h63 : Byt w2 (fr.tmps.getD 63 undef) (p) := hin 63 (by decide) (by decide)
      have h64 : Byt w2 (fr.tmps.getD 64 undef) (r) := hin 64 (by decide) (by decide)
      exact op_call2 (.tmp 63) (.tmp 64) rfl en_mul (wanted_none rfl) (by have k := (mul_v _ h63 h64 (by have := HLp.out; omega) (by have := HLr.out; omega)); rw [Ec8.out] at k; exact k) (fun _ _ h => h)
    · intro w2 hb2 fr hout hin
      have h62 : Byt w2 (fr.tmps.getD 62 undef) (U) := hin 62 (by decide) (by decide)
      have h65 : Byt w2 (fr.tmps.getD 65 undef) (V) := hin 65 (by decide) (by decide)
      exact op_call2 (.tmp 62) (.tmp 65) rfl en_add (wanted_none rfl) (by have k := (add_v _ h62 h65 (by have := HLU.out; omega) (by have := HLV.out; omega)); rw [Ec9.out] at k; exact k) (fun _ _ h => h)
    · intro w2 hb2 fr hout hin
      have h66 : Byt w2 (fr.tmps.getD 66 undef) (X1) := hin 66 (by decide) (by decide)
      exact op_str (.tmp 66) rfl h66 (wanted_none rfl) rfl
    · intro w2 hb2 fr hout hin
      have h59 : fr.tmps.getD 59 undef = .string (sOf (X1)) := hin 59 (by decide) (by decide)
      have h67 : fr.tmps.getD 67 undef = .string (sOf (X1)) := hin 67 (by decide) (by decide)
      exact op_neS (.tmp 59) (.tmp 67) _ rfl h59 h67 (wanted_none rfl) rfl
    · intro w2 hb2 fr hout hin
      have h68 : fr.tmps.getD 68 undef = .bool false := hin 68 (by decide) (by decide)
      exact relStep_move (.tmp 68) rfl (wanted_none rfl) h68
    · intro w2 hb2 fr hout hin
      have h69 : fr.tmps.getD 69 undef = .bool false := hin 69 (by decide) (by decide)
      have h3 : Byt w2 (fr.tmps.getD 3 undef) (p) := by
        have e : fr.tmps.getD 3 undef = v3 := hout 3 (by decide)
        rw [e]; exact H3.out.below hb2
      exact relStep_move (.tmp 3) rfl (wanted_some (g := 15) (t := 69) (b := false) rfl rfl h69) h3
    · intro w2 hb2 fr hout hin
      have h69 : fr.tmps.getD 69 undef = .bool false := hin 69 (by decide) (by decide)
      have h4 : Byt w2 (fr.tmps.getD 4 undef) (q) := by
        have e : fr.tmps.getD 4 undef = v4 := hout 4 (by decide)
        rw [e]; exact H4.out.below hb2
      exact relStep_move (.tmp 4) rfl (wanted_some (g := 15) (t := 69) (b := false) rfl rfl h69) h4
    · intro w2 hb2 fr hout hin
      have h69 : fr.tmps.getD 69 undef = .bool false := hin 69 (by decide) (by decide)
      have h70 : Byt w2 (fr.tmps.getD 70 undef) (p) := hin 70 (by decide) (by decide)
      have h71 : Byt w2 (fr.tmps.getD 71 undef) (q) := hin 71 (by decide) (by decide)
      exact op_call2 (.tmp 70) (.tmp 71) rfl en_mul (wanted_some (g := 15) (t := 69) (b := false) rfl rfl h69) (by have k := (mul_v _ h70 h71 (by have := HLp.out; omega) (by have := HLq.out; omega)); rw [Ec7.out] at k; exact k) (fun _ _ h => h)
    · intro w2 hb2 fr hout hin
      have h69 : fr.tmps.getD 69 undef = .bool false := hin 69 (by decide) (by decide)
      have h72 : Byt w2 (fr.tmps.getD 72 undef) (U) := hin 72 (by decide) (by decide)
      exact op_str (.tmp 72) rfl h72 (wanted_some (g := 15) (t := 69) (b := false) rfl rfl h69) rfl
    · intro w2 hb2 fr hout hin
      have h69 : fr.tmps.getD 69 undef = .bool false := hin 69 (by decide) (by decide)
      have h4 : Byt w2 (fr.tmps.getD 4 undef) (q) := by
        have e : fr.tmps.getD 4 undef = v4 := hout 4 (by decide)
        rw [e]; exact H4.out.below hb2
      exact relStep_move (.tmp 4) rfl (wanted_some (g := 15) (t := 69) (b := false) rfl rfl h69) h4
    · intro w2 hb2 fr hout hin
      have h69 : fr.tmps.getD 69 undef = .bool false := hin 69 (by decide) (by decide)
      have h3 : Byt w2 (fr.tmps.getD 3 undef) (p) := by
        have e : fr.tmps.getD 3 undef = v3 := hout 3 (by decide)
        rw [e]; exact H3.out.below hb2
      exact relStep_move (.tmp 3) rfl (wanted_some (g := 15) (t := 69) (b := false) rfl rfl h69) h3
    · intro w2 hb2 fr hout hin
      have h69 : fr.tmps.getD 69 undef = .bool false := hin 69 (by decide) (by decide)
      have h74 : Byt w2 (fr.tmps.getD 74 undef) (q) := hin 74 (by decide) (by decide)
      have h75 : Byt w2 (fr.tmps.getD 75 undef) (p) := hin 75 (by decide) (by decide)
      exact op_call2 (.tmp 74) (.tmp 75) rfl en_mul (wanted_some (g := 15) (t := 69) (b := false) rfl rfl h69) (by have k := (mul_v _ h74 h75 (by have := HLq.out; omega) (by have := HLp.out; omega)); rw [Eca.out] at k; exact k) (fun _ _ h => h)
    · intro w2 hb2 fr hout hin
      have h69 : fr.tmps.getD 69 undef = .bool false := hin 69 (by decide) (by decide)
      have h76 : Byt w2 (fr.tmps.getD 76 undef) (U) := hin 76 (by decide) (by decide)
      exact op_str (.tmp 76) rfl h76 (wanted_some (g := 15) (t := 69) (b := false) rfl rfl h69) rfl
    · intro w2 hb2 fr hout hin
      have h69 : fr.tmps.getD 69 undef = .bool false := hin 69 (by decide) (by decide)
      have h73 : fr.tmps.getD 73 undef = .string (sOf (U)) := hin 73 (by decide) (by decide)
      have h77 : fr.tmps.getD 77 undef = .string (sOf (U)) := hin 77 (by decide) (by decide)
      exact op_neS (.tmp 73) (.tmp 77) _ rfl h73 h77 (wanted_some (g := 15) (t := 69) (b := false) rfl rfl h69) rfl
    · intro w2 hb2 fr hout hin
      have h69 : fr.tmps.getD 69 undef = .bool false := hin 69 (by decide) (by decide)
      have h78 : fr.tmps.getD 78 undef = .bool false := hin 78 (by decide) (by decide)
      exact relStep_pickF (.tmp 69) (.const (.bool true)) (.tmp 78) rfl h69 (wanted_none rfl) h78
  intro w5 hb5
  refine relAsk_in (by rfl) ?_
  intro v54 h54
  refine relAsk_in (by rfl) ?_
  intro v55 h55
  refine relAsk_in (by rfl) ?_
  intro v56 h56
  refine relAsk_in (by rfl) ?_
  intro v57 h57
  refine relAsk_in (by rfl) ?_
  intro v58 h58
  refine relAsk_in (by rfl) ?_
  intro v59 h59
  obtain rfl : v59 = .string (sOf (X1)) := h59
  refine relAsk_in (by rfl) ?_
  intro v60 h60
  refine relAsk_in (by rfl) ?_
  intro v61 h61
  refine relAsk_in (by rfl) ?_
  intro v62 h62
  refine relAsk_in (by rfl) ?_
  intro v63 h63
  refine relAsk_in (by rfl) ?_
  intro v64 h64
  refine relAsk_in (by rfl) ?_
  intro v65 h65
  refine relAsk_in (by rfl) ?_
  intro v66 h66
  refine relAsk_in (by rfl) ?_
  intro v67 h67
  obtain rfl : v67 = .string (sOf (X1)) := h67
  refine relAsk_in (by rfl) ?_
  intro v68 h68
  obtain rfl : v68 = .bool false := h68
  refine relAsk_in (by rfl) ?_
  intro v69 h69
  obtain rfl : v69 = .bool false := h69
  refine relAsk_in (by rfl) ?_
  intro v70 h70
  refine relAsk_in (by rfl) ?_
  intro v71 h71
  refine relAsk_in (by rfl) ?_
  intro v72 h72
  refine relAsk_in (by rfl) ?_
  intro v73 h73
  obtain rfl : v73 = .string (sOf (U)) := h73
  refine relAsk_in (by rfl) ?_
  intro v74 h74
  refine relAsk_in (by rfl) ?_
  intro v75 h75
  refine relAsk_in (by rfl) ?_
  intro v76 h76
  refine relAsk_in (by rfl) ?_
  intro v77 h77
  obtain rfl : v77 = .string (sOf (U)) := h77
  refine relAsk_in (by rfl) ?_
  intro v78 h78
  obtain rfl : v78 = .bool false := h78
  refine relAsk_in (by rfl) ?_
  intro v79 h79
  obtain rfl : v79 = .bool false := h79
  refine relAsk_nil ?_
  have RA := Lib.hid (RA.out.below hb5)
  have RB := Lib.hid (RB.out.below hb5)
  have RM := Lib.hid (RM.out.below hb5)
  have HX := Lib.hid (HX.out.below hb5)
  have HW := Lib.hid (HW.out.trans (hb5.mono HW.out.size))
  have H3 := Lib.hid (H3.out.below hb5)
  have H4 := Lib.hid (H4.out.below hb5)
  have H5 := Lib.hid (H5.out.below hb5)
  have H6 := Lib.hid (H6.out.below hb5)
  have H7 := Lib.hid (H7.out.below hb5)
  clear h54 h55 h56 h57 h58 h60 h61 h62 h63 h64 h65 h66 h70 h71 h72 h74 h75 h76 hb5
  refine wpList_nil ?_
  go_simp
  go_upto_region 8 with (fail)
  refine wp_region_seq 10 [81, 82, 83, 80, 84, 85, 86, 9, 10, 8] [(81, .byt (p)), (82, .byt (q)), (83, .dmB (Q1) (R1)), (80, .dmB (Q1) (R1)), (84, .byt (Q1)), (85, .byt (R1)), (86, .is (.bool true)), (9, .byt (Q1)), (10, .byt (R1)), (8, .is (.bool true))] (by kernel_rfl) (by rfl) ?_ ?_
  · refine seeOps_cons ?_ (seeOps_cons ?_ (seeOps_cons ?_ (seeOps_cons ?_ (seeOps_cons ?_ (seeOps_cons ?_ (seeOps_cons ?_ (seeOps_cons ?_ (seeOps_cons ?_ (seeOps_cons ?_ seeOps_nil)))))))))
    · intro w2 hb2 fr hout hin
      have h3 : Byt w2 (fr.tmps.getD 3 undef) (p) := by
        have e : fr.tmps.getD 3 undef = v3 := hout 3 (by decide)
        rw [e]; exact H3.out.below hb2
      exact relStep_move (.tmp 3) rfl (wanted_none rfl) h3
    · intro w2 hb2 fr hout hin
      have h4 : Byt w2 (fr.tmps.getD 4 undef) (q) := by
        have e : fr.tmps.getD 4 undef = v4 := hout 4 (by decide)
        rw [e]; exact H4.out.below hb2
      exact relStep_move (.tmp 4) rfl (wanted_none rfl) h4
    · intro w2 hb2 fr hout hin
      have h81 : Byt w2 (fr.tmps.getD 81 undef) (p) := hin 81 (by decide) (by decide)
      have h82 : Byt w2 (fr.tmps.getD 82 undef) (q) := hin 82 (by decide) (by decide)
      exact op_call2 (.tmp 81) (.tmp 82) rfl en_dm (wanted_none rfl) (by have k := (dm_v _ h81 h82 (by have := HLp.out; omega) (by have := HLq.out; omega) HPOS.out); rw [Ecb.out, Ecc.out] at k; exact k) (fun _ _ h => h)
    · intro w2 hb2 fr hout hin
      have h83 : DmB w2 (fr.tmps.getD 83 undef) (Q1) (R1) := hin 83 (by decide) (by decide)
      exact relStep_move (.tmp 83) rfl (wanted_none rfl) h83
    · intro w2 hb2 fr hout hin
      have h80 : DmB w2 (fr.tmps.getD 80 undef) (Q1) (R1) := hin 80 (by decide) (by decide)
      obtain ⟨x, y, e, hx, hy⟩ := h80
      exact op_ext (.tmp 80) 0 rfl e rfl (wanted_none rfl) hx
    · intro w2 hb2 fr hout hin
      have h80 : DmB w2 (fr.tmps.getD 80 undef) (Q1) (R1) := hin 80 (by decide) (by decide)
      obtain ⟨x, y, e, hx, hy⟩ := h80
      exact op_ext (.tmp 80) 1 rfl e rfl (wanted_none rfl) hy
    · intro w2 hb2 fr hout hin
      have h80 : DmB w2 (fr.tmps.getD 80 undef) (Q1) (R1) := hin 80 (by decide) (by decide)
      obtain ⟨x, y, e, hx, hy⟩ := h80
      exact op_ext (.tmp 80) 2 rfl e rfl (wanted_none rfl) rfl
    · intro w2 hb2 fr hout hin
      have h84 : Byt w2 (fr.tmps.getD 84 undef) (Q1) := hin 84 (by decide) (by decide)
      exact relStep_assign (.tmp 84) rfl (wanted_none rfl) h84
    · intro w2 hb2 fr hout hin
      have h85 : Byt w2 (fr.tmps.getD 85 undef) (R1) := hin 85 (by decide) (by decide)
      exact relStep_assign (.tmp 85) rfl (wanted_none rfl) h85
    · intro w2 hb2 fr hout hin
      have h86 : fr.tmps.getD 86 undef = .bool true := hin 86 (by decide) (by decide)
      exact relStep_assign (.tmp 86) rfl (wanted_none rfl) h86
  intro w6 hb6
  refine relAsk_in (by rfl) ?_
  intro v81 h81
  refine relAsk_in (by rfl) ?_
  intro v82 h82
  refine relAsk_in (by rfl) ?_
  intro v83 h83
  refine relAsk_in (by rfl) ?_
  intro v80 h80
  refine relAsk_in (by rfl) ?_
  intro v84 h84
  refine relAsk_in (by rfl) ?_
  intro v85 h85
  refine relAsk_in (by rfl) ?_
  intro v86 h86
  obtain rfl : v86 = .bool true := h86
  refine relAsk_in (by rfl) ?_
  intro v9 h9
  refine relAsk_in (by rfl) ?_
  intro v10 h10
  refine relAsk_in (by rfl) ?_
  intro v8 h8
  obtain rfl : v8 = .bool true := h8
  refine relAsk_nil ?_
  have RA := Lib.hid (RA.out.below hb6)
  have RB := Lib.hid (RB.out.below hb6)
  have RM := Lib.hid (RM.out.below hb6)
  have HX := Lib.hid (HX.out.below hb6)
  have HW := Lib.hid (HW.out.trans (hb6.mono HW.out.size))
  have H3 := Lib.hid (H3.out.below hb6)
  have H4 := Lib.hid (H4.out.below hb6)
  have H5 := Lib.hid (H5.out.below hb6)
  have H6 := Lib.hid (H6.out.below hb6)
  have H7 := Lib.hid (H7.out.below hb6)
  have H9 : Hid (Byt w6 (v9) (Q1)) := h9
  have H10 : Hid (Byt w6 (v10) (R1)) := h10
  clear h81 h82 h83 h80 h84 h85 h9 h10 hb6
  refine wpList_nil ?_
  go_simp
  go_upto_region 9 with (fail)
  refine wp_region_seq 2 [87, 88] [(87, .is (.bool true)), (88, .is (.bool false))] (by kernel_rfl) (by rfl) ?_ ?_
  · refine seeOps_cons ?_ (seeOps_cons ?_ seeOps_nil)
    · intro w2 hb2 fr hout hin
      have h8 : fr.tmps.getD 8 undef = .bool true := hout 8 (by decide)
      exact relStep_move (.tmp 8) rfl (wanted_none rfl) h8
    · intro w2 hb2 fr hout hin
      have h87 : fr.tmps.getD 87 undef = .bool true := hin 87 (by decide) (by decide)
      exact op_not (.tmp 87) _ rfl h87 (wanted_none rfl) rfl
  intro w7 hb7
  refine relAsk_in (by rfl) ?_
  intro v87 h87
  obtain rfl : v87 = .bool true := h87
  refine relAsk_in (by rfl) ?_
  intro v88 h88
  obtain rfl : v88 = .bool false := h88
  refine relAsk_nil ?_
  have RA := Lib.hid (RA.out.below hb7)
  have RB := Lib.hid (RB.out.below hb7)
  have RM := Lib.hid (RM.out.below hb7)
  have HX := Lib.hid (HX.out.below hb7)
  have HW := Lib.hid (HW.out.trans (hb7.mono HW.out.size))
  have H3 := Lib.hid (H3.out.below hb7)
  have H4 := Lib.hid (H4.out.below hb7)
  have H5 := Lib.hid (H5.out.below hb7)
  have H6 := Lib.hid (H6.out.below hb7)
  have H7 := Lib.hid (H7.out.below hb7)
  have H9 := Lib.hid (H9.out.below hb7)
  have H10 := Lib.hid (H10.out.below hb7)
  clear hb7
  refine wpList_nil ?_
  go_simp
  go_upto_region 11 with (fail)
  refine wp_region_see 20 [96, 97, 98, 99, 100, 101, 102, 103, 104, 105, 106, 107, 108, 109, 110, 111, 112, 113, 114, 2] [(96, .byt (Q1)), (97, .byt (q)), (98, .byt (Y1)), (99, .byt (R1)), (100, .byt (D)), (101, .is (.string (sOf (D)))), (102, .byt (p)), (103, .byt (D)), (104, .is (.string (sOf (D)))), (105, .is (.bool true)), (106, .is (.bool true)), (107, .byt (R1)), (108, .byt (q)), (109, .is (.int .i64 (ordI (nv R1) (nv q)))), (110, .is (.bool true)), (111, .is (.bool true)), (112, .is (.bool true)), (113, .is (.bool true)), (114, .is (.bool true)), (2, .is (.bool true))] (by kernel_rfl) (by kernel_rfl) (by rfl) ?_ ?_
  · refine seeOps_cons ?_ (seeOps_cons ?_ (seeOps_cons ?_ (seeOps_cons ?_ (seeOps_cons ?_ (seeOps_cons ?_ (seeOps_cons ?_ (seeOps_cons ?_ (seeOps_cons ?_ (seeOps_cons ?_ (seeOps_cons ?_ (seeOps_cons ?_ (seeOps_cons ?_ (seeOps_cons ?_ (seeOps_cons ?_ (seeOps_cons ?_ (seeOps_cons ?_ (seeOps_cons ?_ (seeOps_cons ?_ (seeOps_cons ?_ seeOps_nil)))))))))))))))))))
    · intro w2 hb2 fr hout hin
      have h9 : Byt w2 (fr.tmps.getD 9 undef) (Q1) := by
        have e : fr.tmps.getD 9 undef = v9 := hout 9 (by decide)
        rw [e]; exact H9.out.below hb2
      exact relStep_move (.tmp 9) rfl (wanted_none rfl) h9
    · intro w2 hb2 fr hout hin
      have h4 : Byt w2 (fr.tmps.getD 4 undef) (q) := by
        have e : fr.tmps.getD 4 undef = v4 := hout 4 (by decide)
        rw [e]; exact H4.out.below hb2
      exact relStep_move (.tmp 4) rfl (wanted_none rfl) h4
    · intro w2 hb2 fr hout hin
      have h96 : Byt w2 (fr.tmps.getD 96 undef) (Q1) := hin 96 (by decide) (by decide)
      have h97 : Byt w2 (fr.tmps.getD 97 undef) (q) := hin 97 (by decide) (by decide)
      exact op_call2 (.tmp 96) (.tmp 97) rfl en_mul (wanted_none rfl) (by have k := (mul_v _ h96 h97 (by have := HLQ1.out; omega) (by have := HLq.out; omega)); rw [Ecd.out] at k; exact k) (fun _ _ h => h)
    · intro w2 hb2 fr hout hin
      have h10 : Byt w2 (fr.tmps.getD 10 undef) (R1) := by
        have e : fr.tmps.getD 10 undef = v10 := hout 10 (by decide)
        rw [e]; exact H10.out.below hb2
      exact relStep_move (.tmp 10) rfl (wanted_none rfl) h10
    · intro w2 hb2 fr hout hin
      have h98 : Byt w2 (fr.tmps.getD 98 undef) (Y1) := hin 98 (by decide) (by decide)
      have h99 : Byt w2 (fr.tmps.getD 99 undef) (R1) := hin 99 (by decide) (by decide)
      exact op_call2 (.tmp 98) (.tmp 99) rfl en_add (wanted_none rfl) (by have k := (add_v _ h98 h99 (by have := HLY1.out; omega) (by have := HLR1.out; omega)); rw [Ece.out] at k; exact k) (fun _ _ h => h)
    · intro w2 hb2 fr hout hin
      have h100 : Byt w2 (fr.tmps.getD 100 undef) (D) := hin 100 (by decide) (by decide)
      exact op_str (.tmp 100) rfl h100 (wanted_none rfl) rfl
    · intro w2 hb2 fr hout hin
      have h3 : Byt w2 (fr.tmps.getD 3 undef) (p) := by
        have e : fr.tmps.getD 3 undef = v3 := hout 3 (by decide)
        rw [e]; exact H3.out.below hb2
      exact relStep_move (.tmp 3) rfl (wanted_none rfl) h3
    · intro w2 hb2 fr hout hin
      have h102 : Byt w2 (fr.tmps.getD 102 undef) (p) := hin 102 (by decide) (by decide)
      exact op_call1 (.tmp 102) rfl en_trim (wanted_none rfl) (by have k := (trim_v _ h102 (by have := HLp.out; omega)); rw [Ec3.out] at k; exact k) (fun _ _ h => h)
    · intro w2 hb2 fr hout hin
      have h103 : Byt w2 (fr.tmps.getD 103 undef) (D) := hin 103 (by decide) (by decide)
      exact op_str (.tmp 103) rfl h103 (wanted_none rfl) rfl
    · intro w2 hb2 fr hout hin
      have h101 : fr.tmps.getD 101 undef = .string (sOf (D)) := hin 101 (by decide) (by decide)
      have h104 : fr.tmps.getD 104 undef = .string (sOf (D)) := hin 104 (by decide) (by decide)
      exact op_eqS (.tmp 101) (.tmp 104) _ rfl h101 h104 (wanted_none rfl) rfl
    · intro w2 hb2 fr hout hin
      have h105 : fr.tmps.getD 105 undef = .bool true := hin 105 (by decide) (by decide)
      exact relStep_move (.tmp 105) rfl (wanted_none rfl) h105
    · intro w2 hb2 fr hout hin
      have h106 : fr.tmps.getD 106 undef = .bool true := hin 106 (by decide) (by decide)
      have h10 : Byt w2 (fr.tmps.getD 10 undef) (R1) := by
        have e : fr.tmps.getD 10 undef = v10 := hout 10 (by decide)
        rw [e]; exact H10.out.below hb2
      exact relStep_move (.tmp 10) rfl (wanted_some (g := 10) (t := 106) (b := true) rfl rfl h106) h10
    · intro w2 hb2 fr hout hin
      have h106 : fr.tmps.getD 106 undef = .bool true := hin 106 (by decide) (by decide)
      have h4 : Byt w2 (fr.tmps.getD 4 undef) (q) := by
        have e : fr.tmps.getD 4 undef = v4 := hout 4 (by decide)
        rw [e]; exact H4.out.below hb2
      exact relStep_move (.tmp 4) rfl (wanted_some (g := 10) (t := 106) (b := true) rfl rfl h106) h4
    · intro w2 hb2 fr hout hin
      have h106 : fr.tmps.getD 106 undef = .bool true := hin 106 (by decide) (by decide)
      have h107 : Byt w2 (fr.tmps.getD 107 undef) (R1) := hin 107 (by decide) (by decide)
      have h108 : Byt w2 (fr.tmps.getD 108 undef) (q) := hin 108 (by decide) (by decide)
      exact op_call2 (.tmp 107) (.tmp 108) rfl en_cmp (wanted_some (g := 10) (t := 106) (b := true) rfl rfl h106) (cmp_v _ h107 h108 (by have := HLR1.out; omega) (by have := HLq.out; omega)) (fun _ _ h => h)
    · intro w2 hb2 fr hout hin
      have h106 : fr.tmps.getD 106 undef = .bool true := hin 106 (by decide) (by decide)
      have h109 : fr.tmps.getD 109 undef = .int .i64 (ordI (nv R1) (nv q)) := hin 109 (by decide) (by decide)
      exact op_cmp .lss (.tmp 109) (.const (.int .i64 0)) _ rfl h109 rfl (HC2.out) (wanted_some (g := 10) (t := 106) (b := true) rfl rfl h106) rfl
    · intro w2 hb2 fr hout hin
      have h106 : fr.tmps.getD 106 undef = .bool true := hin 106 (by decide) (by decide)
      have h110 : fr.tmps.getD 110 undef = .bool true := hin 110 (by decide) (by decide)
      exact relStep_pick (.tmp 106) (.tmp 110) (.const (.bool false)) rfl h106 (wanted_none rfl) h110
    · intro w2 hb2 fr hout hin
      have h111 : fr.tmps.getD 111 undef = .bool true := hin 111 (by decide) (by decide)
      exact relStep_move (.tmp 111) rfl (wanted_none rfl) h111
    · intro w2 hb2 fr hout hin
      have h112 : fr.tmps.getD 112 undef = .bool true := hin 112 (by decide) (by decide)
      exact op_call0 rfl en_wakes (wanted_some (g := 16) (t := 112) (b := true) rfl rfl h112) (nwakes_v _) (fun _ _ h => h)
    · intro w2 hb2 fr hout hin
      have h112 : fr.tmps.getD 112 undef = .bool true := hin 112 (by decide) (by decide)
      have h113 : fr.tmps.getD 113 undef = .bool true := hin 113 (by decide) (by decide)
      exact relStep_pick (.tmp 112) (.tmp 113) (.const (.bool false)) rfl h112 (wanted_none rfl) h113
    · intro w2 hb2 fr hout hin
      have h114 : fr.tmps.getD 114 undef = .bool true := hin 114 (by decide) (by decide)
      exact relStep_assign (.tmp 114) rfl (wanted_none rfl) h114
  intro w8 hb8
  refine relAsk_in (by rfl) ?_
  intro v96 h96
  refine relAsk_in (by rfl) ?_
  intro v97 h97
  refine relAsk_in (by rfl) ?_
  intro v98 h98
  refine relAsk_in (by rfl) ?_
  intro v99 h99
  refine relAsk_in (by rfl) ?_
  intro v100 h100
  refine relAsk_in (by rfl) ?_
  intro v101 h101
  obtain rfl : v101 = .string (sOf (D)) := h101
  refine relAsk_in (by rfl) ?_
  intro v102 h102
  refine relAsk_in (by rfl) ?_
  intro v103 h103
  refine relAsk_in (by rfl) ?_
  intro v104 h104
  obtain rfl : v104 = .string (sOf (D)) := h104
  refine relAsk_in (by rfl) ?_
  intro v105 h105
  obtain rfl : v105 = .bool true := h105
  refine relAsk_in (by rfl) ?_
  intro v106 h106
  obtain rfl : v106 = .bool true := h106
  refine relAsk_in (by rfl) ?_
  intro v107 h107
  refine relAsk_in (by rfl) ?_
  intro v108 h108
  refine relAsk_in (by rfl) ?_
  intro v109 h109
  obtain rfl : v109 = .int .i64 (ordI (nv R1) (nv q)) := h109
  refine relAsk_in (by rfl) ?_
  intro v110 h110
  obtain rfl : v110 = .bool true := h110
  refine relAsk_in (by rfl) ?_
  intro v111 h111
  obtain rfl : v111 = .bool true := h111
  refine relAsk_in (by rfl) ?_
  intro v112 h112
  obtain rfl : v112 = .bool true := h112
  refine relAsk_in (by rfl) ?_
  intro v113 h113
  obtain rfl : v113 = .bool true := h113
  refine relAsk_in (by rfl) ?_
  intro v114 h114
  obtain rfl : v114 = .bool true := h114
  refine relAsk_in (by rfl) ?_
  intro v2 h2
  obtain rfl : v2 = .bool true := h2
  refine relAsk_nil ?_
  have RA := Lib.hid (RA.out.below hb8)
  have RB := Lib.hid (RB.out.below hb8)
  have RM := Lib.hid (RM.out.below hb8)
  have HX := Lib.hid (HX.out.below hb8)
  have HW := Lib.hid (HW.out.trans (hb8.mono HW.out.size))
  have H3 := Lib.hid (H3.out.below hb8)
  have H4 := Lib.hid (H4.out.below hb8)
  have H5 := Lib.hid (H5.out.below hb8)
  have H6 := Lib.hid (H6.out.below hb8)
  have H7 := Lib.hid (H7.out.below hb8)
  have H9 := Lib.hid (H9.out.below hb8)
  have H10 := Lib.hid (H10.out.below hb8)
  clear h96 h97 h98 h99 h100 h102 h103 h107 h108 hb8
  refine wpList_nil ?_
  go_simp
  go_wp2_with fail
  go_ret
  exact ⟨rfl, HW.out⟩

set_option maxRecDepth 100000 in
set_option maxHeartbeats 12800000 in
theorem whole_zero {A B M : Option Addr} {ca cb cm : Nat} {i wide : Int} {xs ys zs : List Nat} (w : World) (hA : Rd .u8 w A ca xs) (dA : Ds 256 xs) (hB : Rd .u8 w B cb ys) (dB : Ds 256 ys) (hM : Rd .u8 w M cm zs) (dM : Ds 256 zs) (h0 : nv (ys.take 600) = 0) :
    Calls Try.prog 15 #[.agg #[.slice A xs.length ca, .slice B ys.length cb, .slice M zs.length cm, .int .i64 i, .int .i64 wide]] w (RetV (.bool true) w) := by
  have ltp : nv (xs.take 600) < 256 ^ 600 := nv_take dA 600
  have ltq : nv (ys.take 600) < 256 ^ 600 := nv_take dB 600
  have ltr : nv (zs.take 600) < 256 ^ 600 := nv_take dM 600
  obtain ⟨p, hp⟩ : ∃ zz, zz = xs.take 600 := ⟨_, rfl⟩
  have hlp : p.length ≤ 600 := by rw [hp, List.length_take]; omega
  have ffp : ∀ (w : World) {u : Value}, Byt w u xs → Calls Try.prog 75 #[u] w (RetR (fun w' v => Byt w' v p) w) := fun w u h => by rw [hp]; exact few_v w h
  have HLp := Lib.hid hlp
  have FFp := Lib.hid ffp
  have Hp := Lib.hid hp
  clear hlp ffp hp
  obtain ⟨q, hq⟩ : ∃ zz, zz = ys.take 600 := ⟨_, rfl⟩
  have hlq : q.length ≤ 600 := by rw [hq, List.length_take]; omega
  have ffq : ∀ (w : World) {u : Value}, Byt w u ys → Calls Try.prog 75 #[u] w (RetR (fun w' v => Byt w' v q) w) := fun w u h => by rw [hq]; exact few_v w h
  have HLq := Lib.hid hlq
  have FFq := Lib.hid ffq
  have Hq := Lib.hid hq
  clear hlq ffq hq
  obtain ⟨r, hr⟩ : ∃ zz, zz = zs.take 600 := ⟨_, rfl⟩
  have hlr : r.length ≤ 600 := by rw [hr, List.length_take]; omega
  have ffr : ∀ (w : World) {u : Value}, Byt w u zs → Calls Try.prog 75 #[u] w (RetR (fun w' v => Byt w' v r) w) := fun w u h => by rw [hr]; exact few_v w h
  have HLr := Lib.hid hlr
  have FFr := Lib.hid ffr
  have Hr := Lib.hid hr
  clear hlr ffr hr
  rw [← Hp.out] at ltp
  rw [← Hq.out] at ltq
  rw [← Hr.out] at ltr
  obtain ⟨S, hS⟩ : ∃ zz, zz = nb (nv p + nv q) := ⟨_, rfl⟩
  have nS : nv S = nv p + nv q := by rw [hS, nv_nb]
  have hlS : S.length ≤ 2401 := by rw [hS]; exact nb_le256 (lt_add256 ltp ltq) (by decide)
  have HLS := Lib.hid hlS
  obtain ⟨T, hT⟩ : ∃ zz, zz = nb (nv q + nv r) := ⟨_, rfl⟩
  have nT : nv T = nv q + nv r := by rw [hT, nv_nb]
  have hlT : T.length ≤ 2401 := by rw [hT]; exact nb_le256 (lt_add256 ltq ltr) (by decide)
  have HLT := Lib.hid hlT
  obtain ⟨U, hU⟩ : ∃ zz, zz = nb (nv p * nv q) := ⟨_, rfl⟩
  have nU : nv U = nv p * nv q := by rw [hU, nv_nb]
  have hlU : U.length ≤ 2401 := by rw [hU]; exact nb_le256 (lt_mul256 ltp ltq) (by decide)
  have HLU := Lib.hid hlU
  obtain ⟨V, hV⟩ : ∃ zz, zz = nb (nv p * nv r) := ⟨_, rfl⟩
  have nV : nv V = nv p * nv r := by rw [hV, nv_nb]
  have hlV : V.length ≤ 2401 := by rw [hV]; exact nb_le256 (lt_mul256 ltp ltr) (by decide)
  have HLV := Lib.hid hlV
  obtain ⟨X1, hX1⟩ : ∃ zz, zz = nb (nv p * (nv q + nv r)) := ⟨_, rfl⟩
  have nX1 : nv X1 = nv p * (nv q + nv r) := by rw [hX1, nv_nb]
  have hlX1 : X1.length ≤ 2401 := by rw [hX1]; exact nb_le256 (lt_mul256 ltp (lt_add256 ltq ltr)) (by decide)
  have HLX1 := Lib.hid hlX1
  obtain ⟨D, hD⟩ : ∃ zz, zz = nb (nv p) := ⟨_, rfl⟩
  have nD : nv D = nv p := by rw [hD, nv_nb]
  have hlD : D.length ≤ 2401 := by rw [hD]; exact nb_le256 ltp (by decide)
  have HLD := Lib.hid hlD
  have Ec1 : Hid (nb (nv p + nv q) = S) := by show _ = _; exact hS.symm
  have Ec2 : Hid (nb (nv S - nv q) = D) := by show _ = _; rw [nS, hD, Nat.add_sub_cancel]
  have Ec3 : Hid (nb (nv p) = D) := by show _ = _; exact hD.symm
  have Ec4 : Hid (nb (nv q + nv p) = S) := by show _ = _; rw [hS, Nat.add_comm]
  have Ec5 : Hid (nb (nv q + nv r) = T) := by show _ = _; exact hT.symm
  have Ec6 : Hid (nb (nv p * nv T) = X1) := by show _ = _; rw [nT, hX1]
  have Ec7 : Hid (nb (nv p * nv q) = U) := by show _ = _; exact hU.symm
  have Ec8 : Hid (nb (nv p * nv r) = V) := by show _ = _; exact hV.symm
  have Ec9 : Hid (nb (nv U + nv V) = X1) := by show _ = _; rw [nU, nV, hX1, Nat.mul_add]
  have Eca : Hid (nb (nv q * nv p) = U) := by show _ = _; rw [hU, Nat.mul_comm]
  have Ecb : Hid (nb (nv q) = ([] : List Nat)) := by show _ = _; rw [Hq.out, h0]; exact nb_zero
  have HLE : Hid (nv q ≤ nv S) := by show _ ≤ _; rw [nS]; omega
  have HC1 : Hid (∀ w, (binOp .lss 3 (.int .i64 (ordI (nv S) (nv p))) (.int .i64 0)).run Try.prog w = .ok (.bool false) w) := ordI_pos (by rw [nS]; omega)
  have h1 := h0
  rw [← Hq.out] at h1
  have HZ := Lib.hid h1
  clear h1
  clear h0 ltp ltq ltr hS nS hlS hT nT hlT hU nU hlU hV nV hlV hX1 nX1 hlX1 hD nD hlD
  obtain ⟨L, hL⟩ : ∃ L, L = xs.length := ⟨_, rfl⟩
  obtain ⟨K, hK⟩ : ∃ K, K = ys.length := ⟨_, rfl⟩
  obtain ⟨J, hJ⟩ : ∃ J, J = zs.length := ⟨_, rfl⟩
  have rA : Byt w (.slice A L ca) xs := ⟨A, ca, by rw [hL], hA, dA⟩
  have rB : Byt w (.slice B K cb) ys := ⟨B, cb, by rw [hK], hB, dB⟩
  have rM : Byt w (.slice M J cm) zs := ⟨M, cm, by rw [hJ], hM, dM⟩
  rw [← hL, ← hK, ← hJ]
  have hW := (Below.refl w.heap.size w).alloc (Nat.le_refl _) (.cells #[.slice A L ca, .slice B K cb, .slice M J cm, .int .i64 i, .int .i64 wide] 51)
  have hx := Box5.new w (.slice A L ca) (.slice B K cb) (.slice M J cm) (.int .i64 i) (.int .i64 wide) 51
  have RA := Lib.hid (rA.below hW)
  have RB := Lib.hid (rB.below hW)
  have RM := Lib.hid (rM.below hW)
  have HX := Lib.hid hx
  have HW := Lib.hid hW
  clear hA dA hB dB hM dM hL hK hJ rA rB rM hW hx
  go_enter Try.func15, Try.ntmps15
  go_upto_region 1 with (fail)
  generalize hX : w.alloc (.cells #[.slice A L ca, .slice B K cb, .slice M J cm, .int .i64 i, .int .i64 wide] 51) = X at *
  clear hX
  refine wp_region_see 12 [11, 12, 13, 14, 15, 16, 17, 18, 19, 3, 4, 5] [(11, .is (.pointer (some ⟨w.heap.size, 0, none⟩))), (12, .byt (xs)), (13, .byt (p)), (14, .is (.pointer (some ⟨w.heap.size, 1, none⟩))), (15, .byt (ys)), (16, .byt (q)), (17, .is (.pointer (some ⟨w.heap.size, 2, none⟩))), (18, .byt (zs)), (19, .byt (r)), (3, .byt (p)), (4, .byt (q)), (5, .byt (r))] (by kernel_rfl) (by kernel_rfl) (by rfl) ?_ ?_
  · refine seeOps_cons ?_ (seeOps_cons ?_ (seeOps_cons ?_ (seeOps_cons ?_ (seeOps_cons ?_ (seeOps_cons ?_ (seeOps_cons ?_ (seeOps_cons ?_ (seeOps_cons ?_ (seeOps_cons ?_ (seeOps_cons ?_ (seeOps_cons ?_ seeOps_nil)))))))))))
    · intro w2 hb2 fr hout hin
      have h1 : fr.tmps.getD 1 undef = .pointer (some ⟨w.heap.size, 0, none⟩) := hout 1 (by decide)
      exact op_fieldN (.tmp 1) rfl (by decide) h1 (wanted_none rfl) rfl
    · intro w2 hb2 fr hout hin
      have h11 : fr.tmps.getD 11 undef = .pointer (some ⟨w.heap.size, 0, none⟩) := hin 11 (by decide) (by decide)
      exact op_load1 (.tmp 11) rfl (fun _ => by kernel_rfl) h11 ((HX.out.below hb2).c0) (wanted_none rfl) (RA.out.below hb2)
    · intro w2 hb2 fr hout hin
      have h12 : Byt w2 (fr.tmps.getD 12 undef) (xs) := hin 12 (by decide) (by decide)
      exact op_call1 (.tmp 12) rfl en_few (wanted_none rfl) (FFp.out _ h12) (fun _ _ h => h)
    · intro w2 hb2 fr hout hin
      have h1 : fr.tmps.getD 1 undef = .pointer (some ⟨w.heap.size, 0, none⟩) := hout 1 (by decide)
      exact op_fieldN (.tmp 1) rfl (by decide) h1 (wanted_none rfl) rfl
    · intro w2 hb2 fr hout hin
      have h14 : fr.tmps.getD 14 undef = .pointer (some ⟨w.heap.size, 1, none⟩) := hin 14 (by decide) (by decide)
      exact op_load1 (.tmp 14) rfl (fun _ => by kernel_rfl) h14 ((HX.out.below hb2).c1) (wanted_none rfl) (RB.out.below hb2)
    · intro w2 hb2 fr hout hin
      have h15 : Byt w2 (fr.tmps.getD 15 undef) (ys) := hin 15 (by decide) (by decide)
      exact op_call1 (.tmp 15) rfl en_few (wanted_none rfl) (FFq.out _ h15) (fun _ _ h => h)
    · intro w2 hb2 fr hout hin
      have h1 : fr.tmps.getD 1 undef = .pointer (some ⟨w.heap.size, 0, none⟩) := hout 1 (by decide)
      exact op_fieldN (.tmp 1) rfl (by decide) h1 (wanted_none rfl) rfl
    · intro w2 hb2 fr hout hin
      have h17 : fr.tmps.getD 17 undef = .pointer (some ⟨w.heap.size, 2, none⟩) := hin 17 (by decide) (by decide)
      exact op_load1 (.tmp 17) rfl (fun _ => by kernel_rfl) h17 ((HX.out.below hb2).c2) (wanted_none rfl) (RM.out.below hb2)
    · intro w2 hb2 fr hout hin
      have h18 : Byt w2 (fr.tmps.getD 18 undef) (zs) := hin 18 (by decide) (by decide)
      exact op_call1 (.tmp 18) rfl en_few (wanted_none rfl) (FFr.out _ h18) (fun _ _ h => h)
    · intro w2 hb2 fr hout hin
      have h13 : Byt w2 (fr.tmps.getD 13 undef) (p) := hin 13 (by decide) (by decide)
      exact relStep_assign (.tmp 13) rfl (wanted_none rfl) h13
    · intro w2 hb2 fr hout hin
      have h16 : Byt w2 (fr.tmps.getD 16 undef) (q) := hin 16 (by decide) (by decide)
      exact relStep_assign (.tmp 16) rfl (wanted_none rfl) h16
    · intro w2 hb2 fr hout hin
      have h19 : Byt w2 (fr.tmps.getD 19 undef) (r) := hin 19 (by decide) (by decide)
      exact relStep_assign (.tmp 19) rfl (wanted_none rfl) h19
  intro w1 hb1
  refine relAsk_in (by rfl) ?_
  intro v11 h11
  obtain rfl : v11 = .pointer (some ⟨w.heap.size, 0, none⟩) := h11
  refine relAsk_in (by rfl) ?_
  intro v12 h12
  refine relAsk_in (by rfl) ?_
  intro v13 h13
  refine relAsk_in (by rfl) ?_
  intro v14 h14
  obtain rfl : v14 = .pointer (some ⟨w.heap.size, 1, none⟩) := h14
  refine relAsk_in (by rfl) ?_
  intro v15 h15
  refine relAsk_in (by rfl) ?_
  intro v16 h16
  refine relAsk_in (by rfl) ?_
  intro v17 h17
  obtain rfl : v17 = .pointer (some ⟨w.heap.size, 2, none⟩) := h17
  refine relAsk_in (by rfl) ?_
  intro v18 h18
  refine relAsk_in (by rfl) ?_
  intro v19 h19
  refine relAsk_in (by rfl) ?_
  intro v3 h3
  refine relAsk_in (by rfl) ?_
  intro v4 h4
  refine relAsk_in (by rfl) ?_
  intro v5 h5
  refine relAsk_nil ?_
  have RA := Lib.hid (RA.out.below hb1)
  have RB := Lib.hid (RB.out.below hb1)
  have RM := Lib.hid (RM.out.below hb1)
  have HX := Lib.hid (HX.out.below hb1)
  have HW := Lib.hid (HW.out.trans (hb1.mono HW.out.size))
  have H3 : Hid (Byt w1 (v3) (p)) := h3
  have H4 : Hid (Byt w1 (v4) (q)) := h4
  have H5 : Hid (Byt w1 (v5) (r)) := h5
  clear h12 h13 h15 h16 h18 h19 h3 h4 h5 hb1
  refine wpList_nil ?_
  go_simp
  go_upto_region 2 with (fail)
  refine wp_region_seq 4 [20, 21, 22, 6] [(20, .byt (p)), (21, .byt (q)), (22, .byt (S)), (6, .byt (S))] (by kernel_rfl) (by rfl) ?_ ?_
  · refine seeOps_cons ?_ (seeOps_cons ?_ (seeOps_cons ?_ (seeOps_cons ?_ seeOps_nil)))
    · intro w2 hb2 fr hout hin
      have h3 : Byt w2 (fr.tmps.getD 3 undef) (p) := by
        have e : fr.tmps.getD 3 undef = v3 := hout 3 (by decide)
        rw [e]; exact H3.out.below hb2
      exact relStep_move (.tmp 3) rfl (wanted_none rfl) h3
    · intro w2 hb2 fr hout hin
      have h4 : Byt w2 (fr.tmps.getD 4 undef) (q) := by
        have e : fr.tmps.getD 4 undef = v4 := hout 4 (by decide)
        rw [e]; exact H4.out.below hb2
      exact relStep_move (.tmp 4) rfl (wanted_none rfl) h4
    · intro w2 hb2 fr hout hin
      have h20 : Byt w2 (fr.tmps.getD 20 undef) (p) := hin 20 (by decide) (by decide)
      have h21 : Byt w2 (fr.tmps.getD 21 undef) (q) := hin 21 (by decide) (by decide)
      exact op_call2 (.tmp 20) (.tmp 21) rfl en_add (wanted_none rfl) (by have k := (add_v _ h20 h21 (by have := HLp.out; omega) (by have := HLq.out; omega)); rw [Ec1.out] at k; exact k) (fun _ _ h => h)
    · intro w2 hb2 fr hout hin
      have h22 : Byt w2 (fr.tmps.getD 22 undef) (S) := hin 22 (by decide) (by decide)
      exact relStep_assign (.tmp 22) rfl (wanted_none rfl) h22
  intro w2 hb2
  refine relAsk_in (by rfl) ?_
  intro v20 h20
  refine relAsk_in (by rfl) ?_
  intro v21 h21
  refine relAsk_in (by rfl) ?_
  intro v22 h22
  refine relAsk_in (by rfl) ?_
  intro v6 h6
  refine relAsk_nil ?_
  have RA := Lib.hid (RA.out.below hb2)
  have RB := Lib.hid (RB.out.below hb2)
  have RM := Lib.hid (RM.out.below hb2)
  have HX := Lib.hid (HX.out.below hb2)
  have HW := Lib.hid (HW.out.trans (hb2.mono HW.out.size))
  have H3 := Lib.hid (H3.out.below hb2)
  have H4 := Lib.hid (H4.out.below hb2)
  have H5 := Lib.hid (H5.out.below hb2)
  have H6 : Hid (Byt w2 (v6) (S)) := h6
  clear h20 h21 h22 h6 hb2
  refine wpList_nil ?_
  go_simp
  go_upto_region 3 with (fail)
  refine wp_region_seq 8 [24, 25, 26, 23, 27, 28, 7, 8] [(24, .byt (S)), (25, .byt (q)), (26, .okB (D)), (23, .okB (D)), (27, .byt (D)), (28, .is (.bool true)), (7, .byt (D)), (8, .is (.bool true))] (by kernel_rfl) (by rfl) ?_ ?_
  · refine seeOps_cons ?_ (seeOps_cons ?_ (seeOps_cons ?_ (seeOps_cons ?_ (seeOps_cons ?_ (seeOps_cons ?_ (seeOps_cons ?_ (seeOps_cons ?_ seeOps_nil)))))))
    · intro w2 hb2 fr hout hin
      have h6 : Byt w2 (fr.tmps.getD 6 undef) (S) := by
        have e : fr.tmps.getD 6 undef = v6 := hout 6 (by decide)
        rw [e]; exact H6.out.below hb2
      exact relStep_move (.tmp 6) rfl (wanted_none rfl) h6
    · intro w2 hb2 fr hout hin
      have h4 : Byt w2 (fr.tmps.getD 4 undef) (q) := by
        have e : fr.tmps.getD 4 undef = v4 := hout 4 (by decide)
        rw [e]; exact H4.out.below hb2
      exact relStep_move (.tmp 4) rfl (wanted_none rfl) h4
    · intro w2 hb2 fr hout hin
      have h24 : Byt w2 (fr.tmps.getD 24 undef) (S) := hin 24 (by decide) (by decide)
      have h25 : Byt w2 (fr.tmps.getD 25 undef) (q) := hin 25 (by decide) (by decide)
      exact op_call2 (.tmp 24) (.tmp 25) rfl en_sub (wanted_none rfl) (by have k := (sub_v _ h24 h25 (by have := HLS.out; omega) (by have := HLq.out; omega) HLE.out); rw [Ec2.out] at k; exact k) (fun _ _ h => h)
    · intro w2 hb2 fr hout hin
      have h26 : OkB w2 (fr.tmps.getD 26 undef) (D) := hin 26 (by decide) (by decide)
      exact relStep_move (.tmp 26) rfl (wanted_none rfl) h26
    · intro w2 hb2 fr hout hin
      have h23 : OkB w2 (fr.tmps.getD 23 undef) (D) := hin 23 (by decide) (by decide)
      obtain ⟨x, e, hx⟩ := h23
      exact op_ext (.tmp 23) 0 rfl e rfl (wanted_none rfl) hx
    · intro w2 hb2 fr hout hin
      have h23 : OkB w2 (fr.tmps.getD 23 undef) (D) := hin 23 (by decide) (by decide)
      obtain ⟨x, e, hx⟩ := h23
      exact op_ext (.tmp 23) 1 rfl e rfl (wanted_none rfl) rfl
    · intro w2 hb2 fr hout hin
      have h27 : Byt w2 (fr.tmps.getD 27 undef) (D) := hin 27 (by decide) (by decide)
      exact relStep_assign (.tmp 27) rfl (wanted_none rfl) h27
    · intro w2 hb2 fr hout hin
      have h28 : fr.tmps.getD 28 undef = .bool true := hin 28 (by decide) (by decide)
      exact relStep_assign (.tmp 28) rfl (wanted_none rfl) h28
  intro w3 hb3
  refine relAsk_in (by rfl) ?_
  intro v24 h24
  refine relAsk_in (by rfl) ?_
  intro v25 h25
  refine relAsk_in (by rfl) ?_
  intro v26 h26
  refine relAsk_in (by rfl) ?_
  intro v23 h23
  refine relAsk_in (by rfl) ?_
  intro v27 h27
  refine relAsk_in (by rfl) ?_
  intro v28 h28
  obtain rfl : v28 = .bool true := h28
  refine relAsk_in (by rfl) ?_
  intro v7 h7
  refine relAsk_in (by rfl) ?_
  intro v8 h8
  obtain rfl : v8 = .bool true := h8
  refine relAsk_nil ?_
  have RA := Lib.hid (RA.out.below hb3)
  have RB := Lib.hid (RB.out.below hb3)
  have RM := Lib.hid (RM.out.below hb3)
  have HX := Lib.hid (HX.out.below hb3)
  have HW := Lib.hid (HW.out.trans (hb3.mono HW.out.size))
  have H3 := Lib.hid (H3.out.below hb3)
  have H4 := Lib.hid (H4.out.below hb3)
  have H5 := Lib.hid (H5.out.below hb3)
  have H6 := Lib.hid (H6.out.below hb3)
  have H7 : Hid (Byt w3 (v7) (D)) := h7
  clear h24 h25 h26 h23 h27 h7 hb3
  refine wpList_nil ?_
  go_simp
  go_upto_region 4 with (fail)
  refine wp_region_see 25 [29, 30, 31, 32, 33, 34, 35, 36, 37, 38, 39, 40, 41, 42, 43, 44, 45, 46, 47, 48, 49, 50, 51, 52, 53] [(29, .is (.bool true)), (30, .is (.bool false)), (31, .is (.bool false)), (32, .byt (D)), (33, .is (.string (sOf (D)))), (34, .byt (p)), (35, .byt (D)), (36, .is (.string (sOf (D)))), (37, .is (.bool false)), (38, .is (.bool false)), (39, .is (.bool false)), (40, .byt (S)), (41, .is (.string (sOf (S)))), (42, .byt (q)), (43, .byt (p)), (44, .byt (S)), (45, .is (.string (sOf (S)))), (46, .is (.bool false)), (47, .is (.bool false)), (48, .is (.bool false)), (49, .byt (S)), (50, .byt (p)), (51, .is (.int .i64 (ordI (nv S) (nv p)))), (52, .is (.bool false)), (53, .is (.bool false))] (by kernel_rfl) (by kernel_rfl) (by rfl) ?_ ?_
  · refine seeOps_cons ?_ (seeOps_cons ?_ (seeOps_cons ?_ (seeOps_cons ?_ (seeOps_cons ?_ (seeOps_cons ?_ (seeOps_cons ?_ (seeOps_cons ?_ (seeOps_cons ?_ (seeOps_cons ?_ (seeOps_cons ?_ (seeOps_cons ?_ (seeOps_cons ?_ (seeOps_cons ?_ (seeOps_cons ?_ (seeOps_cons ?_ (seeOps_cons ?_ (seeOps_cons ?_ (seeOps_cons ?_ (seeOps_cons ?_ (seeOps_cons ?_ (seeOps_cons ?_ (seeOps_cons ?_ (seeOps_cons ?_ (seeOps_cons ?_ seeOps_nil))))))))))))))))))))))))
    · intro w2 hb2 fr hout hin
      have h8 : fr.tmps.getD 8 undef = .bool true := hout 8 (by decide)
      exact relStep_move (.tmp 8) rfl (wanted_none rfl) h8
    · intro w2 hb2 fr hout hin
      have h29 : fr.tmps.getD 29 undef = .bool true := hin 29 (by decide) (by decide)
      exact op_not (.tmp 29) _ rfl h29 (wanted_none rfl) rfl
    · intro w2 hb2 fr hout hin
      have h30 : fr.tmps.getD 30 undef = .bool false := hin 30 (by decide) (by decide)
      exact relStep_move (.tmp 30) rfl (wanted_none rfl) h30
    · intro w2 hb2 fr hout hin
      have h31 : fr.tmps.getD 31 undef = .bool false := hin 31 (by decide) (by decide)
      have h7 : Byt w2 (fr.tmps.getD 7 undef) (D) := by
        have e : fr.tmps.getD 7 undef = v7 := hout 7 (by decide)
        rw [e]; exact H7.out.below hb2
      exact relStep_move (.tmp 7) rfl (wanted_some (g := 2) (t := 31) (b := false) rfl rfl h31) h7
    · intro w2 hb2 fr hout hin
      have h31 : fr.tmps.getD 31 undef = .bool false := hin 31 (by decide) (by decide)
      have h32 : Byt w2 (fr.tmps.getD 32 undef) (D) := hin 32 (by decide) (by decide)
      exact op_str (.tmp 32) rfl h32 (wanted_some (g := 2) (t := 31) (b := false) rfl rfl h31) rfl
    · intro w2 hb2 fr hout hin
      have h31 : fr.tmps.getD 31 undef = .bool false := hin 31 (by decide) (by decide)
      have h3 : Byt w2 (fr.tmps.getD 3 undef) (p) := by
        have e : fr.tmps.getD 3 undef = v3 := hout 3 (by decide)
        rw [e]; exact H3.out.below hb2
      exact relStep_move (.tmp 3) rfl (wanted_some (g := 2) (t := 31) (b := false) rfl rfl h31) h3
    · intro w2 hb2 fr hout hin
      have h31 : fr.tmps.getD 31 undef = .bool false := hin 31 (by decide) (by decide)
      have h34 : Byt w2 (fr.tmps.getD 34 undef) (p) := hin 34 (by decide) (by decide)
      exact op_call1 (.tmp 34) rfl en_trim (wanted_some (g := 2) (t := 31) (b := false) rfl rfl h31) (by have k := (trim_v _ h34 (by have := HLp.out; omega)); rw [Ec3.out] at k; exact k) (fun _ _ h => h)
    · intro w2 hb2 fr hout hin
      have h31 : fr.tmps.getD 31 undef = .bool false := hin 31 (by decide) (by decide)
      have h35 : Byt w2 (fr.tmps.getD 35 undef) (D) := hin 35 (by decide) (by decide)
      exact op_str (.tmp 35) rfl h35 (wanted_some (g := 2) (t := 31) (b := false) rfl rfl h31) rfl
    · intro w2 hb2 fr hout hin
      have h31 : fr.tmps.getD 31 undef = .bool false := hin 31 (by decide) (by decide)
      have h33 : fr.tmps.getD 33 undef = .string (sOf (D)) := hin 33 (by decide) (by decide)
      have h36 : fr.tmps.getD 36 undef = .string (sOf (D)) := hin 36 (by decide) (by decide)
      exact op_neS (.tmp 33) (.tmp 36) _ rfl h33 h36 (wanted_some (g := 2) (t := 31) (b := false) rfl rfl h31) rfl
    · intro w2 hb2 fr hout hin
      have h31 : fr.tmps.getD 31 undef = .bool false := hin 31 (by decide) (by decide)
      have h37 : fr.tmps.getD 37 undef = .bool false := hin 37 (by decide) (by decide)
      exact relStep_pickF (.tmp 31) (.const (.bool true)) (.tmp 37) rfl h31 (wanted_none rfl) h37
    · intro w2 hb2 fr hout hin
      have h38 : fr.tmps.getD 38 undef = .bool false := hin 38 (by decide) (by decide)
      exact relStep_move (.tmp 38) rfl (wanted_none rfl) h38
    · intro w2 hb2 fr hout hin
      have h39 : fr.tmps.getD 39 undef = .bool false := hin 39 (by decide) (by decide)
      have h6 : Byt w2 (fr.tmps.getD 6 undef) (S) := by
        have e : fr.tmps.getD 6 undef = v6 := hout 6 (by decide)
        rw [e]; exact H6.out.below hb2
      exact relStep_move (.tmp 6) rfl (wanted_some (g := 10) (t := 39) (b := false) rfl rfl h39) h6
    · intro w2 hb2 fr hout hin
      have h39 : fr.tmps.getD 39 undef = .bool false := hin 39 (by decide) (by decide)
      have h40 : Byt w2 (fr.tmps.getD 40 undef) (S) := hin 40 (by decide) (by decide)
      exact op_str (.tmp 40) rfl h40 (wanted_some (g := 10) (t := 39) (b := false) rfl rfl h39) rfl
    · intro w2 hb2 fr hout hin
      have h39 : fr.tmps.getD 39 undef = .bool false := hin 39 (by decide) (by decide)
      have h4 : Byt w2 (fr.tmps.getD 4 undef) (q) := by
        have e : fr.tmps.getD 4 undef = v4 := hout 4 (by decide)
        rw [e]; exact H4.out.below hb2
      exact relStep_move (.tmp 4) rfl (wanted_some (g := 10) (t := 39) (b := false) rfl rfl h39) h4
    · intro w2 hb2 fr hout hin
      have h39 : fr.tmps.getD 39 undef = .bool false := hin 39 (by decide) (by decide)
      have h3 : Byt w2 (fr.tmps.getD 3 undef) (p) := by
        have e : fr.tmps.getD 3 undef = v3 := hout 3 (by decide)
        rw [e]; exact H3.out.below hb2
      exact relStep_move (.tmp 3) rfl (wanted_some (g := 10) (t := 39) (b := false) rfl rfl h39) h3
    · intro w2 hb2 fr hout hin
      have h39 : fr.tmps.getD 39 undef = .bool false := hin 39 (by decide) (by decide)
      have h42 : Byt w2 (fr.tmps.getD 42 undef) (q) := hin 42 (by decide) (by decide)
      have h43 : Byt w2 (fr.tmps.getD 43 undef) (p) := hin 43 (by decide) (by decide)
      exact op_call2 (.tmp 42) (.tmp 43) rfl en_add (wanted_some (g := 10) (t := 39) (b := false) rfl rfl h39) (by have k := (add_v _ h42 h43 (by have := HLq.out; omega) (by have := HLp.out; omega)); rw [Ec4.out] at k; exact k) (fun _ _ h => h)
    · intro w2 hb2 fr hout hin
      have h39 : fr.tmps.getD 39 undef = .bool false := hin 39 (by decide) (by decide)
      have h44 : Byt w2 (fr.tmps.getD 44 undef) (S) := hin 44 (by decide) (by decide)
      exact op_str (.tmp 44) rfl h44 (wanted_some (g := 10) (t := 39) (b := false) rfl rfl h39) rfl
    · intro w2 hb2 fr hout hin
      have h39 : fr.tmps.getD 39 undef = .bool false := hin 39 (by decide) (by decide)
      have h41 : fr.tmps.getD 41 undef = .string (sOf (S)) := hin 41 (by decide) (by decide)
      have h45 : fr.tmps.getD 45 undef = .string (sOf (S)) := hin 45 (by decide) (by decide)
      exact op_neS (.tmp 41) (.tmp 45) _ rfl h41 h45 (wanted_some (g := 10) (t := 39) (b := false) rfl rfl h39) rfl
    · intro w2 hb2 fr hout hin
      have h39 : fr.tmps.getD 39 undef = .bool false := hin 39 (by decide) (by decide)
      have h46 : fr.tmps.getD 46 undef = .bool false := hin 46 (by decide) (by decide)
      exact relStep_pickF (.tmp 39) (.const (.bool true)) (.tmp 46) rfl h39 (wanted_none rfl) h46
    · intro w2 hb2 fr hout hin
      have h47 : fr.tmps.getD 47 undef = .bool false := hin 47 (by decide) (by decide)
      exact relStep_move (.tmp 47) rfl (wanted_none rfl) h47
    · intro w2 hb2 fr hout hin
      have h48 : fr.tmps.getD 48 undef = .bool false := hin 48 (by decide) (by decide)
      have h6 : Byt w2 (fr.tmps.getD 6 undef) (S) := by
        have e : fr.tmps.getD 6 undef = v6 := hout 6 (by decide)
        rw [e]; exact H6.out.below hb2
      exact relStep_move (.tmp 6) rfl (wanted_some (g := 19) (t := 48) (b := false) rfl rfl h48) h6
    · intro w2 hb2 fr hout hin
      have h48 : fr.tmps.getD 48 undef = .bool false := hin 48 (by decide) (by decide)
      have h3 : Byt w2 (fr.tmps.getD 3 undef) (p) := by
        have e : fr.tmps.getD 3 undef = v3 := hout 3 (by decide)
        rw [e]; exact H3.out.below hb2
      exact relStep_move (.tmp 3) rfl (wanted_some (g := 19) (t := 48) (b := false) rfl rfl h48) h3
    · intro w2 hb2 fr hout hin
      have h48 : fr.tmps.getD 48 undef = .bool false := hin 48 (by decide) (by decide)
      have h49 : Byt w2 (fr.tmps.getD 49 undef) (S) := hin 49 (by decide) (by decide)
      have h50 : Byt w2 (fr.tmps.getD 50 undef) (p) := hin 50 (by decide) (by decide)
      exact op_call2 (.tmp 49) (.tmp 50) rfl en_cmp (wanted_some (g := 19) (t := 48) (b := false) rfl rfl h48) (cmp_v _ h49 h50 (by have := HLS.out; omega) (by have := HLp.out; omega)) (fun _ _ h => h)
    · intro w2 hb2 fr hout hin
      have h48 : fr.tmps.getD 48 undef = .bool false := hin 48 (by decide) (by decide)
      have h51 : fr.tmps.getD 51 undef = .int .i64 (ordI (nv S) (nv p)) := hin 51 (by decide) (by decide)
      exact op_cmp .lss (.tmp 51) (.const (.int .i64 0)) _ rfl h51 rfl (HC1.out) (wanted_some (g := 19) (t := 48) (b := false) rfl rfl h48) rfl
    · intro w2 hb2 fr hout hin
      have h48 : fr.tmps.getD 48 undef = .bool false := hin 48 (by decide) (by decide)
      have h52 : fr.tmps.getD 52 undef = .bool false := hin 52 (by decide) (by decide)
      exact relStep_pickF (.tmp 48) (.const (.bool true)) (.tmp 52) rfl h48 (wanted_none rfl) h52
  intro w4 hb4
  refine relAsk_in (by rfl) ?_
  intro v29 h29
  obtain rfl : v29 = .bool true := h29
  refine relAsk_in (by rfl) ?_
  intro v30 h30
  obtain rfl : v30 = .bool false := h30
  refine relAsk_in (by rfl) ?_
  intro v31 h31
  obtain rfl : v31 = .bool false := h31
  refine relAsk_in (by rfl) ?_
  intro v32 h32
  refine relAsk_in (by rfl) ?_
  intro v33 h33
  obtain rfl : v33 = .string (sOf (D)) := h33
  refine relAsk_in (by rfl) ?_
  intro v34 h34
  refine relAsk_in (by rfl) ?_
  intro v35 h35
  refine relAsk_in (by rfl) ?_
  intro v36 h36
  obtain rfl : v36 = .string (sOf (D)) := h36
  refine relAsk_in (by rfl) ?_
  intro v37 h37
  obtain rfl : v37 = .bool false := h37
  refine relAsk_in (by rfl) ?_
  intro v38 h38
  obtain rfl : v38 = .bool false := h38
  refine relAsk_in (by rfl) ?_
  intro v39 h39
  obtain rfl : v39 = .bool false := h39
  refine relAsk_in (by rfl) ?_
  intro v40 h40
  refine relAsk_in (by rfl) ?_
  intro v41 h41
  obtain rfl : v41 = .string (sOf (S)) := h41
  refine relAsk_in (by rfl) ?_
  intro v42 h42
  refine relAsk_in (by rfl) ?_
  intro v43 h43
  refine relAsk_in (by rfl) ?_
  intro v44 h44
  refine relAsk_in (by rfl) ?_
  intro v45 h45
  obtain rfl : v45 = .string (sOf (S)) := h45
  refine relAsk_in (by rfl) ?_
  intro v46 h46
  obtain rfl : v46 = .bool false := h46
  refine relAsk_in (by rfl) ?_
  intro v47 h47
  obtain rfl : v47 = .bool false := h47
  refine relAsk_in (by rfl) ?_
  intro v48 h48
  obtain rfl : v48 = .bool false := h48
  refine relAsk_in (by rfl) ?_
  intro v49 h49
  refine relAsk_in (by rfl) ?_
  intro v50 h50
  refine relAsk_in (by rfl) ?_
  intro v51 h51
  obtain rfl : v51 = .int .i64 (ordI (nv S) (nv p)) := h51
  refine relAsk_in (by rfl) ?_
  intro v52 h52
  obtain rfl : v52 = .bool false := h52
  refine relAsk_in (by rfl) ?_
  intro v53 h53
  obtain rfl : v53 = .bool false := h53
  refine relAsk_nil ?_
  have RA := Lib.hid (RA.out.below hb4)
  have RB := Lib.hid (RB.out.below hb4)
  have RM := Lib.hid (RM.out.below hb4)
  have HX := Lib.hid (HX.out.below hb4)
  have HW := Lib.hid (HW.out.trans (hb4.mono HW.out.size))
  have H3 := Lib.hid (H3.out.below hb4)
  have H4 := Lib.hid (H4.out.below hb4)
  have H5 := Lib.hid (H5.out.below hb4)
  have H6 := Lib.hid (H6.out.below hb4)
  have H7 := Lib.hid (H7.out.below hb4)
  clear h32 h34 h35 h40 h42 h43 h44 h49 h50 hb4
  refine wpList_nil ?_
  go_simp
  go_upto_region 6 with (fail)
  refine wp_region_see 26 [54, 55, 56, 57, 58, 59, 60, 61, 62, 63, 64, 65, 66, 67, 68, 69, 70, 71, 72, 73, 74, 75, 76, 77, 78, 79] [(54, .byt (p)), (55, .byt (q)), (56, .byt (r)), (57, .byt (T)), (58, .byt (X1)), (59, .is (.string (sOf (X1)))), (60, .byt (p)), (61, .byt (q)), (62, .byt (U)), (63, .byt (p)), (64, .byt (r)), (65, .byt (V)), (66, .byt (X1)), (67, .is (.string (sOf (X1)))), (68, .is (.bool false)), (69, .is (.bool false)), (70, .byt (p)), (71, .byt (q)), (72, .byt (U)), (73, .is (.string (sOf (U)))), (74, .byt (q)), (75, .byt (p)), (76, .byt (U)), (77, .is (.string (sOf (U)))), (78, .is (.bool false)), (79, .is (.bool false))] (by kernel_rfl) (by kernel_rfl) (by rfl) ?_ ?_
  · refine seeOps_cons ?_ (seeOps_cons ?_ (seeOps_cons ?_ (seeOps_cons ?_ (seeOps_cons ?_ (seeOps_cons ?_ (seeOps_cons ?_ (seeOps_cons ?_ (seeOps_cons ?_ (seeOps_cons ?_ (seeOps_cons ?_ (seeOps_cons ?_ (seeOps_cons ?_ (seeOps_cons ?_ (seeOps_cons ?_ (seeOps_cons ?_ (seeOps_cons ?_ (seeOps_cons ?_ (seeOps_cons ?_ (seeOps_cons ?_ (seeOps_cons ?_ (seeOps_cons ?_ (seeOps_cons ?_ (seeOps_cons ?_ (seeOps_cons ?_ (seeOps_cons ?_ seeOps_nil)))))))))))))))))))))))))
    · intro w2 hb2 fr hout hin
      have h3 : Byt w2 (fr.tmps.getD 3 undef) (p) := by
        have e : fr.tmps.getD 3 undef = v3 := hout 3 (by decide)
        rw [e]; exact H3.out.below hb2
      exact relStep_move (.tmp 3) rfl (wanted_none rfl) h3
    · intro w2 hb2 fr hout hin
      have h4 : Byt w2 (fr.tmps.getD 4 undef) (q) := by
        have e : fr.tmps.getD 4 undef = v4 := hout 4 (by decide)
        rw [e]; exact H4.out.below hb2
      exact relStep_move (.tmp 4) rfl (wanted_none rfl) h4
    · intro w2 hb2 fr hout hin
      have h5 : Byt w2 (fr.tmps.getD 5 undef) (r) := by
        have e : fr.tmps.getD 5 undef = v5 := hout 5 (by decide)
        rw [e]; exact H5.out.below hb2
      exact relStep_move (.tmp 5) rfl (wanted_none rfl) h5
    · intro w2 hb2 fr hout hin
      have h55 : Byt w2 (fr.tmps.getD 55 undef) (q) := hin 55 (by decide) (by decide)
      have h56 : Byt w2 (fr.tmps.getD 56 undef) (r) := hin 56 (by decide) (by decide)
      exact op_call2 (.tmp 55) (.tmp 56) rfl en_add (wanted_none rfl) (by have k := (add_v _ h55 h56 (by have := HLq.out; omega) (by have := HLr.out; omega)); rw [Ec5.out] at k; exact k) (fun _ _ h => h)
    · intro w2 hb2 fr hout hin
      have h54 : Byt w2 (fr.tmps.getD 54 undef) (p) := hin 54 (by decide) (by decide)
      have h57 : Byt w2 (fr.tmps.getD 57 undef) (T) := hin 57 (by decide) (by decide)
      exact op_call2 (.tmp 54) (.tmp 57) rfl en_mul (wanted_none rfl) (by have k := (mul_v _ h54 h57 (by have := HLp.out; omega) (by have := HLT.out; omega)); rw [Ec6.out] at k; exact k) (fun _ _ h => h)
    · intro w2 hb2 fr hout hin
      have h58 : Byt w2 (fr.tmps.getD 58 undef) (X1) := hin 58 (by decide) (by decide)
      exact op_str (.tmp 58) rfl h58 (wanted_none rfl) rfl
    · intro w2 hb2 fr hout hin
      have h3 : Byt w2 (fr.tmps.getD 3 undef) (p) := by
        have e : fr.tmps.getD 3 undef = v3 := hout 3 (by decide)
        rw [e]; exact H3.out.below hb2
      exact relStep_move (.tmp 3) rfl (wanted_none rfl) h3
    · intro w2 hb2 fr hout hin
      have h4 : Byt w2 (fr.tmps.getD 4 undef) (q) := by
        have e : fr.tmps.getD 4 undef = v4 := hout 4 (by decide)
        rw [e]; exact H4.out.below hb2
      exact relStep_move (.tmp 4) rfl (wanted_none rfl) h4
    · intro w2 hb2 fr hout hin
      have h60 : Byt w2 (fr.tmps.getD 60 undef) (p) := hin 60 (by decide) (by decide)
      have h61 : Byt w2 (fr.tmps.getD 61 undef) (q) := hin 61 (by decide) (by decide)
      exact op_call2 (.tmp 60) (.tmp 61) rfl en_mul (wanted_none rfl) (by have k := (mul_v _ h60 h61 (by have := HLp.out; omega) (by have := HLq.out; omega)); rw [Ec7.out] at k; exact k) (fun _ _ h => h)
    · intro w2 hb2 fr hout hin
      have h3 : Byt w2 (fr.tmps.getD 3 undef) (p) := by
        have e : fr.tmps.getD 3 undef = v3 := hout 3 (by decide)
        rw [e]; exact H3.out.below hb2
      exact relStep_move (.tmp 3) rfl (wanted_none rfl) h3
    · intro w2 hb2 fr hout hin
      have h5 : Byt w2 (fr.tmps.getD 5 undef) (r) := by
        have e : fr.tmps.getD 5 undef = v5 := hout 5 (by decide)
        rw [e]; exact H5.out.below hb2
      exact relStep_move (.tmp 5) rfl (wanted_none rfl) h5
    · intro w2 hb2 fr hout hin
      have h63 : Byt w2 (fr.tmps.getD 63 undef) (p) := hin 63 (by decide) (by decide)
      have h64 : Byt w2 (fr.tmps.getD 64 undef) (r) := hin 64 (by decide) (by decide)
      exact op_call2 (.tmp 63) (.tmp 64) rfl en_mul (wanted_none rfl) (by have k := (mul_v _ h63 h64 (by have := HLp.out; omega) (by have := HLr.out; omega)); rw [Ec8.out] at k; exact k) (fun _ _ h => h)
    · intro w2 hb2 fr hout hin
      have h62 : Byt w2 (fr.tmps.getD 62 undef) (U) := hin 62 (by decide) (by decide)
      have h65 : Byt w2 (fr.tmps.getD 65 undef) (V) := hin 65 (by decide) (by decide)
      exact op_call2 (.tmp 62) (.tmp 65) rfl en_add (wanted_none rfl) (by have k := (add_v _ h62 h65 (by have := HLU.out; omega) (by have := HLV.out; omega)); rw [Ec9.out] at k; exact k) (fun _ _ h => h)
    · intro w2 hb2 fr hout hin
      have h66 : Byt w2 (fr.tmps.getD 66 undef) (X1) := hin 66 (by decide) (by decide)
      exact op_str (.tmp 66) rfl h66 (wanted_none rfl) rfl
    · intro w2 hb2 fr hout hin
      have h59 : fr.tmps.getD 59 undef = .string (sOf (X1)) := hin 59 (by decide) (by decide)
      have h67 : fr.tmps.getD 67 undef = .string (sOf (X1)) := hin 67 (by decide) (by decide)
      exact op_neS (.tmp 59) (.tmp 67) _ rfl h59 h67 (wanted_none rfl) rfl
    · intro w2 hb2 fr hout hin
      have h68 : fr.tmps.getD 68 undef = .bool false := hin 68 (by decide) (by decide)
      exact relStep_move (.tmp 68) rfl (wanted_none rfl) h68
    · intro w2 hb2 fr hout hin
      have h69 : fr.tmps.getD 69 undef = .bool false := hin 69 (by decide) (by decide)
      have h3 : Byt w2 (fr.tmps.getD 3 undef) (p) := by
        have e : fr.tmps.getD 3 undef = v3 := hout 3 (by decide)
        rw [e]; exact H3.out.below hb2
      exact relStep_move (.tmp 3) rfl (wanted_some (g := 15) (t := 69) (b := false) rfl rfl h69) h3
    · intro w2 hb2 fr hout hin
      have h69 : fr.tmps.getD 69 undef = .bool false := hin 69 (by decide) (by decide)
      have h4 : Byt w2 (fr.tmps.getD 4 undef) (q) := by
        have e : fr.tmps.getD 4 undef = v4 := hout 4 (by decide)
        rw [e]; exact H4.out.below hb2
      exact relStep_move (.tmp 4) rfl (wanted_some (g := 15) (t := 69) (b := false) rfl rfl h69) h4
    · intro w2 hb2 fr hout hin
      have h69 : fr.tmps.getD 69 undef = .bool false := hin 69 (by decide) (by decide)
      have h70 : Byt w2 (fr.tmps.getD 70 undef) (p) := hin 70 (by decide) (by decide)
      have h71 : Byt w2 (fr.tmps.getD 71 undef) (q) := hin 71 (by decide) (by decide)
      exact op_call2 (.tmp 70) (.tmp 71) rfl en_mul (wanted_some (g := 15) (t := 69) (b := false) rfl rfl h69) (by have k := (mul_v _ h70 h71 (by have := HLp.out; omega) (by have := HLq.out; omega)); rw [Ec7.out] at k; exact k) (fun _ _ h => h)
    · intro w2 hb2 fr hout hin
      have h69 : fr.tmps.getD 69 undef = .bool false := hin 69 (by decide) (by decide)
      have h72 : Byt w2 (fr.tmps.getD 72 undef) (U) := hin 72 (by decide) (by decide)
      exact op_str (.tmp 72) rfl h72 (wanted_some (g := 15) (t := 69) (b := false) rfl rfl h69) rfl
    · intro w2 hb2 fr hout hin
      have h69 : fr.tmps.getD 69 undef = .bool false := hin 69 (by decide) (by decide)
      have h4 : Byt w2 (fr.tmps.getD 4 undef) (q) := by
        have e : fr.tmps.getD 4 undef = v4 := hout 4 (by decide)
        rw [e]; exact H4.out.below hb2
      exact relStep_move (.tmp 4) rfl (wanted_some (g := 15) (t := 69) (b := false) rfl rfl h69) h4
    · intro w2 hb2 fr hout hin
      have h69 : fr.tmps.getD 69 undef = .bool false := hin 69 (by decide) (by decide)
      have h3 : Byt w2 (fr.tmps.getD 3 undef) (p) := by
        have e : fr.tmps.getD 3 undef = v3 := hout 3 (by decide)
        rw [e]; exact H3.out.below hb2
      exact relStep_move (.tmp 3) rfl (wanted_some (g := 15) (t := 69) (b := false) rfl rfl h69) h3
    · intro w2 hb2 fr hout hin
      have h69 : fr.tmps.getD 69 undef = .bool false := hin 69 (by decide) (by decide)
      have h74 : Byt w2 (fr.tmps.getD 74 undef) (q) := hin 74 (by decide) (by decide)
      have h75 : Byt w2 (fr.tmps.getD 75 undef) (p) := hin 75 (by decide) (by decide)
      exact op_call2 (.tmp 74) (.tmp 75) rfl en_mul (wanted_some (g := 15) (t := 69) (b := false) rfl rfl h69) (by have k := (mul_v _ h74 h75 (by have := HLq.out; omega) (by have := HLp.out; omega)); rw [Eca.out] at k; exact k) (fun _ _ h => h)
    · intro w2 hb2 fr hout hin
      have h69 : fr.tmps.getD 69 undef = .bool false := hin 69 (by decide) (by decide)
      have h76 : Byt w2 (fr.tmps.getD 76 undef) (U) := hin 76 (by decide) (by decide)
      exact op_str (.tmp 76) rfl h76 (wanted_some (g := 15) (t := 69) (b := false) rfl rfl h69) rfl
    · intro w2 hb2 fr hout hin
      have h69 : fr.tmps.getD 69 undef = .bool false := hin 69 (by decide) (by decide)
      have h73 : fr.tmps.getD 73 undef = .string (sOf (U)) := hin 73 (by decide) (by decide)
      have h77 : fr.tmps.getD 77 undef = .string (sOf (U)) := hin 77 (by decide) (by decide)
      exact op_neS (.tmp 73) (.tmp 77) _ rfl h73 h77 (wanted_some (g := 15) (t := 69) (b := false) rfl rfl h69) rfl
    · intro w2 hb2 fr hout hin
      have h69 : fr.tmps.getD 69 undef = .bool false := hin 69 (by decide) (by decide)
      have h78 : fr.tmps.getD 78 undef = .bool false := hin 78 (by decide) (by decide)
      exact relStep_pickF (.tmp 69) (.const (.bool true)) (.tmp 78) rfl h69 (wanted_none rfl) h78
  intro w5 hb5
  refine relAsk_in (by rfl) ?_
  intro v54 h54
  refine relAsk_in (by rfl) ?_
  intro v55 h55
  refine relAsk_in (by rfl) ?_
  intro v56 h56
  refine relAsk_in (by rfl) ?_
  intro v57 h57
  refine relAsk_in (by rfl) ?_
  intro v58 h58
  refine relAsk_in (by rfl) ?_
  intro v59 h59
  obtain rfl : v59 = .string (sOf (X1)) := h59
  refine relAsk_in (by rfl) ?_
  intro v60 h60
  refine relAsk_in (by rfl) ?_
  intro v61 h61
  refine relAsk_in (by rfl) ?_
  intro v62 h62
  refine relAsk_in (by rfl) ?_
  intro v63 h63
  refine relAsk_in (by rfl) ?_
  intro v64 h64
  refine relAsk_in (by rfl) ?_
  intro v65 h65
  refine relAsk_in (by rfl) ?_
  intro v66 h66
  refine relAsk_in (by rfl) ?_
  intro v67 h67
  obtain rfl : v67 = .string (sOf (X1)) := h67
  refine relAsk_in (by rfl) ?_
  intro v68 h68
  obtain rfl : v68 = .bool false := h68
  refine relAsk_in (by rfl) ?_
  intro v69 h69
  obtain rfl : v69 = .bool false := h69
  refine relAsk_in (by rfl) ?_
  intro v70 h70
  refine relAsk_in (by rfl) ?_
  intro v71 h71
  refine relAsk_in (by rfl) ?_
  intro v72 h72
  refine relAsk_in (by rfl) ?_
  intro v73 h73
  obtain rfl : v73 = .string (sOf (U)) := h73
  refine relAsk_in (by rfl) ?_
  intro v74 h74
  refine relAsk_in (by rfl) ?_
  intro v75 h75
  refine relAsk_in (by rfl) ?_
  intro v76 h76
  refine relAsk_in (by rfl) ?_
  intro v77 h77
  obtain rfl : v77 = .string (sOf (U)) := h77
  refine relAsk_in (by rfl) ?_
  intro v78 h78
  obtain rfl : v78 = .bool false := h78
  refine relAsk_in (by rfl) ?_
  intro v79 h79
  obtain rfl : v79 = .bool false := h79
  refine relAsk_nil ?_
  have RA := Lib.hid (RA.out.below hb5)
  have RB := Lib.hid (RB.out.below hb5)
  have RM := Lib.hid (RM.out.below hb5)
  have HX := Lib.hid (HX.out.below hb5)
  have HW := Lib.hid (HW.out.trans (hb5.mono HW.out.size))
  have H3 := Lib.hid (H3.out.below hb5)
  have H4 := Lib.hid (H4.out.below hb5)
  have H5 := Lib.hid (H5.out.below hb5)
  have H6 := Lib.hid (H6.out.below hb5)
  have H7 := Lib.hid (H7.out.below hb5)
  clear h54 h55 h56 h57 h58 h60 h61 h62 h63 h64 h65 h66 h70 h71 h72 h74 h75 h76 hb5
  refine wpList_nil ?_
  go_simp
  go_upto_region 8 with (fail)
  refine wp_region_seq 10 [81, 82, 83, 80, 84, 85, 86, 9, 10, 8] [(81, .byt (p)), (82, .byt (q)), (83, .is (.tuple #[.slice none 0 0, .slice none 0 0, .bool false])), (80, .is (.tuple #[.slice none 0 0, .slice none 0 0, .bool false])), (84, .is (.slice none 0 0)), (85, .is (.slice none 0 0)), (86, .is (.bool false)), (9, .is (.slice none 0 0)), (10, .is (.slice none 0 0)), (8, .is (.bool false))] (by kernel_rfl) (by rfl) ?_ ?_
  · refine seeOps_cons ?_ (seeOps_cons ?_ (seeOps_cons ?_ (seeOps_cons ?_ (seeOps_cons ?_ (seeOps_cons ?_ (seeOps_cons ?_ (seeOps_cons ?_ (seeOps_cons ?_ (seeOps_cons ?_ seeOps_nil)))))))))
    · intro w2 hb2 fr hout hin
      have h3 : Byt w2 (fr.tmps.getD 3 undef) (p) := by
        have e : fr.tmps.getD 3 undef = v3 := hout 3 (by decide)
        rw [e]; exact H3.out.below hb2
      exact relStep_move (.tmp 3) rfl (wanted_none rfl) h3
    · intro w2 hb2 fr hout hin
      have h4 : Byt w2 (fr.tmps.getD 4 undef) (q) := by
        have e : fr.tmps.getD 4 undef = v4 := hout 4 (by decide)
        rw [e]; exact H4.out.below hb2
      exact relStep_move (.tmp 4) rfl (wanted_none rfl) h4
    · intro w2 hb2 fr hout hin
      have h81 : Byt w2 (fr.tmps.getD 81 undef) (p) := hin 81 (by decide) (by decide)
      have h82 : Byt w2 (fr.tmps.getD 82 undef) (q) := hin 82 (by decide) (by decide)
      exact op_call2 (.tmp 81) (.tmp 82) rfl en_dm (wanted_none rfl) (dmno_v _ h81 h82 (by have := HLq.out; omega) HZ.out) (fun _ _ h => h)
    · intro w2 hb2 fr hout hin
      have h83 : fr.tmps.getD 83 undef = .tuple #[.slice none 0 0, .slice none 0 0, .bool false] := hin 83 (by decide) (by decide)
      exact relStep_move (.tmp 83) rfl (wanted_none rfl) h83
    · intro w2 hb2 fr hout hin
      have h80 : fr.tmps.getD 80 undef = .tuple #[.slice none 0 0, .slice none 0 0, .bool false] := hin 80 (by decide) (by decide)
      exact op_ext (.tmp 80) 0 rfl h80 rfl (wanted_none rfl) rfl
    · intro w2 hb2 fr hout hin
      have h80 : fr.tmps.getD 80 undef = .tuple #[.slice none 0 0, .slice none 0 0, .bool false] := hin 80 (by decide) (by decide)
      exact op_ext (.tmp 80) 1 rfl h80 rfl (wanted_none rfl) rfl
    · intro w2 hb2 fr hout hin
      have h80 : fr.tmps.getD 80 undef = .tuple #[.slice none 0 0, .slice none 0 0, .bool false] := hin 80 (by decide) (by decide)
      exact op_ext (.tmp 80) 2 rfl h80 rfl (wanted_none rfl) rfl
    · intro w2 hb2 fr hout hin
      have h84 : fr.tmps.getD 84 undef = .slice none 0 0 := hin 84 (by decide) (by decide)
      exact relStep_assign (.tmp 84) rfl (wanted_none rfl) h84
    · intro w2 hb2 fr hout hin
      have h85 : fr.tmps.getD 85 undef = .slice none 0 0 := hin 85 (by decide) (by decide)
      exact relStep_assign (.tmp 85) rfl (wanted_none rfl) h85
    · intro w2 hb2 fr hout hin
      have h86 : fr.tmps.getD 86 undef = .bool false := hin 86 (by decide) (by decide)
      exact relStep_assign (.tmp 86) rfl (wanted_none rfl) h86
  intro w6 hb6
  refine relAsk_in (by rfl) ?_
  intro v81 h81
  refine relAsk_in (by rfl) ?_
  intro v82 h82
  refine relAsk_in (by rfl) ?_
  intro v83 h83
  obtain rfl : v83 = .tuple #[.slice none 0 0, .slice none 0 0, .bool false] := h83
  refine relAsk_in (by rfl) ?_
  intro v80 h80
  obtain rfl : v80 = .tuple #[.slice none 0 0, .slice none 0 0, .bool false] := h80
  refine relAsk_in (by rfl) ?_
  intro v84 h84
  obtain rfl : v84 = .slice none 0 0 := h84
  refine relAsk_in (by rfl) ?_
  intro v85 h85
  obtain rfl : v85 = .slice none 0 0 := h85
  refine relAsk_in (by rfl) ?_
  intro v86 h86
  obtain rfl : v86 = .bool false := h86
  refine relAsk_in (by rfl) ?_
  intro v9 h9
  obtain rfl : v9 = .slice none 0 0 := h9
  refine relAsk_in (by rfl) ?_
  intro v10 h10
  obtain rfl : v10 = .slice none 0 0 := h10
  refine relAsk_in (by rfl) ?_
  intro v8 h8
  obtain rfl : v8 = .bool false := h8
  refine relAsk_nil ?_
  have RA := Lib.hid (RA.out.below hb6)
  have RB := Lib.hid (RB.out.below hb6)
  have RM := Lib.hid (RM.out.below hb6)
  have HX := Lib.hid (HX.out.below hb6)
  have HW := Lib.hid (HW.out.trans (hb6.mono HW.out.size))
  have H3 := Lib.hid (H3.out.below hb6)
  have H4 := Lib.hid (H4.out.below hb6)
  have H5 := Lib.hid (H5.out.below hb6)
  have H6 := Lib.hid (H6.out.below hb6)
  have H7 := Lib.hid (H7.out.below hb6)
  clear h81 h82 hb6
  refine wpList_nil ?_
  go_simp
  go_upto_region 9 with (fail)
  refine wp_region_seq 2 [87, 88] [(87, .is (.bool false)), (88, .is (.bool true))] (by kernel_rfl) (by rfl) ?_ ?_
  · refine seeOps_cons ?_ (seeOps_cons ?_ seeOps_nil)
    · intro w2 hb2 fr hout hin
      have h8 : fr.tmps.getD 8 undef = .bool false := hout 8 (by decide)
      exact relStep_move (.tmp 8) rfl (wanted_none rfl) h8
    · intro w2 hb2 fr hout hin
      have h87 : fr.tmps.getD 87 undef = .bool false := hin 87 (by decide) (by decide)
      exact op_not (.tmp 87) _ rfl h87 (wanted_none rfl) rfl
  intro w7 hb7
  refine relAsk_in (by rfl) ?_
  intro v87 h87
  obtain rfl : v87 = .bool false := h87
  refine relAsk_in (by rfl) ?_
  intro v88 h88
  obtain rfl : v88 = .bool true := h88
  refine relAsk_nil ?_
  have RA := Lib.hid (RA.out.below hb7)
  have RB := Lib.hid (RB.out.below hb7)
  have RM := Lib.hid (RM.out.below hb7)
  have HX := Lib.hid (HX.out.below hb7)
  have HW := Lib.hid (HW.out.trans (hb7.mono HW.out.size))
  have H3 := Lib.hid (H3.out.below hb7)
  have H4 := Lib.hid (H4.out.below hb7)
  have H5 := Lib.hid (H5.out.below hb7)
  have H6 := Lib.hid (H6.out.below hb7)
  have H7 := Lib.hid (H7.out.below hb7)
  clear hb7
  refine wpList_nil ?_
  go_simp
  go_upto_region 10 with (fail)
  refine wp_region_seq 8 [89, 90, 91, 92, 93, 94, 95, 2] [(89, .byt (q)), (90, .byt (([] : List Nat))), (91, .is (.int .i64 (((([] : List Nat)).length : Nat) : Int))), (92, .is (.bool true)), (93, .is (.bool true)), (94, .is (.bool true)), (95, .is (.bool true)), (2, .is (.bool true))] (by kernel_rfl) (by rfl) ?_ ?_
  · refine seeOps_cons ?_ (seeOps_cons ?_ (seeOps_cons ?_ (seeOps_cons ?_ (seeOps_cons ?_ (seeOps_cons ?_ (seeOps_cons ?_ (seeOps_cons ?_ seeOps_nil)))))))
    · intro w2 hb2 fr hout hin
      have h4 : Byt w2 (fr.tmps.getD 4 undef) (q) := by
        have e : fr.tmps.getD 4 undef = v4 := hout 4 (by decide)
        rw [e]; exact H4.out.below hb2
      exact relStep_move (.tmp 4) rfl (wanted_none rfl) h4
    · intro w2 hb2 fr hout hin
      have h89 : Byt w2 (fr.tmps.getD 89 undef) (q) := hin 89 (by decide) (by decide)
      exact op_call1 (.tmp 89) rfl en_trim (wanted_none rfl) (by have k := (trim_v _ h89 (by have := HLq.out; omega)); rw [Ecb.out] at k; exact k) (fun _ _ h => h)
    · intro w2 hb2 fr hout hin
      have h90 : Byt w2 (fr.tmps.getD 90 undef) (([] : List Nat)) := hin 90 (by decide) (by decide)
      exact op_len (bs := (([] : List Nat))) (.tmp 90) rfl h90 (wanted_none rfl) rfl
    · intro w2 hb2 fr hout hin
      have h91 : fr.tmps.getD 91 undef = .int .i64 (((([] : List Nat)).length : Nat) : Int) := hin 91 (by decide) (by decide)
      exact op_cmp .eql (.tmp 91) (.const (.int .i64 0)) _ rfl h91 rfl (fun w => by go_simp) (wanted_none rfl) rfl
    · intro w2 hb2 fr hout hin
      have h92 : fr.tmps.getD 92 undef = .bool true := hin 92 (by decide) (by decide)
      exact relStep_move (.tmp 92) rfl (wanted_none rfl) h92
    · intro w2 hb2 fr hout hin
      have h93 : fr.tmps.getD 93 undef = .bool true := hin 93 (by decide) (by decide)
      exact op_call0 rfl en_wakes (wanted_some (g := 4) (t := 93) (b := true) rfl rfl h93) (nwakes_v _) (fun _ _ h => h)
    · intro w2 hb2 fr hout hin
      have h93 : fr.tmps.getD 93 undef = .bool true := hin 93 (by decide) (by decide)
      have h94 : fr.tmps.getD 94 undef = .bool true := hin 94 (by decide) (by decide)
      exact relStep_pick (.tmp 93) (.tmp 94) (.const (.bool false)) rfl h93 (wanted_none rfl) h94
    · intro w2 hb2 fr hout hin
      have h95 : fr.tmps.getD 95 undef = .bool true := hin 95 (by decide) (by decide)
      exact relStep_assign (.tmp 95) rfl (wanted_none rfl) h95
  intro w8 hb8
  refine relAsk_in (by rfl) ?_
  intro v89 h89
  refine relAsk_in (by rfl) ?_
  intro v90 h90
  refine relAsk_in (by rfl) ?_
  intro v91 h91
  obtain rfl : v91 = .int .i64 (((([] : List Nat)).length : Nat) : Int) := h91
  refine relAsk_in (by rfl) ?_
  intro v92 h92
  obtain rfl : v92 = .bool true := h92
  refine relAsk_in (by rfl) ?_
  intro v93 h93
  obtain rfl : v93 = .bool true := h93
  refine relAsk_in (by rfl) ?_
  intro v94 h94
  obtain rfl : v94 = .bool true := h94
  refine relAsk_in (by rfl) ?_
  intro v95 h95
  obtain rfl : v95 = .bool true := h95
  refine relAsk_in (by rfl) ?_
  intro v2 h2
  obtain rfl : v2 = .bool true := h2
  refine relAsk_nil ?_
  have RA := Lib.hid (RA.out.below hb8)
  have RB := Lib.hid (RB.out.below hb8)
  have RM := Lib.hid (RM.out.below hb8)
  have HX := Lib.hid (HX.out.below hb8)
  have HW := Lib.hid (HW.out.trans (hb8.mono HW.out.size))
  have H3 := Lib.hid (H3.out.below hb8)
  have H4 := Lib.hid (H4.out.below hb8)
  have H5 := Lib.hid (H5.out.below hb8)
  have H6 := Lib.hid (H6.out.below hb8)
  have H7 := Lib.hid (H7.out.below hb8)
  clear h89 h90 hb8
  refine wpList_nil ?_
  go_simp
  go_wp2_with fail
  go_ret
  exact ⟨rfl, HW.out⟩

theorem natWhole_c {A B M : Option Addr} {ca cb cm : Nat} {i wide : Int} {xs ys zs : List Nat} (w : World) (hA : Rd .u8 w A ca xs) (dA : Ds 256 xs) (hB : Rd .u8 w B cb ys) (dB : Ds 256 ys) (hM : Rd .u8 w M cm zs) (dM : Ds 256 zs) :
    Calls Try.prog 15 #[.agg #[.slice A xs.length ca, .slice B ys.length cb, .slice M zs.length cm, .int .i64 i, .int .i64 wide]] w (RetV (.bool true) w) := by
  rcases Nat.eq_zero_or_pos (nv (ys.take 600)) with h | h
  · exact whole_zero w hA dA hB dB hM dM h
  · exact whole_pos w hA dA hB dB hM dM h
end Go.Proofs.Ytkalmmpgcgempaa
