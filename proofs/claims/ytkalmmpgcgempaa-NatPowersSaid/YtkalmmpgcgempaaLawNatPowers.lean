/- The law NatPowers, by the contracts of its callees. -/
import Derived.Test.YtkalmmpgcgempaaNFrame
namespace Go.Proofs.Ytkalmmpgcgempaa
open Go.RowKit

set_option maxRecDepth 100000 in
set_option maxHeartbeats 12800000 in
theorem powers_pos {A B M : Option Addr} {ca cb cm : Nat} {i wide : Int} {xs ys zs : List Nat} (w : World) (hA : Rd .u8 w A ca xs) (dA : Ds 256 xs) (hB : Rd .u8 w B cb ys) (dB : Ds 256 ys) (hM : Rd .u8 w M cm zs) (dM : Ds 256 zs) (h0 : 0 < nv (zs.take 80)) :
    Calls Try.prog 14 #[.agg #[.slice A xs.length ca, .slice B ys.length cb, .slice M zs.length cm, .int .i64 i, .int .i64 wide]] w (RetV (.bool true) w) := by
  obtain ⟨p, hp⟩ : ∃ zz, zz = xs.take 80 := ⟨_, rfl⟩
  have hlp : p.length ≤ 80 := by rw [hp, List.length_take]; omega
  have ttp : ∀ (w : World) {u : Value}, Byt w u xs → Calls Try.prog 19 #[u, .int .i64 80] w (RetR (fun w' v => Byt w' v p) w) := fun w u h => by rw [hp]; exact twin_v w h 80 (by decide) (by decide)
  have TTp80 := Lib.hid ttp
  have tap : ∀ (w : World) {u : Value}, Byt w u p → Calls Try.prog 19 #[u, .int .i64 80] w (RetR (fun w' v => Byt w' v p) w) := fun w u h => by
    have k := twin_v w h 80 (by decide) (by decide)
    rw [List.take_of_length_le (by omega)] at k
    exact k
  have TAp80 := Lib.hid tap
  clear tap
  have HLp := Lib.hid hlp
  have Hp := Lib.hid hp
  clear hlp ttp hp
  obtain ⟨q, hq⟩ : ∃ zz, zz = ys.take 40 := ⟨_, rfl⟩
  have hlq : q.length ≤ 40 := by rw [hq, List.length_take]; omega
  have ttq : ∀ (w : World) {u : Value}, Byt w u ys → Calls Try.prog 19 #[u, .int .i64 40] w (RetR (fun w' v => Byt w' v q) w) := fun w u h => by rw [hq]; exact twin_v w h 40 (by decide) (by decide)
  have TTq40 := Lib.hid ttq
  have taq : ∀ (w : World) {u : Value}, Byt w u q → Calls Try.prog 19 #[u, .int .i64 80] w (RetR (fun w' v => Byt w' v q) w) := fun w u h => by
    have k := twin_v w h 80 (by decide) (by decide)
    rw [List.take_of_length_le (by omega)] at k
    exact k
  have TAq80 := Lib.hid taq
  clear taq
  have HLq := Lib.hid hlq
  have Hq := Lib.hid hq
  clear hlq ttq hq
  obtain ⟨r, hr⟩ : ∃ zz, zz = zs.take 80 := ⟨_, rfl⟩
  have hlr : r.length ≤ 80 := by rw [hr, List.length_take]; omega
  have ttr : ∀ (w : World) {u : Value}, Byt w u zs → Calls Try.prog 19 #[u, .int .i64 80] w (RetR (fun w' v => Byt w' v r) w) := fun w u h => by rw [hr]; exact twin_v w h 80 (by decide) (by decide)
  have TTr80 := Lib.hid ttr
  have tar : ∀ (w : World) {u : Value}, Byt w u r → Calls Try.prog 19 #[u, .int .i64 80] w (RetR (fun w' v => Byt w' v r) w) := fun w u h => by
    have k := twin_v w h 80 (by decide) (by decide)
    rw [List.take_of_length_le (by omega)] at k
    exact k
  have TAr80 := Lib.hid tar
  clear tar
  have HLr := Lib.hid hlr
  have Hr := Lib.hid hr
  clear hlr ttr hr
  have HPOS := Lib.hid h0
  rw [← Hr.out] at HPOS
  clear h0
  obtain ⟨L, hL⟩ : ∃ L, L = xs.length := ⟨_, rfl⟩
  obtain ⟨K, hK⟩ : ∃ K, K = ys.length := ⟨_, rfl⟩
  obtain ⟨J, hJ⟩ : ∃ J, J = zs.length := ⟨_, rfl⟩
  have rA : Byt w (.slice A L ca) xs := ⟨A, ca, by rw [hL], hA, dA⟩
  have rB : Byt w (.slice B K cb) ys := ⟨B, cb, by rw [hK], hB, dB⟩
  have rM : Byt w (.slice M J cm) zs := ⟨M, cm, by rw [hJ], hM, dM⟩
  rw [← hL, ← hK, ← hJ]
  have hW := (Below.refl w.heap.size w).alloc (Nat.le_refl _) (.cells #[.slice A L ca, .slice B K cb, .slice M J cm, .int .i64 i, .int .i64 wide] 51)
  have hx := Box5.new w (.slice A L ca) (.slice B K cb) (.slice M J cm) (.int .i64 i) (.int .i64 wide) 51
  have RA := Lib.hid (rA.below hW)
  have RB := Lib.hid (rB.below hW)
  have RM := Lib.hid (rM.below hW)
  have HX := Lib.hid hx
  have HW := Lib.hid hW
  clear hA dA hB dB hM dM hL hK hJ rA rB rM hW hx
  go_enter Try.func14, Try.ntmps14
  go_upto_region 1 with (fail)
  generalize hX : w.alloc (.cells #[.slice A L ca, .slice B K cb, .slice M J cm, .int .i64 i, .int .i64 wide] 51) = X at *
  clear hX
  refine wp_region_seq 4 [8, 9, 10, 3] [(8, .is (.pointer (some ⟨w.heap.size, 0, none⟩))), (9, .byt (xs)), (10, .byt (p)), (3, .byt (p))] (by kernel_rfl) (by rfl) ?_ ?_
  · refine seeOps_cons ?_ (seeOps_cons ?_ (seeOps_cons ?_ (seeOps_cons ?_ seeOps_nil)))
    · intro w2 hb2 fr hout hin
      have h1 : fr.tmps.getD 1 undef = .pointer (some ⟨w.heap.size, 0, none⟩) := hout 1 (by decide)
      exact op_fieldN (.tmp 1) rfl (by decide) h1 (wanted_none rfl) rfl
    · intro w2 hb2 fr hout hin
      have h8 : fr.tmps.getD 8 undef = .pointer (some ⟨w.heap.size, 0, none⟩) := hin 8 (by decide) (by decide)
      exact op_load1 (.tmp 8) rfl (fun _ => by kernel_rfl) h8 ((HX.out.below hb2).c0) (wanted_none rfl) (RA.out.below hb2)
    · intro w2 hb2 fr hout hin
      have h9 : Byt w2 (fr.tmps.getD 9 undef) (xs) := hin 9 (by decide) (by decide)
      exact op_call2 (.tmp 9) (.const (.int .i64 80)) rfl en_twin (wanted_none rfl) (TTp80.out _ h9) (fun _ _ h => h)
    · intro w2 hb2 fr hout hin
      have h10 : Byt w2 (fr.tmps.getD 10 undef) (p) := hin 10 (by decide) (by decide)
      exact relStep_assign (.tmp 10) rfl (wanted_none rfl) h10
  intro w1 hb1
  refine relAsk_in (by rfl) ?_
  intro v8 h8
  obtain rfl : v8 = .pointer (some ⟨w.heap.size, 0, none⟩) := h8
  refine relAsk_in (by rfl) ?_
  intro v9 h9
  refine relAsk_in (by rfl) ?_
  intro v10 h10
  refine relAsk_in (by rfl) ?_
  intro v3 h3
  refine relAsk_nil ?_
  have RA := Lib.hid (RA.out.below hb1)
  have RB := Lib.hid (RB.out.below hb1)
  have RM := Lib.hid (RM.out.below hb1)
  have HX := Lib.hid (HX.out.below hb1)
  have HW := Lib.hid (HW.out.trans (hb1.mono HW.out.size))
  have H3 : Hid (Byt w1 (v3) (p)) := h3
  clear h9 h10 h3 hb1
  refine wpList_nil ?_
  go_simp
  go_upto_region 2 with (fail)
  refine wp_region_seq 4 [11, 12, 13, 4] [(11, .is (.pointer (some ⟨w.heap.size, 1, none⟩))), (12, .byt (ys)), (13, .byt (q)), (4, .byt (q))] (by kernel_rfl) (by rfl) ?_ ?_
  · refine seeOps_cons ?_ (seeOps_cons ?_ (seeOps_cons ?_ (seeOps_cons ?_ seeOps_nil)))
    · intro w2 hb2 fr hout hin
      have h1 : fr.tmps.getD 1 undef = .pointer (some ⟨w.heap.size, 0, none⟩) := hout 1 (by decide)
      exact op_fieldN (.tmp 1) rfl (by decide) h1 (wanted_none rfl) rfl
    · intro w2 hb2 fr hout hin
      have h11 : fr.tmps.getD 11 undef = .pointer (some ⟨w.heap.size, 1, none⟩) := hin 11 (by decide) (by decide)
      exact op_load1 (.tmp 11) rfl (fun _ => by kernel_rfl) h11 ((HX.out.below hb2).c1) (wanted_none rfl) (RB.out.below hb2)
    · intro w2 hb2 fr hout hin
      have h12 : Byt w2 (fr.tmps.getD 12 undef) (ys) := hin 12 (by decide) (by decide)
      exact op_call2 (.tmp 12) (.const (.int .i64 40)) rfl en_twin (wanted_none rfl) (TTq40.out _ h12) (fun _ _ h => h)
    · intro w2 hb2 fr hout hin
      have h13 : Byt w2 (fr.tmps.getD 13 undef) (q) := hin 13 (by decide) (by decide)
      exact relStep_assign (.tmp 13) rfl (wanted_none rfl) h13
  intro w2 hb2
  refine relAsk_in (by rfl) ?_
  intro v11 h11
  obtain rfl : v11 = .pointer (some ⟨w.heap.size, 1, none⟩) := h11
  refine relAsk_in (by rfl) ?_
  intro v12 h12
  refine relAsk_in (by rfl) ?_
  intro v13 h13
  refine relAsk_in (by rfl) ?_
  intro v4 h4
  refine relAsk_nil ?_
  have RA := Lib.hid (RA.out.below hb2)
  have RB := Lib.hid (RB.out.below hb2)
  have RM := Lib.hid (RM.out.below hb2)
  have HX := Lib.hid (HX.out.below hb2)
  have HW := Lib.hid (HW.out.trans (hb2.mono HW.out.size))
  have H3 := Lib.hid (H3.out.below hb2)
  have H4 : Hid (Byt w2 (v4) (q)) := h4
  clear h12 h13 h4 hb2
  refine wpList_nil ?_
  go_simp
  go_upto_region 3 with (fail)
  refine wp_region_seq 4 [14, 15, 16, 5] [(14, .is (.pointer (some ⟨w.heap.size, 2, none⟩))), (15, .byt (zs)), (16, .byt (r)), (5, .byt (r))] (by kernel_rfl) (by rfl) ?_ ?_
  · refine seeOps_cons ?_ (seeOps_cons ?_ (seeOps_cons ?_ (seeOps_cons ?_ seeOps_nil)))
    · intro w2 hb2 fr hout hin
      have h1 : fr.tmps.getD 1 undef = .pointer (some ⟨w.heap.size, 0, none⟩) := hout 1 (by decide)
      exact op_fieldN (.tmp 1) rfl (by decide) h1 (wanted_none rfl) rfl
    · intro w2 hb2 fr hout hin
      have h14 : fr.tmps.getD 14 undef = .pointer (some ⟨w.heap.size, 2, none⟩) := hin 14 (by decide) (by decide)
      exact op_load1 (.tmp 14) rfl (fun _ => by kernel_rfl) h14 ((HX.out.below hb2).c2) (wanted_none rfl) (RM.out.below hb2)
    · intro w2 hb2 fr hout hin
      have h15 : Byt w2 (fr.tmps.getD 15 undef) (zs) := hin 15 (by decide) (by decide)
      exact op_call2 (.tmp 15) (.const (.int .i64 80)) rfl en_twin (wanted_none rfl) (TTr80.out _ h15) (fun _ _ h => h)
    · intro w2 hb2 fr hout hin
      have h16 : Byt w2 (fr.tmps.getD 16 undef) (r) := hin 16 (by decide) (by decide)
      exact relStep_assign (.tmp 16) rfl (wanted_none rfl) h16
  intro w3 hb3
  refine relAsk_in (by rfl) ?_
  intro v14 h14
  obtain rfl : v14 = .pointer (some ⟨w.heap.size, 2, none⟩) := h14
  refine relAsk_in (by rfl) ?_
  intro v15 h15
  refine relAsk_in (by rfl) ?_
  intro v16 h16
  refine relAsk_in (by rfl) ?_
  intro v5 h5
  refine relAsk_nil ?_
  have RA := Lib.hid (RA.out.below hb3)
  have RB := Lib.hid (RB.out.below hb3)
  have RM := Lib.hid (RM.out.below hb3)
  have HX := Lib.hid (HX.out.below hb3)
  have HW := Lib.hid (HW.out.trans (hb3.mono HW.out.size))
  have H3 := Lib.hid (H3.out.below hb3)
  have H4 := Lib.hid (H4.out.below hb3)
  have H5 : Hid (Byt w3 (v5) (r)) := h5
  clear h15 h16 h5 hb3
  refine wpList_nil ?_
  go_simp
  go_upto_region 4 with (fail)
  refine wp_region_seq 8 [17, 18, 19, 20, 21, 22, 23, 6] [(17, .byt (p)), (18, .byt (p)), (19, .byt (q)), (20, .byt (q)), (21, .byt (r)), (22, .byt (r)), (23, .byt (nb (nv p ^ nv q % nv r))), (6, .byt (nb (nv p ^ nv q % nv r)))] (by kernel_rfl) (by rfl) ?_ ?_
  · refine seeOps_cons ?_ (seeOps_cons ?_ (seeOps_cons ?_ (seeOps_cons ?_ (seeOps_cons ?_ (seeOps_cons ?_ (seeOps_cons ?_ (seeOps_cons ?_ seeOps_nil)))))))
    · intro w2 hb2 fr hout hin
      have h3 : Byt w2 (fr.tmps.getD 3 undef) (p) := by
        have e : fr.tmps.getD 3 undef = v3 := hout 3 (by decide)
        rw [e]; exact H3.out.below hb2
      exact relStep_move (.tmp 3) rfl (wanted_none rfl) h3
    · intro w2 hb2 fr hout hin
      have h17 : Byt w2 (fr.tmps.getD 17 undef) (p) := hin 17 (by decide) (by decide)
      exact op_call2 (.tmp 17) (.const (.int .i64 80)) rfl en_twin (wanted_none rfl) (TAp80.out _ h17) (fun _ _ h => h)
    · intro w2 hb2 fr hout hin
      have h4 : Byt w2 (fr.tmps.getD 4 undef) (q) := by
        have e : fr.tmps.getD 4 undef = v4 := hout 4 (by decide)
        rw [e]; exact H4.out.below hb2
      exact relStep_move (.tmp 4) rfl (wanted_none rfl) h4
    · intro w2 hb2 fr hout hin
      have h19 : Byt w2 (fr.tmps.getD 19 undef) (q) := hin 19 (by decide) (by decide)
      exact op_call2 (.tmp 19) (.const (.int .i64 80)) rfl en_twin (wanted_none rfl) (TAq80.out _ h19) (fun _ _ h => h)
    · intro w2 hb2 fr hout hin
      have h5 : Byt w2 (fr.tmps.getD 5 undef) (r) := by
        have e : fr.tmps.getD 5 undef = v5 := hout 5 (by decide)
        rw [e]; exact H5.out.below hb2
      exact relStep_move (.tmp 5) rfl (wanted_none rfl) h5
    · intro w2 hb2 fr hout hin
      have h21 : Byt w2 (fr.tmps.getD 21 undef) (r) := hin 21 (by decide) (by decide)
      exact op_call2 (.tmp 21) (.const (.int .i64 80)) rfl en_twin (wanted_none rfl) (TAr80.out _ h21) (fun _ _ h => h)
    · intro w2 hb2 fr hout hin
      have h18 : Byt w2 (fr.tmps.getD 18 undef) (p) := hin 18 (by decide) (by decide)
      have h20 : Byt w2 (fr.tmps.getD 20 undef) (q) := hin 20 (by decide) (by decide)
      have h22 : Byt w2 (fr.tmps.getD 22 undef) (r) := hin 22 (by decide) (by decide)
      exact op_call3 (.tmp 18) (.tmp 20) (.tmp 22) rfl en_exp (wanted_none rfl) (exp_v _ h18 h20 h22 (by have := HLp.out; omega) (by have := HLq.out; omega) (by have := HLr.out; omega) HPOS.out) (fun _ _ h => h)
    · intro w2 hb2 fr hout hin
      have h23 : Byt w2 (fr.tmps.getD 23 undef) (nb (nv p ^ nv q % nv r)) := hin 23 (by decide) (by decide)
      exact relStep_assign (.tmp 23) rfl (wanted_none rfl) h23
  intro w4 hb4
  refine relAsk_in (by rfl) ?_
  intro v17 h17
  refine relAsk_in (by rfl) ?_
  intro v18 h18
  refine relAsk_in (by rfl) ?_
  intro v19 h19
  refine relAsk_in (by rfl) ?_
  intro v20 h20
  refine relAsk_in (by rfl) ?_
  intro v21 h21
  refine relAsk_in (by rfl) ?_
  intro v22 h22
  refine relAsk_in (by rfl) ?_
  intro v23 h23
  refine relAsk_in (by rfl) ?_
  intro v6 h6
  refine relAsk_nil ?_
  have RA := Lib.hid (RA.out.below hb4)
  have RB := Lib.hid (RB.out.below hb4)
  have RM := Lib.hid (RM.out.below hb4)
  have HX := Lib.hid (HX.out.below hb4)
  have HW := Lib.hid (HW.out.trans (hb4.mono HW.out.size))
  have H3 := Lib.hid (H3.out.below hb4)
  have H4 := Lib.hid (H4.out.below hb4)
  have H5 := Lib.hid (H5.out.below hb4)
  have H6 : Hid (Byt w4 (v6) (nb (nv p ^ nv q % nv r))) := h6
  clear h17 h18 h19 h20 h21 h22 h23 h6 hb4
  refine wpList_nil ?_
  go_simp
  go_upto_region 5 with (fail)
  refine wp_region_seq 3 [24, 25, 7] [(24, .byt (r)), (25, .num (nv r) 4096), (7, .num (nv r) 4096)] (by kernel_rfl) (by rfl) ?_ ?_
  · refine seeOps_cons ?_ (seeOps_cons ?_ (seeOps_cons ?_ seeOps_nil))
    · intro w2 hb2 fr hout hin
      have h5 : Byt w2 (fr.tmps.getD 5 undef) (r) := by
        have e : fr.tmps.getD 5 undef = v5 := hout 5 (by decide)
        rw [e]; exact H5.out.below hb2
      exact relStep_move (.tmp 5) rfl (wanted_none rfl) h5
    · intro w2 hb2 fr hout hin
      have h24 : Byt w2 (fr.tmps.getD 24 undef) (r) := hin 24 (by decide) (by decide)
      exact op_call1 (.tmp 24) rfl en_from2 (wanted_none rfl) (from2_v _ h24 (by have := HLr.out; omega)) (fun _ _ h => h)
    · intro w2 hb2 fr hout hin
      have h25 : Num w2 (fr.tmps.getD 25 undef) (nv r) 4096 := hin 25 (by decide) (by decide)
      exact relStep_assign (.tmp 25) rfl (wanted_none rfl) h25
  intro w5 hb5
  refine relAsk_in (by rfl) ?_
  intro v24 h24
  refine relAsk_in (by rfl) ?_
  intro v25 h25
  refine relAsk_in (by rfl) ?_
  intro v7 h7
  refine relAsk_nil ?_
  have RA := Lib.hid (RA.out.below hb5)
  have RB := Lib.hid (RB.out.below hb5)
  have RM := Lib.hid (RM.out.below hb5)
  have HX := Lib.hid (HX.out.below hb5)
  have HW := Lib.hid (HW.out.trans (hb5.mono HW.out.size))
  have H3 := Lib.hid (H3.out.below hb5)
  have H4 := Lib.hid (H4.out.below hb5)
  have H5 := Lib.hid (H5.out.below hb5)
  have H6 := Lib.hid (H6.out.below hb5)
  have H7 : Hid (Num w5 (v7) (nv r) 4096) := h7
  clear h24 h25 h7 hb5
  refine wpList_nil ?_
  go_simp
  go_upto_region 6 with (fail)
  refine wp_region_seq 3 [26, 27, 28] [(26, .num (nv r) 4096), (27, .posI), (28, .is (.bool false))] (by kernel_rfl) (by rfl) ?_ ?_
  · refine seeOps_cons ?_ (seeOps_cons ?_ (seeOps_cons ?_ seeOps_nil))
    · intro w2 hb2 fr hout hin
      have h7 : Num w2 (fr.tmps.getD 7 undef) (nv r) 4096 := by
        have e : fr.tmps.getD 7 undef = v7 := hout 7 (by decide)
        rw [e]; exact H7.out.below hb2
      exact relStep_move (.tmp 7) rfl (wanted_none rfl) h7
    · intro w2 hb2 fr hout hin
      have h26 : Num w2 (fr.tmps.getD 26 undef) (nv r) 4096 := hin 26 (by decide) (by decide)
      exact op_lenN (.tmp 26) rfl h26 HPOS.out (wanted_none rfl) (fun _ h => h)
    · intro w2 hb2 fr hout hin
      have h27 : PosI (fr.tmps.getD 27 undef) := hin 27 (by decide) (by decide)
      exact op_posZ (.tmp 27) _ rfl h27 (wanted_none rfl) rfl
  intro w6 hb6
  refine relAsk_in (by rfl) ?_
  intro v26 h26
  refine relAsk_in (by rfl) ?_
  intro v27 h27
  clear h27
  refine relAsk_in (by rfl) ?_
  intro v28 h28
  obtain rfl : v28 = .bool false := h28
  refine relAsk_nil ?_
  have RA := Lib.hid (RA.out.below hb6)
  have RB := Lib.hid (RB.out.below hb6)
  have RM := Lib.hid (RM.out.below hb6)
  have HX := Lib.hid (HX.out.below hb6)
  have HW := Lib.hid (HW.out.trans (hb6.mono HW.out.size))
  have H3 := Lib.hid (H3.out.below hb6)
  have H4 := Lib.hid (H4.out.below hb6)
  have H5 := Lib.hid (H5.out.below hb6)
  have H6 := Lib.hid (H6.out.below hb6)
  have H7 := Lib.hid (H7.out.below hb6)
  clear h26 hb6
  refine wpList_nil ?_
  go_simp
  go_upto_region 8 with (fail)
  refine wp_region_see 15 [35, 36, 37, 38, 39, 40, 41, 42, 43, 44, 45, 46, 47, 48, 2] [(35, .byt (nb (nv p ^ nv q % nv r))), (36, .is (.string (sOf (nb (nv p ^ nv q % nv r))))), (37, .byt (p)), (38, .num (nv p) 4096), (39, .byt (q)), (40, .num (nv q) 4096), (41, .num (nv r) 4096), (42, .num (nv p ^ nv q % nv r) 4096), (43, .byt (nb (nv p ^ nv q % nv r))), (44, .is (.string (sOf (nb (nv p ^ nv q % nv r))))), (45, .is (.bool true)), (46, .is (.bool true)), (47, .is (.bool true)), (48, .is (.bool true)), (2, .is (.bool true))] (by kernel_rfl) (by kernel_rfl) (by rfl) ?_ ?_
  · refine seeOps_cons ?_ (seeOps_cons ?_ (seeOps_cons ?_ (seeOps_cons ?_ (seeOps_cons ?_ (seeOps_cons ?_ (seeOps_cons ?_ (seeOps_cons ?_ (seeOps_cons ?_ (seeOps_cons ?_ (seeOps_cons ?_ (seeOps_cons ?_ (seeOps_cons ?_ (seeOps_cons ?_ (seeOps_cons ?_ seeOps_nil))))))))))))))
    · intro w2 hb2 fr hout hin
      have h6 : Byt w2 (fr.tmps.getD 6 undef) (nb (nv p ^ nv q % nv r)) := by
        have e : fr.tmps.getD 6 undef = v6 := hout 6 (by decide)
        rw [e]; exact H6.out.below hb2
      exact relStep_move (.tmp 6) rfl (wanted_none rfl) h6
    · intro w2 hb2 fr hout hin
      have h35 : Byt w2 (fr.tmps.getD 35 undef) (nb (nv p ^ nv q % nv r)) := hin 35 (by decide) (by decide)
      exact op_str (.tmp 35) rfl h35 (wanted_none rfl) rfl
    · intro w2 hb2 fr hout hin
      have h3 : Byt w2 (fr.tmps.getD 3 undef) (p) := by
        have e : fr.tmps.getD 3 undef = v3 := hout 3 (by decide)
        rw [e]; exact H3.out.below hb2
      exact relStep_move (.tmp 3) rfl (wanted_none rfl) h3
    · intro w2 hb2 fr hout hin
      have h37 : Byt w2 (fr.tmps.getD 37 undef) (p) := hin 37 (by decide) (by decide)
      exact op_call1 (.tmp 37) rfl en_from2 (wanted_none rfl) (from2_v _ h37 (by have := HLp.out; omega)) (fun _ _ h => h)
    · intro w2 hb2 fr hout hin
      have h4 : Byt w2 (fr.tmps.getD 4 undef) (q) := by
        have e : fr.tmps.getD 4 undef = v4 := hout 4 (by decide)
        rw [e]; exact H4.out.below hb2
      exact relStep_move (.tmp 4) rfl (wanted_none rfl) h4
    · intro w2 hb2 fr hout hin
      have h39 : Byt w2 (fr.tmps.getD 39 undef) (q) := hin 39 (by decide) (by decide)
      exact op_call1 (.tmp 39) rfl en_from2 (wanted_none rfl) (from2_v _ h39 (by have := HLq.out; omega)) (fun _ _ h => h)
    · intro w2 hb2 fr hout hin
      have h7 : Num w2 (fr.tmps.getD 7 undef) (nv r) 4096 := by
        have e : fr.tmps.getD 7 undef = v7 := hout 7 (by decide)
        rw [e]; exact H7.out.below hb2
      exact relStep_move (.tmp 7) rfl (wanted_none rfl) h7
    · intro w2 hb2 fr hout hin
      have h38 : Num w2 (fr.tmps.getD 38 undef) (nv p) 4096 := hin 38 (by decide) (by decide)
      have h40 : Num w2 (fr.tmps.getD 40 undef) (nv q) 4096 := hin 40 (by decide) (by decide)
      have h41 : Num w2 (fr.tmps.getD 41 undef) (nv r) 4096 := hin 41 (by decide) (by decide)
      exact op_call3 (.tmp 38) (.tmp 40) (.tmp 41) rfl en_exp2 (wanted_none rfl) (rexp_n _ h38 h40 h41 (by decide) (by decide) (by decide) (HPOS.out)) (fun _ _ h => h)
    · intro w2 hb2 fr hout hin
      have h42 : Num w2 (fr.tmps.getD 42 undef) (nv p ^ nv q % nv r) 4096 := hin 42 (by decide) (by decide)
      exact op_call1 (.tmp 42) rfl en_bytes2 (wanted_none rfl) (bytes2_v _ h42 (by decide)) (fun _ _ h => h)
    · intro w2 hb2 fr hout hin
      have h43 : Byt w2 (fr.tmps.getD 43 undef) (nb (nv p ^ nv q % nv r)) := hin 43 (by decide) (by decide)
      exact op_str (.tmp 43) rfl h43 (wanted_none rfl) rfl
    · intro w2 hb2 fr hout hin
      have h36 : fr.tmps.getD 36 undef = .string (sOf (nb (nv p ^ nv q % nv r))) := hin 36 (by decide) (by decide)
      have h44 : fr.tmps.getD 44 undef = .string (sOf (nb (nv p ^ nv q % nv r))) := hin 44 (by decide) (by decide)
      exact op_eqS (.tmp 36) (.tmp 44) _ rfl h36 h44 (wanted_none rfl) rfl
    · intro w2 hb2 fr hout hin
      have h45 : fr.tmps.getD 45 undef = .bool true := hin 45 (by decide) (by decide)
      exact relStep_move (.tmp 45) rfl (wanted_none rfl) h45
    · intro w2 hb2 fr hout hin
      have h46 : fr.tmps.getD 46 undef = .bool true := hin 46 (by decide) (by decide)
      exact op_call0 rfl en_wakes (wanted_some (g := 11) (t := 46) (b := true) rfl rfl h46) (nwakes_v _) (fun _ _ h => h)
    · intro w2 hb2 fr hout hin
      have h46 : fr.tmps.getD 46 undef = .bool true := hin 46 (by decide) (by decide)
      have h47 : fr.tmps.getD 47 undef = .bool true := hin 47 (by decide) (by decide)
      exact relStep_pick (.tmp 46) (.tmp 47) (.const (.bool false)) rfl h46 (wanted_none rfl) h47
    · intro w2 hb2 fr hout hin
      have h48 : fr.tmps.getD 48 undef = .bool true := hin 48 (by decide) (by decide)
      exact relStep_assign (.tmp 48) rfl (wanted_none rfl) h48
  intro w7 hb7
  refine relAsk_in (by rfl) ?_
  intro v35 h35
  refine relAsk_in (by rfl) ?_
  intro v36 h36
  obtain rfl : v36 = .string (sOf (nb (nv p ^ nv q % nv r))) := h36
  refine relAsk_in (by rfl) ?_
  intro v37 h37
  refine relAsk_in (by rfl) ?_
  intro v38 h38
  refine relAsk_in (by rfl) ?_
  intro v39 h39
  refine relAsk_in (by rfl) ?_
  intro v40 h40
  refine relAsk_in (by rfl) ?_
  intro v41 h41
  refine relAsk_in (by rfl) ?_
  intro v42 h42
  refine relAsk_in (by rfl) ?_
  intro v43 h43
  refine relAsk_in (by rfl) ?_
  intro v44 h44
  obtain rfl : v44 = .string (sOf (nb (nv p ^ nv q % nv r))) := h44
  refine relAsk_in (by rfl) ?_
  intro v45 h45
  obtain rfl : v45 = .bool true := h45
  refine relAsk_in (by rfl) ?_
  intro v46 h46
  obtain rfl : v46 = .bool true := h46
  refine relAsk_in (by rfl) ?_
  intro v47 h47
  obtain rfl : v47 = .bool true := h47
  refine relAsk_in (by rfl) ?_
  intro v48 h48
  obtain rfl : v48 = .bool true := h48
  refine relAsk_in (by rfl) ?_
  intro v2 h2
  obtain rfl : v2 = .bool true := h2
  refine relAsk_nil ?_
  have RA := Lib.hid (RA.out.below hb7)
  have RB := Lib.hid (RB.out.below hb7)
  have RM := Lib.hid (RM.out.below hb7)
  have HX := Lib.hid (HX.out.below hb7)
  have HW := Lib.hid (HW.out.trans (hb7.mono HW.out.size))
  have H3 := Lib.hid (H3.out.below hb7)
  have H4 := Lib.hid (H4.out.below hb7)
  have H5 := Lib.hid (H5.out.below hb7)
  have H6 := Lib.hid (H6.out.below hb7)
  have H7 := Lib.hid (H7.out.below hb7)
  clear h35 h37 h38 h39 h40 h41 h42 h43 hb7
  refine wpList_nil ?_
  go_simp
  go_wp2_with fail
  go_ret
  exact ⟨rfl, HW.out⟩

set_option maxRecDepth 100000 in
set_option maxHeartbeats 12800000 in
theorem powers_zero {A B M : Option Addr} {ca cb cm : Nat} {i wide : Int} {xs ys zs : List Nat} (w : World) (hA : Rd .u8 w A ca xs) (dA : Ds 256 xs) (hB : Rd .u8 w B cb ys) (dB : Ds 256 ys) (hM : Rd .u8 w M cm zs) (dM : Ds 256 zs) (h0 : nv (zs.take 80) = 0) :
    Calls Try.prog 14 #[.agg #[.slice A xs.length ca, .slice B ys.length cb, .slice M zs.length cm, .int .i64 i, .int .i64 wide]] w (RetV (.bool true) w) := by
  obtain ⟨p, hp⟩ : ∃ zz, zz = xs.take 80 := ⟨_, rfl⟩
  have hlp : p.length ≤ 80 := by rw [hp, List.length_take]; omega
  have ttp : ∀ (w : World) {u : Value}, Byt w u xs → Calls Try.prog 19 #[u, .int .i64 80] w (RetR (fun w' v => Byt w' v p) w) := fun w u h => by rw [hp]; exact twin_v w h 80 (by decide) (by decide)
  have TTp80 := Lib.hid ttp
  have tap : ∀ (w : World) {u : Value}, Byt w u p → Calls Try.prog 19 #[u, .int .i64 80] w (RetR (fun w' v => Byt w' v p) w) := fun w u h => by
    have k := twin_v w h 80 (by decide) (by decide)
    rw [List.take_of_length_le (by omega)] at k
    exact k
  have TAp80 := Lib.hid tap
  clear tap
  have HLp := Lib.hid hlp
  have Hp := Lib.hid hp
  clear hlp ttp hp
  obtain ⟨q, hq⟩ : ∃ zz, zz = ys.take 40 := ⟨_, rfl⟩
  have hlq : q.length ≤ 40 := by rw [hq, List.length_take]; omega
  have ttq : ∀ (w : World) {u : Value}, Byt w u ys → Calls Try.prog 19 #[u, .int .i64 40] w (RetR (fun w' v => Byt w' v q) w) := fun w u h => by rw [hq]; exact twin_v w h 40 (by decide) (by decide)
  have TTq40 := Lib.hid ttq
  have taq : ∀ (w : World) {u : Value}, Byt w u q → Calls Try.prog 19 #[u, .int .i64 80] w (RetR (fun w' v => Byt w' v q) w) := fun w u h => by
    have k := twin_v w h 80 (by decide) (by decide)
    rw [List.take_of_length_le (by omega)] at k
    exact k
  have TAq80 := Lib.hid taq
  clear taq
  have HLq := Lib.hid hlq
  have Hq := Lib.hid hq
  clear hlq ttq hq
  obtain ⟨r, hr⟩ : ∃ zz, zz = zs.take 80 := ⟨_, rfl⟩
  have hlr : r.length ≤ 80 := by rw [hr, List.length_take]; omega
  have ttr : ∀ (w : World) {u : Value}, Byt w u zs → Calls Try.prog 19 #[u, .int .i64 80] w (RetR (fun w' v => Byt w' v r) w) := fun w u h => by rw [hr]; exact twin_v w h 80 (by decide) (by decide)
  have TTr80 := Lib.hid ttr
  have tar : ∀ (w : World) {u : Value}, Byt w u r → Calls Try.prog 19 #[u, .int .i64 80] w (RetR (fun w' v => Byt w' v r) w) := fun w u h => by
    have k := twin_v w h 80 (by decide) (by decide)
    rw [List.take_of_length_le (by omega)] at k
    exact k
  have TAr80 := Lib.hid tar
  clear tar
  have HLr := Lib.hid hlr
  have Hr := Lib.hid hr
  clear hlr ttr hr
  have HZ := Lib.hid h0
  rw [← Hr.out] at HZ
  clear h0
  obtain ⟨L, hL⟩ : ∃ L, L = xs.length := ⟨_, rfl⟩
  obtain ⟨K, hK⟩ : ∃ K, K = ys.length := ⟨_, rfl⟩
  obtain ⟨J, hJ⟩ : ∃ J, J = zs.length := ⟨_, rfl⟩
  have rA : Byt w (.slice A L ca) xs := ⟨A, ca, by rw [hL], hA, dA⟩
  have rB : Byt w (.slice B K cb) ys := ⟨B, cb, by rw [hK], hB, dB⟩
  have rM : Byt w (.slice M J cm) zs := ⟨M, cm, by rw [hJ], hM, dM⟩
  rw [← hL, ← hK, ← hJ]
  have hW := (Below.refl w.heap.size w).alloc (Nat.le_refl _) (.cells #[.slice A L ca, .slice B K cb, .slice M J cm, .int .i64 i, .int .i64 wide] 51)
  have hx := Box5.new w (.slice A L ca) (.slice B K cb) (.slice M J cm) (.int .i64 i) (.int .i64 wide) 51
  have RA := Lib.hid (rA.below hW)
  have RB := Lib.hid (rB.below hW)
  have RM := Lib.hid (rM.below hW)
  have HX := Lib.hid hx
  have HW := Lib.hid hW
  clear hA dA hB dB hM dM hL hK hJ rA rB rM hW hx
  go_enter Try.func14, Try.ntmps14
  go_upto_region 1 with (fail)
  generalize hX : w.alloc (.cells #[.slice A L ca, .slice B K cb, .slice M J cm, .int .i64 i, .int .i64 wide] 51) = X at *
  clear hX
  refine wp_region_seq 4 [8, 9, 10, 3] [(8, .is (.pointer (some ⟨w.heap.size, 0, none⟩))), (9, .byt (xs)), (10, .byt (p)), (3, .byt (p))] (by kernel_rfl) (by rfl) ?_ ?_
  · refine seeOps_cons ?_ (seeOps_cons ?_ (seeOps_cons ?_ (seeOps_cons ?_ seeOps_nil)))
    · intro w2 hb2 fr hout hin
      have h1 : fr.tmps.getD 1 undef = .pointer (some ⟨w.heap.size, 0, none⟩) := hout 1 (by decide)
      exact op_fieldN (.tmp 1) rfl (by decide) h1 (wanted_none rfl) rfl
    · intro w2 hb2 fr hout hin
      have h8 : fr.tmps.getD 8 undef = .pointer (some ⟨w.heap.size, 0, none⟩) := hin 8 (by decide) (by decide)
      exact op_load1 (.tmp 8) rfl (fun _ => by kernel_rfl) h8 ((HX.out.below hb2).c0) (wanted_none rfl) (RA.out.below hb2)
    · intro w2 hb2 fr hout hin
      have h9 : Byt w2 (fr.tmps.getD 9 undef) (xs) := hin 9 (by decide) (by decide)
      exact op_call2 (.tmp 9) (.const (.int .i64 80)) rfl en_twin (wanted_none rfl) (TTp80.out _ h9) (fun _ _ h => h)
    · intro w2 hb2 fr hout hin
      have h10 : Byt w2 (fr.tmps.getD 10 undef) (p) := hin 10 (by decide) (by decide)
      exact relStep_assign (.tmp 10) rfl (wanted_none rfl) h10
  intro w1 hb1
  refine relAsk_in (by rfl) ?_
  intro v8 h8
  obtain rfl : v8 = .pointer (some ⟨w.heap.size, 0, none⟩) := h8
  refine relAsk_in (by rfl) ?_
  intro v9 h9
  refine relAsk_in (by rfl) ?_
  intro v10 h10
  refine relAsk_in (by rfl) ?_
  intro v3 h3
  refine relAsk_nil ?_
  have RA := Lib.hid (RA.out.below hb1)
  have RB := Lib.hid (RB.out.below hb1)
  have RM := Lib.hid (RM.out.below hb1)
  have HX := Lib.hid (HX.out.below hb1)
  have HW := Lib.hid (HW.out.trans (hb1.mono HW.out.size))
  have H3 : Hid (Byt w1 (v3) (p)) := h3
  clear h9 h10 h3 hb1
  refine wpList_nil ?_
  go_simp
  go_upto_region 2 with (fail)
  refine wp_region_seq 4 [11, 12, 13, 4] [(11, .is (.pointer (some ⟨w.heap.size, 1, none⟩))), (12, .byt (ys)), (13, .byt (q)), (4, .byt (q))] (by kernel_rfl) (by rfl) ?_ ?_
  · refine seeOps_cons ?_ (seeOps_cons ?_ (seeOps_cons ?_ (seeOps_cons ?_ seeOps_nil)))
    · intro w2 hb2 fr hout hin
      have h1 : fr.tmps.getD 1 undef = .pointer (some ⟨w.heap.size, 0, none⟩) := hout 1 (by decide)
      exact op_fieldN (.tmp 1) rfl (by decide) h1 (wanted_none rfl) rfl
    · intro w2 hb2 fr hout hin
      have h11 : fr.tmps.getD 11 undef = .pointer (some ⟨w.heap.size, 1, none⟩) := hin 11 (by decide) (by decide)
      exact op_load1 (.tmp 11) rfl (fun _ => by kernel_rfl) h11 ((HX.out.below hb2).c1) (wanted_none rfl) (RB.out.below hb2)
    · intro w2 hb2 fr hout hin
      have h12 : Byt w2 (fr.tmps.getD 12 undef) (ys) := hin 12 (by decide) (by decide)
      exact op_call2 (.tmp 12) (.const (.int .i64 40)) rfl en_twin (wanted_none rfl) (TTq40.out _ h12) (fun _ _ h => h)
    · intro w2 hb2 fr hout hin
      have h13 : Byt w2 (fr.tmps.getD 13 undef) (q) := hin 13 (by decide) (by decide)
      exact relStep_assign (.tmp 13) rfl (wanted_none rfl) h13
  intro w2 hb2
  refine relAsk_in (by rfl) ?_
  intro v11 h11
  obtain rfl : v11 = .pointer (some ⟨w.heap.size, 1, none⟩) := h11
  refine relAsk_in (by rfl) ?_
  intro v12 h12
  refine relAsk_in (by rfl) ?_
  intro v13 h13
  refine relAsk_in (by rfl) ?_
  intro v4 h4
  refine relAsk_nil ?_
  have RA := Lib.hid (RA.out.below hb2)
  have RB := Lib.hid (RB.out.below hb2)
  have RM := Lib.hid (RM.out.below hb2)
  have HX := Lib.hid (HX.out.below hb2)
  have HW := Lib.hid (HW.out.trans (hb2.mono HW.out.size))
  have H3 := Lib.hid (H3.out.below hb2)
  have H4 : Hid (Byt w2 (v4) (q)) := h4
  clear h12 h13 h4 hb2
  refine wpList_nil ?_
  go_simp
  go_upto_region 3 with (fail)
  refine wp_region_seq 4 [14, 15, 16, 5] [(14, .is (.pointer (some ⟨w.heap.size, 2, none⟩))), (15, .byt (zs)), (16, .byt (r)), (5, .byt (r))] (by kernel_rfl) (by rfl) ?_ ?_
  · refine seeOps_cons ?_ (seeOps_cons ?_ (seeOps_cons ?_ (seeOps_cons ?_ seeOps_nil)))
    · intro w2 hb2 fr hout hin
      have h1 : fr.tmps.getD 1 undef = .pointer (some ⟨w.heap.size, 0, none⟩) := hout 1 (by decide)
      exact op_fieldN (.tmp 1) rfl (by decide) h1 (wanted_none rfl) rfl
    · intro w2 hb2 fr hout hin
      have h14 : fr.tmps.getD 14 undef = .pointer (some ⟨w.heap.size, 2, none⟩) := hin 14 (by decide) (by decide)
      exact op_load1 (.tmp 14) rfl (fun _ => by kernel_rfl) h14 ((HX.out.below hb2).c2) (wanted_none rfl) (RM.out.below hb2)
    · intro w2 hb2 fr hout hin
      have h15 : Byt w2 (fr.tmps.getD 15 undef) (zs) := hin 15 (by decide) (by decide)
      exact op_call2 (.tmp 15) (.const (.int .i64 80)) rfl en_twin (wanted_none rfl) (TTr80.out _ h15) (fun _ _ h => h)
    · intro w2 hb2 fr hout hin
      have h16 : Byt w2 (fr.tmps.getD 16 undef) (r) := hin 16 (by decide) (by decide)
      exact relStep_assign (.tmp 16) rfl (wanted_none rfl) h16
  intro w3 hb3
  refine relAsk_in (by rfl) ?_
  intro v14 h14
  obtain rfl : v14 = .pointer (some ⟨w.heap.size, 2, none⟩) := h14
  refine relAsk_in (by rfl) ?_
  intro v15 h15
  refine relAsk_in (by rfl) ?_
  intro v16 h16
  refine relAsk_in (by rfl) ?_
  intro v5 h5
  refine relAsk_nil ?_
  have RA := Lib.hid (RA.out.below hb3)
  have RB := Lib.hid (RB.out.below hb3)
  have RM := Lib.hid (RM.out.below hb3)
  have HX := Lib.hid (HX.out.below hb3)
  have HW := Lib.hid (HW.out.trans (hb3.mono HW.out.size))
  have H3 := Lib.hid (H3.out.below hb3)
  have H4 := Lib.hid (H4.out.below hb3)
  have H5 : Hid (Byt w3 (v5) (r)) := h5
  clear h15 h16 h5 hb3
  refine wpList_nil ?_
  go_simp
  go_upto_region 4 with (fail)
  refine wp_region_seq 8 [17, 18, 19, 20, 21, 22, 23, 6] [(17, .byt (p)), (18, .byt (p)), (19, .byt (q)), (20, .byt (q)), (21, .byt (r)), (22, .byt (r)), (23, .is (.slice none 0 0)), (6, .is (.slice none 0 0))] (by kernel_rfl) (by rfl) ?_ ?_
  · refine seeOps_cons ?_ (seeOps_cons ?_ (seeOps_cons ?_ (seeOps_cons ?_ (seeOps_cons ?_ (seeOps_cons ?_ (seeOps_cons ?_ (seeOps_cons ?_ seeOps_nil)))))))
    · intro w2 hb2 fr hout hin
      have h3 : Byt w2 (fr.tmps.getD 3 undef) (p) := by
        have e : fr.tmps.getD 3 undef = v3 := hout 3 (by decide)
        rw [e]; exact H3.out.below hb2
      exact relStep_move (.tmp 3) rfl (wanted_none rfl) h3
    · intro w2 hb2 fr hout hin
      have h17 : Byt w2 (fr.tmps.getD 17 undef) (p) := hin 17 (by decide) (by decide)
      exact op_call2 (.tmp 17) (.const (.int .i64 80)) rfl en_twin (wanted_none rfl) (TAp80.out _ h17) (fun _ _ h => h)
    · intro w2 hb2 fr hout hin
      have h4 : Byt w2 (fr.tmps.getD 4 undef) (q) := by
        have e : fr.tmps.getD 4 undef = v4 := hout 4 (by decide)
        rw [e]; exact H4.out.below hb2
      exact relStep_move (.tmp 4) rfl (wanted_none rfl) h4
    · intro w2 hb2 fr hout hin
      have h19 : Byt w2 (fr.tmps.getD 19 undef) (q) := hin 19 (by decide) (by decide)
      exact op_call2 (.tmp 19) (.const (.int .i64 80)) rfl en_twin (wanted_none rfl) (TAq80.out _ h19) (fun _ _ h => h)
    · intro w2 hb2 fr hout hin
      have h5 : Byt w2 (fr.tmps.getD 5 undef) (r) := by
        have e : fr.tmps.getD 5 undef = v5 := hout 5 (by decide)
        rw [e]; exact H5.out.below hb2
      exact relStep_move (.tmp 5) rfl (wanted_none rfl) h5
    · intro w2 hb2 fr hout hin
      have h21 : Byt w2 (fr.tmps.getD 21 undef) (r) := hin 21 (by decide) (by decide)
      exact op_call2 (.tmp 21) (.const (.int .i64 80)) rfl en_twin (wanted_none rfl) (TAr80.out _ h21) (fun _ _ h => h)
    · intro w2 hb2 fr hout hin
      have h18 : Byt w2 (fr.tmps.getD 18 undef) (p) := hin 18 (by decide) (by decide)
      have h20 : Byt w2 (fr.tmps.getD 20 undef) (q) := hin 20 (by decide) (by decide)
      have h22 : Byt w2 (fr.tmps.getD 22 undef) (r) := hin 22 (by decide) (by decide)
      exact op_call3 (.tmp 18) (.tmp 20) (.tmp 22) rfl en_exp (wanted_none rfl) (expno_v _ h18 h20 h22 (by have := HLr.out; omega) HZ.out) (fun _ _ h => h)
    · intro w2 hb2 fr hout hin
      have h23 : fr.tmps.getD 23 undef = .slice none 0 0 := hin 23 (by decide) (by decide)
      exact relStep_assign (.tmp 23) rfl (wanted_none rfl) h23
  intro w4 hb4
  refine relAsk_in (by rfl) ?_
  intro v17 h17
  refine relAsk_in (by rfl) ?_
  intro v18 h18
  refine relAsk_in (by rfl) ?_
  intro v19 h19
  refine relAsk_in (by rfl) ?_
  intro v20 h20
  refine relAsk_in (by rfl) ?_
  intro v21 h21
  refine relAsk_in (by rfl) ?_
  intro v22 h22
  refine relAsk_in (by rfl) ?_
  intro v23 h23
  obtain rfl : v23 = .slice none 0 0 := h23
  refine relAsk_in (by rfl) ?_
  intro v6 h6
  obtain rfl : v6 = .slice none 0 0 := h6
  refine relAsk_nil ?_
  have RA := Lib.hid (RA.out.below hb4)
  have RB := Lib.hid (RB.out.below hb4)
  have RM := Lib.hid (RM.out.below hb4)
  have HX := Lib.hid (HX.out.below hb4)
  have HW := Lib.hid (HW.out.trans (hb4.mono HW.out.size))
  have H3 := Lib.hid (H3.out.below hb4)
  have H4 := Lib.hid (H4.out.below hb4)
  have H5 := Lib.hid (H5.out.below hb4)
  clear h17 h18 h19 h20 h21 h22 hb4
  refine wpList_nil ?_
  go_simp
  go_upto_region 5 with (fail)
  refine wp_region_seq 3 [24, 25, 7] [(24, .byt (r)), (25, .num (nv r) 4096), (7, .num (nv r) 4096)] (by kernel_rfl) (by rfl) ?_ ?_
  · refine seeOps_cons ?_ (seeOps_cons ?_ (seeOps_cons ?_ seeOps_nil))
    · intro w2 hb2 fr hout hin
      have h5 : Byt w2 (fr.tmps.getD 5 undef) (r) := by
        have e : fr.tmps.getD 5 undef = v5 := hout 5 (by decide)
        rw [e]; exact H5.out.below hb2
      exact relStep_move (.tmp 5) rfl (wanted_none rfl) h5
    · intro w2 hb2 fr hout hin
      have h24 : Byt w2 (fr.tmps.getD 24 undef) (r) := hin 24 (by decide) (by decide)
      exact op_call1 (.tmp 24) rfl en_from2 (wanted_none rfl) (from2_v _ h24 (by have := HLr.out; omega)) (fun _ _ h => h)
    · intro w2 hb2 fr hout hin
      have h25 : Num w2 (fr.tmps.getD 25 undef) (nv r) 4096 := hin 25 (by decide) (by decide)
      exact relStep_assign (.tmp 25) rfl (wanted_none rfl) h25
  intro w5 hb5
  refine relAsk_in (by rfl) ?_
  intro v24 h24
  refine relAsk_in (by rfl) ?_
  intro v25 h25
  refine relAsk_in (by rfl) ?_
  intro v7 h7
  refine relAsk_nil ?_
  have RA := Lib.hid (RA.out.below hb5)
  have RB := Lib.hid (RB.out.below hb5)
  have RM := Lib.hid (RM.out.below hb5)
  have HX := Lib.hid (HX.out.below hb5)
  have HW := Lib.hid (HW.out.trans (hb5.mono HW.out.size))
  have H3 := Lib.hid (H3.out.below hb5)
  have H4 := Lib.hid (H4.out.below hb5)
  have H5 := Lib.hid (H5.out.below hb5)
  have H7 : Hid (Num w5 (v7) (nv r) 4096) := h7
  clear h24 h25 h7 hb5
  refine wpList_nil ?_
  go_simp
  go_upto_region 6 with (fail)
  refine wp_region_seq 3 [26, 27, 28] [(26, .num (nv r) 4096), (27, .is (.int .i64 0)), (28, .is (.bool true))] (by kernel_rfl) (by rfl) ?_ ?_
  · refine seeOps_cons ?_ (seeOps_cons ?_ (seeOps_cons ?_ seeOps_nil))
    · intro w2 hb2 fr hout hin
      have h7 : Num w2 (fr.tmps.getD 7 undef) (nv r) 4096 := by
        have e : fr.tmps.getD 7 undef = v7 := hout 7 (by decide)
        rw [e]; exact H7.out.below hb2
      exact relStep_move (.tmp 7) rfl (wanted_none rfl) h7
    · intro w2 hb2 fr hout hin
      have h26 : Num w2 (fr.tmps.getD 26 undef) (nv r) 4096 := hin 26 (by decide) (by decide)
      exact op_lenZ (.tmp 26) rfl (by have k := h26; rw [HZ.out] at k; exact k) (wanted_none rfl) rfl
    · intro w2 hb2 fr hout hin
      have h27 : fr.tmps.getD 27 undef = .int .i64 0 := hin 27 (by decide) (by decide)
      exact op_eqI (.tmp 27) (.const (.int .i64 0)) _ rfl h27 rfl (wanted_none rfl) rfl
  intro w6 hb6
  refine relAsk_in (by rfl) ?_
  intro v26 h26
  refine relAsk_in (by rfl) ?_
  intro v27 h27
  obtain rfl : v27 = .int .i64 0 := h27
  refine relAsk_in (by rfl) ?_
  intro v28 h28
  obtain rfl : v28 = .bool true := h28
  refine relAsk_nil ?_
  have RA := Lib.hid (RA.out.below hb6)
  have RB := Lib.hid (RB.out.below hb6)
  have RM := Lib.hid (RM.out.below hb6)
  have HX := Lib.hid (HX.out.below hb6)
  have HW := Lib.hid (HW.out.trans (hb6.mono HW.out.size))
  have H3 := Lib.hid (H3.out.below hb6)
  have H4 := Lib.hid (H4.out.below hb6)
  have H5 := Lib.hid (H5.out.below hb6)
  have H7 := Lib.hid (H7.out.below hb6)
  clear h26 hb6
  refine wpList_nil ?_
  go_simp
  go_upto_region 7 with (fail)
  refine wp_region_seq 7 [29, 30, 31, 32, 33, 34, 2] [(29, .is (.slice none 0 0)), (30, .is (.int .i64 0)), (31, .is (.bool true)), (32, .is (.bool true)), (33, .is (.bool true)), (34, .is (.bool true)), (2, .is (.bool true))] (by kernel_rfl) (by rfl) ?_ ?_
  · refine seeOps_cons ?_ (seeOps_cons ?_ (seeOps_cons ?_ (seeOps_cons ?_ (seeOps_cons ?_ (seeOps_cons ?_ (seeOps_cons ?_ seeOps_nil))))))
    · intro w2 hb2 fr hout hin
      have h6 : fr.tmps.getD 6 undef = .slice none 0 0 := hout 6 (by decide)
      exact relStep_move (.tmp 6) rfl (wanted_none rfl) h6
    · intro w2 hb2 fr hout hin
      have h29 : fr.tmps.getD 29 undef = .slice none 0 0 := hin 29 (by decide) (by decide)
      exact op_len (bs := (([] : List Nat))) (.tmp 29) rfl (by show Byt _ (fr.tmps.getD 29 undef) []; rw [h29]; exact Byt.nil _) (wanted_none rfl) rfl
    · intro w2 hb2 fr hout hin
      have h30 : fr.tmps.getD 30 undef = .int .i64 0 := hin 30 (by decide) (by decide)
      exact op_eqI (.tmp 30) (.const (.int .i64 0)) _ rfl h30 rfl (wanted_none rfl) rfl
    · intro w2 hb2 fr hout hin
      have h31 : fr.tmps.getD 31 undef = .bool true := hin 31 (by decide) (by decide)
      exact relStep_move (.tmp 31) rfl (wanted_none rfl) h31
    · intro w2 hb2 fr hout hin
      have h32 : fr.tmps.getD 32 undef = .bool true := hin 32 (by decide) (by decide)
      exact op_call0 rfl en_wakes (wanted_some (g := 3) (t := 32) (b := true) rfl rfl h32) (nwakes_v _) (fun _ _ h => h)
    · intro w2 hb2 fr hout hin
      have h32 : fr.tmps.getD 32 undef = .bool true := hin 32 (by decide) (by decide)
      have h33 : fr.tmps.getD 33 undef = .bool true := hin 33 (by decide) (by decide)
      exact relStep_pick (.tmp 32) (.tmp 33) (.const (.bool false)) rfl h32 (wanted_none rfl) h33
    · intro w2 hb2 fr hout hin
      have h34 : fr.tmps.getD 34 undef = .bool true := hin 34 (by decide) (by decide)
      exact relStep_assign (.tmp 34) rfl (wanted_none rfl) h34
  intro w7 hb7
  refine relAsk_in (by rfl) ?_
  intro v29 h29
  obtain rfl : v29 = .slice none 0 0 := h29
  refine relAsk_in (by rfl) ?_
  intro v30 h30
  obtain rfl : v30 = .int .i64 0 := h30
  refine relAsk_in (by rfl) ?_
  intro v31 h31
  obtain rfl : v31 = .bool true := h31
  refine relAsk_in (by rfl) ?_
  intro v32 h32
  obtain rfl : v32 = .bool true := h32
  refine relAsk_in (by rfl) ?_
  intro v33 h33
  obtain rfl : v33 = .bool true := h33
  refine relAsk_in (by rfl) ?_
  intro v34 h34
  obtain rfl : v34 = .bool true := h34
  refine relAsk_in (by rfl) ?_
  intro v2 h2
  obtain rfl : v2 = .bool true := h2
  refine relAsk_nil ?_
  have RA := Lib.hid (RA.out.below hb7)
  have RB := Lib.hid (RB.out.below hb7)
  have RM := Lib.hid (RM.out.below hb7)
  have HX := Lib.hid (HX.out.below hb7)
  have HW := Lib.hid (HW.out.trans (hb7.mono HW.out.size))
  have H3 := Lib.hid (H3.out.below hb7)
  have H4 := Lib.hid (H4.out.below hb7)
  have H5 := Lib.hid (H5.out.below hb7)
  have H7 := Lib.hid (H7.out.below hb7)
  clear hb7
  refine wpList_nil ?_
  go_simp
  go_wp2_with fail
  go_ret
  exact ⟨rfl, HW.out⟩

theorem natPowers_c {A B M : Option Addr} {ca cb cm : Nat} {i wide : Int} {xs ys zs : List Nat} (w : World) (hA : Rd .u8 w A ca xs) (dA : Ds 256 xs) (hB : Rd .u8 w B cb ys) (dB : Ds 256 ys) (hM : Rd .u8 w M cm zs) (dM : Ds 256 zs) :
    Calls Try.prog 14 #[.agg #[.slice A xs.length ca, .slice B ys.length cb, .slice M zs.length cm, .int .i64 i, .int .i64 wide]] w (RetV (.bool true) w) := by
  rcases Nat.eq_zero_or_pos (nv (zs.take 80)) with h | h
  · exact powers_zero w hA dA hB dB hM dM h
  · exact powers_pos w hA dA hB dB hM dM h
end Go.Proofs.Ytkalmmpgcgempaa
