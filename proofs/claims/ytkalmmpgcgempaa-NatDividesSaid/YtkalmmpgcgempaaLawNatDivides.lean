/- The law NatDivides, by the contracts of its callees. -/
import Derived.Test.YtkalmmpgcgempaaNFrame
namespace Go.Proofs.Ytkalmmpgcgempaa
open Go.RowKit

set_option maxRecDepth 100000 in
set_option maxHeartbeats 12800000 in
theorem divides_pos {A B M : Option Addr} {ca cb cm : Nat} {i wide : Int} {xs ys zs : List Nat} (w : World) (hA : Rd .u8 w A ca xs) (dA : Ds 256 xs) (hB : Rd .u8 w B cb ys) (dB : Ds 256 ys) (hM : Rd .u8 w M cm zs) (dM : Ds 256 zs) (h0 : 0 < nv (ys.take 600)) :
    Calls Try.prog 13 #[.agg #[.slice A xs.length ca, .slice B ys.length cb, .slice M zs.length cm, .int .i64 i, .int .i64 wide]] w (RetV (.bool true) w) := by
  obtain ⟨p, hp⟩ : ∃ zz, zz = xs.take 600 := ⟨_, rfl⟩
  have hlp : p.length ≤ 600 := by rw [hp, List.length_take]; omega
  have ffp : ∀ (w : World) {u : Value}, Byt w u xs → Calls Try.prog 75 #[u] w (RetR (fun w' v => Byt w' v p) w) := fun w u h => by rw [hp]; exact few_v w h
  have HLp := Lib.hid hlp
  have FFp := Lib.hid ffp
  have Hp := Lib.hid hp
  clear hlp ffp hp
  obtain ⟨q, hq⟩ : ∃ zz, zz = ys.take 600 := ⟨_, rfl⟩
  have hlq : q.length ≤ 600 := by rw [hq, List.length_take]; omega
  have ffq : ∀ (w : World) {u : Value}, Byt w u ys → Calls Try.prog 75 #[u] w (RetR (fun w' v => Byt w' v q) w) := fun w u h => by rw [hq]; exact few_v w h
  have HLq := Lib.hid hlq
  have FFq := Lib.hid ffq
  have Hq := Lib.hid hq
  clear hlq ffq hq
  have HPOS := Lib.hid h0
  rw [← Hq.out] at HPOS
  clear h0
  obtain ⟨L, hL⟩ : ∃ L, L = xs.length := ⟨_, rfl⟩
  obtain ⟨K, hK⟩ : ∃ K, K = ys.length := ⟨_, rfl⟩
  obtain ⟨J, hJ⟩ : ∃ J, J = zs.length := ⟨_, rfl⟩
  have rA : Byt w (.slice A L ca) xs := ⟨A, ca, by rw [hL], hA, dA⟩
  have rB : Byt w (.slice B K cb) ys := ⟨B, cb, by rw [hK], hB, dB⟩
  have rM : Byt w (.slice M J cm) zs := ⟨M, cm, by rw [hJ], hM, dM⟩
  rw [← hL, ← hK, ← hJ]
  have hW := (Below.refl w.heap.size w).alloc (Nat.le_refl _) (.cells #[.slice A L ca, .slice B K cb, .slice M J cm, .int .i64 i, .int .i64 wide] 51)
  have hx := Box5.new w (.slice A L ca) (.slice B K cb) (.slice M J cm) (.int .i64 i) (.int .i64 wide) 51
  have RA := Lib.hid (rA.below hW)
  have RB := Lib.hid (rB.below hW)
  have RM := Lib.hid (rM.below hW)
  have HX := Lib.hid hx
  have HW := Lib.hid hW
  clear hA dA hB dB hM dM hL hK hJ rA rB rM hW hx
  go_enter Try.func13, Try.ntmps13
  go_upto_region 1 with (fail)
  generalize hX : w.alloc (.cells #[.slice A L ca, .slice B K cb, .slice M J cm, .int .i64 i, .int .i64 wide] 51) = X at *
  clear hX
  refine wp_region_seq 5 [10, 11, 12, 13, 3] [(10, .is (.pointer (some ⟨w.heap.size, 0, none⟩))), (11, .byt (xs)), (12, .byt (p)), (13, .num (nv p) 4096), (3, .num (nv p) 4096)] (by kernel_rfl) (by rfl) ?_ ?_
  · refine seeOps_cons ?_ (seeOps_cons ?_ (seeOps_cons ?_ (seeOps_cons ?_ (seeOps_cons ?_ seeOps_nil))))
    · intro w2 hb2 fr hout hin
      have h1 : fr.tmps.getD 1 undef = .pointer (some ⟨w.heap.size, 0, none⟩) := hout 1 (by decide)
      exact op_fieldN (.tmp 1) rfl (by decide) h1 (wanted_none rfl) rfl
    · intro w2 hb2 fr hout hin
      have h10 : fr.tmps.getD 10 undef = .pointer (some ⟨w.heap.size, 0, none⟩) := hin 10 (by decide) (by decide)
      exact op_load1 (.tmp 10) rfl (fun _ => by kernel_rfl) h10 ((HX.out.below hb2).c0) (wanted_none rfl) (RA.out.below hb2)
    · intro w2 hb2 fr hout hin
      have h11 : Byt w2 (fr.tmps.getD 11 undef) (xs) := hin 11 (by decide) (by decide)
      exact op_call1 (.tmp 11) rfl en_few (wanted_none rfl) (FFp.out _ h11) (fun _ _ h => h)
    · intro w2 hb2 fr hout hin
      have h12 : Byt w2 (fr.tmps.getD 12 undef) (p) := hin 12 (by decide) (by decide)
      exact op_call1 (.tmp 12) rfl en_from2 (wanted_none rfl) (from2_v _ h12 (by have := HLp.out; omega)) (fun _ _ h => h)
    · intro w2 hb2 fr hout hin
      have h13 : Num w2 (fr.tmps.getD 13 undef) (nv p) 4096 := hin 13 (by decide) (by decide)
      exact relStep_assign (.tmp 13) rfl (wanted_none rfl) h13
  intro w1 hb1
  refine relAsk_in (by rfl) ?_
  intro v10 h10
  obtain rfl : v10 = .pointer (some ⟨w.heap.size, 0, none⟩) := h10
  refine relAsk_in (by rfl) ?_
  intro v11 h11
  refine relAsk_in (by rfl) ?_
  intro v12 h12
  refine relAsk_in (by rfl) ?_
  intro v13 h13
  refine relAsk_in (by rfl) ?_
  intro v3 h3
  refine relAsk_nil ?_
  have RA := Lib.hid (RA.out.below hb1)
  have RB := Lib.hid (RB.out.below hb1)
  have RM := Lib.hid (RM.out.below hb1)
  have HX := Lib.hid (HX.out.below hb1)
  have HW := Lib.hid (HW.out.trans (hb1.mono HW.out.size))
  have H3 : Hid (Num w1 (v3) (nv p) 4096) := h3
  clear h11 h12 h13 h3 hb1
  refine wpList_nil ?_
  go_simp
  go_upto_region 2 with (fail)
  refine wp_region_seq 5 [14, 15, 16, 17, 4] [(14, .is (.pointer (some ⟨w.heap.size, 1, none⟩))), (15, .byt (ys)), (16, .byt (q)), (17, .num (nv q) 4096), (4, .num (nv q) 4096)] (by kernel_rfl) (by rfl) ?_ ?_
  · refine seeOps_cons ?_ (seeOps_cons ?_ (seeOps_cons ?_ (seeOps_cons ?_ (seeOps_cons ?_ seeOps_nil))))
    · intro w2 hb2 fr hout hin
      have h1 : fr.tmps.getD 1 undef = .pointer (some ⟨w.heap.size, 0, none⟩) := hout 1 (by decide)
      exact op_fieldN (.tmp 1) rfl (by decide) h1 (wanted_none rfl) rfl
    · intro w2 hb2 fr hout hin
      have h14 : fr.tmps.getD 14 undef = .pointer (some ⟨w.heap.size, 1, none⟩) := hin 14 (by decide) (by decide)
      exact op_load1 (.tmp 14) rfl (fun _ => by kernel_rfl) h14 ((HX.out.below hb2).c1) (wanted_none rfl) (RB.out.below hb2)
    · intro w2 hb2 fr hout hin
      have h15 : Byt w2 (fr.tmps.getD 15 undef) (ys) := hin 15 (by decide) (by decide)
      exact op_call1 (.tmp 15) rfl en_few (wanted_none rfl) (FFq.out _ h15) (fun _ _ h => h)
    · intro w2 hb2 fr hout hin
      have h16 : Byt w2 (fr.tmps.getD 16 undef) (q) := hin 16 (by decide) (by decide)
      exact op_call1 (.tmp 16) rfl en_from2 (wanted_none rfl) (from2_v _ h16 (by have := HLq.out; omega)) (fun _ _ h => h)
    · intro w2 hb2 fr hout hin
      have h17 : Num w2 (fr.tmps.getD 17 undef) (nv q) 4096 := hin 17 (by decide) (by decide)
      exact relStep_assign (.tmp 17) rfl (wanted_none rfl) h17
  intro w2 hb2
  refine relAsk_in (by rfl) ?_
  intro v14 h14
  obtain rfl : v14 = .pointer (some ⟨w.heap.size, 1, none⟩) := h14
  refine relAsk_in (by rfl) ?_
  intro v15 h15
  refine relAsk_in (by rfl) ?_
  intro v16 h16
  refine relAsk_in (by rfl) ?_
  intro v17 h17
  refine relAsk_in (by rfl) ?_
  intro v4 h4
  refine relAsk_nil ?_
  have RA := Lib.hid (RA.out.below hb2)
  have RB := Lib.hid (RB.out.below hb2)
  have RM := Lib.hid (RM.out.below hb2)
  have HX := Lib.hid (HX.out.below hb2)
  have HW := Lib.hid (HW.out.trans (hb2.mono HW.out.size))
  have H3 := Lib.hid (H3.out.below hb2)
  have H4 : Hid (Num w2 (v4) (nv q) 4096) := h4
  clear h15 h16 h17 h4 hb2
  refine wpList_nil ?_
  go_simp
  go_upto_region 3 with (fail)
  refine wp_region_see 14 [19, 20, 21, 22, 23, 24, 25, 18, 26, 27, 28, 5, 6, 7] [(19, .is (.pointer (some ⟨w.heap.size, 0, none⟩))), (20, .byt (xs)), (21, .byt (p)), (22, .is (.pointer (some ⟨w.heap.size, 1, none⟩))), (23, .byt (ys)), (24, .byt (q)), (25, .dmB (nb (nv p / nv q)) (nb (nv p % nv q))), (18, .dmB (nb (nv p / nv q)) (nb (nv p % nv q))), (26, .byt (nb (nv p / nv q))), (27, .byt (nb (nv p % nv q))), (28, .is (.bool true)), (5, .byt (nb (nv p / nv q))), (6, .byt (nb (nv p % nv q))), (7, .is (.bool true))] (by kernel_rfl) (by kernel_rfl) (by rfl) ?_ ?_
  · refine seeOps_cons ?_ (seeOps_cons ?_ (seeOps_cons ?_ (seeOps_cons ?_ (seeOps_cons ?_ (seeOps_cons ?_ (seeOps_cons ?_ (seeOps_cons ?_ (seeOps_cons ?_ (seeOps_cons ?_ (seeOps_cons ?_ (seeOps_cons ?_ (seeOps_cons ?_ (seeOps_cons ?_ seeOps_nil)))))))))))))
    · intro w2 hb2 fr hout hin
      have h1 : fr.tmps.getD 1 undef = .pointer (some ⟨w.heap.size, 0, none⟩) := hout 1 (by decide)
      exact op_fieldN (.tmp 1) rfl (by decide) h1 (wanted_none rfl) rfl
    · intro w2 hb2 fr hout hin
      have h19 : fr.tmps.getD 19 undef = .pointer (some ⟨w.heap.size, 0, none⟩) := hin 19 (by decide) (by decide)
      exact op_load1 (.tmp 19) rfl (fun _ => by kernel_rfl) h19 ((HX.out.below hb2).c0) (wanted_none rfl) (RA.out.below hb2)
    · intro w2 hb2 fr hout hin
      have h20 : Byt w2 (fr.tmps.getD 20 undef) (xs) := hin 20 (by decide) (by decide)
      exact op_call1 (.tmp 20) rfl en_few (wanted_none rfl) (FFp.out _ h20) (fun _ _ h => h)
    · intro w2 hb2 fr hout hin
      have h1 : fr.tmps.getD 1 undef = .pointer (some ⟨w.heap.size, 0, none⟩) := hout 1 (by decide)
      exact op_fieldN (.tmp 1) rfl (by decide) h1 (wanted_none rfl) rfl
    · intro w2 hb2 fr hout hin
      have h22 : fr.tmps.getD 22 undef = .pointer (some ⟨w.heap.size, 1, none⟩) := hin 22 (by decide) (by decide)
      exact op_load1 (.tmp 22) rfl (fun _ => by kernel_rfl) h22 ((HX.out.below hb2).c1) (wanted_none rfl) (RB.out.below hb2)
    · intro w2 hb2 fr hout hin
      have h23 : Byt w2 (fr.tmps.getD 23 undef) (ys) := hin 23 (by decide) (by decide)
      exact op_call1 (.tmp 23) rfl en_few (wanted_none rfl) (FFq.out _ h23) (fun _ _ h => h)
    · intro w2 hb2 fr hout hin
      have h21 : Byt w2 (fr.tmps.getD 21 undef) (p) := hin 21 (by decide) (by decide)
      have h24 : Byt w2 (fr.tmps.getD 24 undef) (q) := hin 24 (by decide) (by decide)
      exact op_call2 (.tmp 21) (.tmp 24) rfl en_dm (wanted_none rfl) (dm_v _ h21 h24 (by have := HLp.out; omega) (by have := HLq.out; omega) HPOS.out) (fun _ _ h => h)
    · intro w2 hb2 fr hout hin
      have h25 : DmB w2 (fr.tmps.getD 25 undef) (nb (nv p / nv q)) (nb (nv p % nv q)) := hin 25 (by decide) (by decide)
      exact relStep_move (.tmp 25) rfl (wanted_none rfl) h25
    · intro w2 hb2 fr hout hin
      have h18 : DmB w2 (fr.tmps.getD 18 undef) (nb (nv p / nv q)) (nb (nv p % nv q)) := hin 18 (by decide) (by decide)
      obtain ⟨x, y, e, hx, hy⟩ := h18
      exact op_ext (.tmp 18) 0 rfl e rfl (wanted_none rfl) hx
    · intro w2 hb2 fr hout hin
      have h18 : DmB w2 (fr.tmps.getD 18 undef) (nb (nv p / nv q)) (nb (nv p % nv q)) := hin 18 (by decide) (by decide)
      obtain ⟨x, y, e, hx, hy⟩ := h18
      exact op_ext (.tmp 18) 1 rfl e rfl (wanted_none rfl) hy
    · intro w2 hb2 fr hout hin
      have h18 : DmB w2 (fr.tmps.getD 18 undef) (nb (nv p / nv q)) (nb (nv p % nv q)) := hin 18 (by decide) (by decide)
      obtain ⟨x, y, e, hx, hy⟩ := h18
      exact op_ext (.tmp 18) 2 rfl e rfl (wanted_none rfl) rfl
    · intro w2 hb2 fr hout hin
      have h26 : Byt w2 (fr.tmps.getD 26 undef) (nb (nv p / nv q)) := hin 26 (by decide) (by decide)
      exact relStep_assign (.tmp 26) rfl (wanted_none rfl) h26
    · intro w2 hb2 fr hout hin
      have h27 : Byt w2 (fr.tmps.getD 27 undef) (nb (nv p % nv q)) := hin 27 (by decide) (by decide)
      exact relStep_assign (.tmp 27) rfl (wanted_none rfl) h27
    · intro w2 hb2 fr hout hin
      have h28 : fr.tmps.getD 28 undef = .bool true := hin 28 (by decide) (by decide)
      exact relStep_assign (.tmp 28) rfl (wanted_none rfl) h28
  intro w3 hb3
  refine relAsk_in (by rfl) ?_
  intro v19 h19
  obtain rfl : v19 = .pointer (some ⟨w.heap.size, 0, none⟩) := h19
  refine relAsk_in (by rfl) ?_
  intro v20 h20
  refine relAsk_in (by rfl) ?_
  intro v21 h21
  refine relAsk_in (by rfl) ?_
  intro v22 h22
  obtain rfl : v22 = .pointer (some ⟨w.heap.size, 1, none⟩) := h22
  refine relAsk_in (by rfl) ?_
  intro v23 h23
  refine relAsk_in (by rfl) ?_
  intro v24 h24
  refine relAsk_in (by rfl) ?_
  intro v25 h25
  refine relAsk_in (by rfl) ?_
  intro v18 h18
  refine relAsk_in (by rfl) ?_
  intro v26 h26
  refine relAsk_in (by rfl) ?_
  intro v27 h27
  refine relAsk_in (by rfl) ?_
  intro v28 h28
  obtain rfl : v28 = .bool true := h28
  refine relAsk_in (by rfl) ?_
  intro v5 h5
  refine relAsk_in (by rfl) ?_
  intro v6 h6
  refine relAsk_in (by rfl) ?_
  intro v7 h7
  obtain rfl : v7 = .bool true := h7
  refine relAsk_nil ?_
  have RA := Lib.hid (RA.out.below hb3)
  have RB := Lib.hid (RB.out.below hb3)
  have RM := Lib.hid (RM.out.below hb3)
  have HX := Lib.hid (HX.out.below hb3)
  have HW := Lib.hid (HW.out.trans (hb3.mono HW.out.size))
  have H3 := Lib.hid (H3.out.below hb3)
  have H4 := Lib.hid (H4.out.below hb3)
  have H5 : Hid (Byt w3 (v5) (nb (nv p / nv q))) := h5
  have H6 : Hid (Byt w3 (v6) (nb (nv p % nv q))) := h6
  clear h20 h21 h23 h24 h25 h18 h26 h27 h5 h6 hb3
  refine wpList_nil ?_
  go_simp
  go_upto_region 4 with (fail)
  refine wp_region_seq 3 [29, 30, 31] [(29, .num (nv q) 4096), (30, .posI), (31, .is (.bool false))] (by kernel_rfl) (by rfl) ?_ ?_
  · refine seeOps_cons ?_ (seeOps_cons ?_ (seeOps_cons ?_ seeOps_nil))
    · intro w2 hb2 fr hout hin
      have h4 : Num w2 (fr.tmps.getD 4 undef) (nv q) 4096 := by
        have e : fr.tmps.getD 4 undef = v4 := hout 4 (by decide)
        rw [e]; exact H4.out.below hb2
      exact relStep_move (.tmp 4) rfl (wanted_none rfl) h4
    · intro w2 hb2 fr hout hin
      have h29 : Num w2 (fr.tmps.getD 29 undef) (nv q) 4096 := hin 29 (by decide) (by decide)
      exact op_lenN (.tmp 29) rfl h29 HPOS.out (wanted_none rfl) (fun _ h => h)
    · intro w2 hb2 fr hout hin
      have h30 : PosI (fr.tmps.getD 30 undef) := hin 30 (by decide) (by decide)
      exact op_posZ (.tmp 30) _ rfl h30 (wanted_none rfl) rfl
  intro w4 hb4
  refine relAsk_in (by rfl) ?_
  intro v29 h29
  refine relAsk_in (by rfl) ?_
  intro v30 h30
  clear h30
  refine relAsk_in (by rfl) ?_
  intro v31 h31
  obtain rfl : v31 = .bool false := h31
  refine relAsk_nil ?_
  have RA := Lib.hid (RA.out.below hb4)
  have RB := Lib.hid (RB.out.below hb4)
  have RM := Lib.hid (RM.out.below hb4)
  have HX := Lib.hid (HX.out.below hb4)
  have HW := Lib.hid (HW.out.trans (hb4.mono HW.out.size))
  have H3 := Lib.hid (H3.out.below hb4)
  have H4 := Lib.hid (H4.out.below hb4)
  have H5 := Lib.hid (H5.out.below hb4)
  have H6 := Lib.hid (H6.out.below hb4)
  clear h29 hb4
  refine wpList_nil ?_
  go_simp
  go_upto_region 6 with (fail)
  refine wp_region_seq 8 [48, 49, 50, 47, 51, 52, 8, 9] [(48, .num (nv p) 4096), (49, .num (nv q) 4096), (50, .two (nv p / nv q) (nv p % nv q) 4096 4096), (47, .two (nv p / nv q) (nv p % nv q) 4096 4096), (51, .num (nv p / nv q) 4096), (52, .num (nv p % nv q) 4096), (8, .num (nv p / nv q) 4096), (9, .num (nv p % nv q) 4096)] (by kernel_rfl) (by rfl) ?_ ?_
  · refine seeOps_cons ?_ (seeOps_cons ?_ (seeOps_cons ?_ (seeOps_cons ?_ (seeOps_cons ?_ (seeOps_cons ?_ (seeOps_cons ?_ (seeOps_cons ?_ seeOps_nil)))))))
    · intro w2 hb2 fr hout hin
      have h3 : Num w2 (fr.tmps.getD 3 undef) (nv p) 4096 := by
        have e : fr.tmps.getD 3 undef = v3 := hout 3 (by decide)
        rw [e]; exact H3.out.below hb2
      exact relStep_move (.tmp 3) rfl (wanted_none rfl) h3
    · intro w2 hb2 fr hout hin
      have h4 : Num w2 (fr.tmps.getD 4 undef) (nv q) 4096 := by
        have e : fr.tmps.getD 4 undef = v4 := hout 4 (by decide)
        rw [e]; exact H4.out.below hb2
      exact relStep_move (.tmp 4) rfl (wanted_none rfl) h4
    · intro w2 hb2 fr hout hin
      have h48 : Num w2 (fr.tmps.getD 48 undef) (nv p) 4096 := hin 48 (by decide) (by decide)
      have h49 : Num w2 (fr.tmps.getD 49 undef) (nv q) 4096 := hin 49 (by decide) (by decide)
      exact op_call2 (.tmp 48) (.tmp 49) rfl en_dm2 (wanted_none rfl) (dm2_v _ h48 h49 (by decide) (by decide) (HPOS.out)) (fun _ _ h => h)
    · intro w2 hb2 fr hout hin
      have h50 : Two w2 (fr.tmps.getD 50 undef) (nv p / nv q) (nv p % nv q) 4096 4096 := hin 50 (by decide) (by decide)
      exact relStep_move (.tmp 50) rfl (wanted_none rfl) h50
    · intro w2 hb2 fr hout hin
      have h47 : Two w2 (fr.tmps.getD 47 undef) (nv p / nv q) (nv p % nv q) 4096 4096 := hin 47 (by decide) (by decide)
      obtain ⟨x, y, e, hx, hy⟩ := h47
      exact op_ext (.tmp 47) 0 rfl e rfl (wanted_none rfl) hx
    · intro w2 hb2 fr hout hin
      have h47 : Two w2 (fr.tmps.getD 47 undef) (nv p / nv q) (nv p % nv q) 4096 4096 := hin 47 (by decide) (by decide)
      obtain ⟨x, y, e, hx, hy⟩ := h47
      exact op_ext (.tmp 47) 1 rfl e rfl (wanted_none rfl) hy
    · intro w2 hb2 fr hout hin
      have h51 : Num w2 (fr.tmps.getD 51 undef) (nv p / nv q) 4096 := hin 51 (by decide) (by decide)
      exact relStep_assign (.tmp 51) rfl (wanted_none rfl) h51
    · intro w2 hb2 fr hout hin
      have h52 : Num w2 (fr.tmps.getD 52 undef) (nv p % nv q) 4096 := hin 52 (by decide) (by decide)
      exact relStep_assign (.tmp 52) rfl (wanted_none rfl) h52
  intro w5 hb5
  refine relAsk_in (by rfl) ?_
  intro v48 h48
  refine relAsk_in (by rfl) ?_
  intro v49 h49
  refine relAsk_in (by rfl) ?_
  intro v50 h50
  refine relAsk_in (by rfl) ?_
  intro v47 h47
  refine relAsk_in (by rfl) ?_
  intro v51 h51
  refine relAsk_in (by rfl) ?_
  intro v52 h52
  refine relAsk_in (by rfl) ?_
  intro v8 h8
  refine relAsk_in (by rfl) ?_
  intro v9 h9
  refine relAsk_nil ?_
  have RA := Lib.hid (RA.out.below hb5)
  have RB := Lib.hid (RB.out.below hb5)
  have RM := Lib.hid (RM.out.below hb5)
  have HX := Lib.hid (HX.out.below hb5)
  have HW := Lib.hid (HW.out.trans (hb5.mono HW.out.size))
  have H3 := Lib.hid (H3.out.below hb5)
  have H4 := Lib.hid (H4.out.below hb5)
  have H5 := Lib.hid (H5.out.below hb5)
  have H6 := Lib.hid (H6.out.below hb5)
  have H8 : Hid (Num w5 (v8) (nv p / nv q) 4096) := h8
  have H9 : Hid (Num w5 (v9) (nv p % nv q) 4096) := h9
  clear h48 h49 h50 h47 h51 h52 h8 h9 hb5
  refine wpList_nil ?_
  go_simp
  go_upto_region 7 with (fail)
  refine wp_region_see 21 [53, 54, 55, 56, 57, 58, 59, 60, 61, 62, 63, 64, 65, 66, 67, 68, 69, 70, 71, 72, 2] [(53, .is (.bool true)), (54, .is (.bool true)), (55, .byt (nb (nv p / nv q))), (56, .is (.string (sOf (nb (nv p / nv q))))), (57, .num (nv p / nv q) 4096), (58, .byt (nb (nv p / nv q))), (59, .is (.string (sOf (nb (nv p / nv q))))), (60, .is (.bool true)), (61, .is (.bool true)), (62, .is (.bool true)), (63, .byt (nb (nv p % nv q))), (64, .is (.string (sOf (nb (nv p % nv q))))), (65, .num (nv p % nv q) 4096), (66, .byt (nb (nv p % nv q))), (67, .is (.string (sOf (nb (nv p % nv q))))), (68, .is (.bool true)), (69, .is (.bool true)), (70, .is (.bool true)), (71, .is (.bool true)), (72, .is (.bool true)), (2, .is (.bool true))] (by kernel_rfl) (by kernel_rfl) (by rfl) ?_ ?_
  · refine seeOps_cons ?_ (seeOps_cons ?_ (seeOps_cons ?_ (seeOps_cons ?_ (seeOps_cons ?_ (seeOps_cons ?_ (seeOps_cons ?_ (seeOps_cons ?_ (seeOps_cons ?_ (seeOps_cons ?_ (seeOps_cons ?_ (seeOps_cons ?_ (seeOps_cons ?_ (seeOps_cons ?_ (seeOps_cons ?_ (seeOps_cons ?_ (seeOps_cons ?_ (seeOps_cons ?_ (seeOps_cons ?_ (seeOps_cons ?_ (seeOps_cons ?_ seeOps_nil))))))))))))))))))))
    · intro w2 hb2 fr hout hin
      have h7 : fr.tmps.getD 7 undef = .bool true := hout 7 (by decide)
      exact relStep_move (.tmp 7) rfl (wanted_none rfl) h7
    · intro w2 hb2 fr hout hin
      have h53 : fr.tmps.getD 53 undef = .bool true := hin 53 (by decide) (by decide)
      exact relStep_move (.tmp 53) rfl (wanted_none rfl) h53
    · intro w2 hb2 fr hout hin
      have h54 : fr.tmps.getD 54 undef = .bool true := hin 54 (by decide) (by decide)
      have h5 : Byt w2 (fr.tmps.getD 5 undef) (nb (nv p / nv q)) := by
        have e : fr.tmps.getD 5 undef = v5 := hout 5 (by decide)
        rw [e]; exact H5.out.below hb2
      exact relStep_move (.tmp 5) rfl (wanted_some (g := 1) (t := 54) (b := true) rfl rfl h54) h5
    · intro w2 hb2 fr hout hin
      have h54 : fr.tmps.getD 54 undef = .bool true := hin 54 (by decide) (by decide)
      have h55 : Byt w2 (fr.tmps.getD 55 undef) (nb (nv p / nv q)) := hin 55 (by decide) (by decide)
      exact op_str (.tmp 55) rfl h55 (wanted_some (g := 1) (t := 54) (b := true) rfl rfl h54) rfl
    · intro w2 hb2 fr hout hin
      have h54 : fr.tmps.getD 54 undef = .bool true := hin 54 (by decide) (by decide)
      have h8 : Num w2 (fr.tmps.getD 8 undef) (nv p / nv q) 4096 := by
        have e : fr.tmps.getD 8 undef = v8 := hout 8 (by decide)
        rw [e]; exact H8.out.below hb2
      exact relStep_move (.tmp 8) rfl (wanted_some (g := 1) (t := 54) (b := true) rfl rfl h54) h8
    · intro w2 hb2 fr hout hin
      have h54 : fr.tmps.getD 54 undef = .bool true := hin 54 (by decide) (by decide)
      have h57 : Num w2 (fr.tmps.getD 57 undef) (nv p / nv q) 4096 := hin 57 (by decide) (by decide)
      exact op_call1 (.tmp 57) rfl en_bytes2 (wanted_some (g := 1) (t := 54) (b := true) rfl rfl h54) (bytes2_v _ h57 (by decide)) (fun _ _ h => h)
    · intro w2 hb2 fr hout hin
      have h54 : fr.tmps.getD 54 undef = .bool true := hin 54 (by decide) (by decide)
      have h58 : Byt w2 (fr.tmps.getD 58 undef) (nb (nv p / nv q)) := hin 58 (by decide) (by decide)
      exact op_str (.tmp 58) rfl h58 (wanted_some (g := 1) (t := 54) (b := true) rfl rfl h54) rfl
    · intro w2 hb2 fr hout hin
      have h54 : fr.tmps.getD 54 undef = .bool true := hin 54 (by decide) (by decide)
      have h56 : fr.tmps.getD 56 undef = .string (sOf (nb (nv p / nv q))) := hin 56 (by decide) (by decide)
      have h59 : fr.tmps.getD 59 undef = .string (sOf (nb (nv p / nv q))) := hin 59 (by decide) (by decide)
      exact op_eqS (.tmp 56) (.tmp 59) _ rfl h56 h59 (wanted_some (g := 1) (t := 54) (b := true) rfl rfl h54) rfl
    · intro w2 hb2 fr hout hin
      have h54 : fr.tmps.getD 54 undef = .bool true := hin 54 (by decide) (by decide)
      have h60 : fr.tmps.getD 60 undef = .bool true := hin 60 (by decide) (by decide)
      exact relStep_pick (.tmp 54) (.tmp 60) (.const (.bool false)) rfl h54 (wanted_none rfl) h60
    · intro w2 hb2 fr hout hin
      have h61 : fr.tmps.getD 61 undef = .bool true := hin 61 (by decide) (by decide)
      exact relStep_move (.tmp 61) rfl (wanted_none rfl) h61
    · intro w2 hb2 fr hout hin
      have h62 : fr.tmps.getD 62 undef = .bool true := hin 62 (by decide) (by decide)
      have h6 : Byt w2 (fr.tmps.getD 6 undef) (nb (nv p % nv q)) := by
        have e : fr.tmps.getD 6 undef = v6 := hout 6 (by decide)
        rw [e]; exact H6.out.below hb2
      exact relStep_move (.tmp 6) rfl (wanted_some (g := 9) (t := 62) (b := true) rfl rfl h62) h6
    · intro w2 hb2 fr hout hin
      have h62 : fr.tmps.getD 62 undef = .bool true := hin 62 (by decide) (by decide)
      have h63 : Byt w2 (fr.tmps.getD 63 undef) (nb (nv p % nv q)) := hin 63 (by decide) (by decide)
      exact op_str (.tmp 63) rfl h63 (wanted_some (g := 9) (t := 62) (b := true) rfl rfl h62) rfl
    · intro w2 hb2 fr hout hin
      have h62 : fr.tmps.getD 62 undef = .bool true := hin 62 (by decide) (by decide)
      have h9 : Num w2 (fr.tmps.getD 9 undef) (nv p % nv q) 4096 := by
        have e : fr.tmps.getD 9 undef = v9 := hout 9 (by decide)
        rw [e]; exact H9.out.below hb2
      exact relStep_move (.tmp 9) rfl (wanted_some (g := 9) (t := 62) (b := true) rfl rfl h62) h9
    · intro w2 hb2 fr hout hin
      have h62 : fr.tmps.getD 62 undef = .bool true := hin 62 (by decide) (by decide)
      have h65 : Num w2 (fr.tmps.getD 65 undef) (nv p % nv q) 4096 := hin 65 (by decide) (by decide)
      exact op_call1 (.tmp 65) rfl en_bytes2 (wanted_some (g := 9) (t := 62) (b := true) rfl rfl h62) (bytes2_v _ h65 (by decide)) (fun _ _ h => h)
    · intro w2 hb2 fr hout hin
      have h62 : fr.tmps.getD 62 undef = .bool true := hin 62 (by decide) (by decide)
      have h66 : Byt w2 (fr.tmps.getD 66 undef) (nb (nv p % nv q)) := hin 66 (by decide) (by decide)
      exact op_str (.tmp 66) rfl h66 (wanted_some (g := 9) (t := 62) (b := true) rfl rfl h62) rfl
    · intro w2 hb2 fr hout hin
      have h62 : fr.tmps.getD 62 undef = .bool true := hin 62 (by decide) (by decide)
      have h64 : fr.tmps.getD 64 undef = .string (sOf (nb (nv p % nv q))) := hin 64 (by decide) (by decide)
      have h67 : fr.tmps.getD 67 undef = .string (sOf (nb (nv p % nv q))) := hin 67 (by decide) (by decide)
      exact op_eqS (.tmp 64) (.tmp 67) _ rfl h64 h67 (wanted_some (g := 9) (t := 62) (b := true) rfl rfl h62) rfl
    · intro w2 hb2 fr hout hin
      have h62 : fr.tmps.getD 62 undef = .bool true := hin 62 (by decide) (by decide)
      have h68 : fr.tmps.getD 68 undef = .bool true := hin 68 (by decide) (by decide)
      exact relStep_pick (.tmp 62) (.tmp 68) (.const (.bool false)) rfl h62 (wanted_none rfl) h68
    · intro w2 hb2 fr hout hin
      have h69 : fr.tmps.getD 69 undef = .bool true := hin 69 (by decide) (by decide)
      exact relStep_move (.tmp 69) rfl (wanted_none rfl) h69
    · intro w2 hb2 fr hout hin
      have h70 : fr.tmps.getD 70 undef = .bool true := hin 70 (by decide) (by decide)
      exact op_call0 rfl en_wakes (wanted_some (g := 17) (t := 70) (b := true) rfl rfl h70) (nwakes_v _) (fun _ _ h => h)
    · intro w2 hb2 fr hout hin
      have h70 : fr.tmps.getD 70 undef = .bool true := hin 70 (by decide) (by decide)
      have h71 : fr.tmps.getD 71 undef = .bool true := hin 71 (by decide) (by decide)
      exact relStep_pick (.tmp 70) (.tmp 71) (.const (.bool false)) rfl h70 (wanted_none rfl) h71
    · intro w2 hb2 fr hout hin
      have h72 : fr.tmps.getD 72 undef = .bool true := hin 72 (by decide) (by decide)
      exact relStep_assign (.tmp 72) rfl (wanted_none rfl) h72
  intro w6 hb6
  refine relAsk_in (by rfl) ?_
  intro v53 h53
  obtain rfl : v53 = .bool true := h53
  refine relAsk_in (by rfl) ?_
  intro v54 h54
  obtain rfl : v54 = .bool true := h54
  refine relAsk_in (by rfl) ?_
  intro v55 h55
  refine relAsk_in (by rfl) ?_
  intro v56 h56
  obtain rfl : v56 = .string (sOf (nb (nv p / nv q))) := h56
  refine relAsk_in (by rfl) ?_
  intro v57 h57
  refine relAsk_in (by rfl) ?_
  intro v58 h58
  refine relAsk_in (by rfl) ?_
  intro v59 h59
  obtain rfl : v59 = .string (sOf (nb (nv p / nv q))) := h59
  refine relAsk_in (by rfl) ?_
  intro v60 h60
  obtain rfl : v60 = .bool true := h60
  refine relAsk_in (by rfl) ?_
  intro v61 h61
  obtain rfl : v61 = .bool true := h61
  refine relAsk_in (by rfl) ?_
  intro v62 h62
  obtain rfl : v62 = .bool true := h62
  refine relAsk_in (by rfl) ?_
  intro v63 h63
  refine relAsk_in (by rfl) ?_
  intro v64 h64
  obtain rfl : v64 = .string (sOf (nb (nv p % nv q))) := h64
  refine relAsk_in (by rfl) ?_
  intro v65 h65
  refine relAsk_in (by rfl) ?_
  intro v66 h66
  refine relAsk_in (by rfl) ?_
  intro v67 h67
  obtain rfl : v67 = .string (sOf (nb (nv p % nv q))) := h67
  refine relAsk_in (by rfl) ?_
  intro v68 h68
  obtain rfl : v68 = .bool true := h68
  refine relAsk_in (by rfl) ?_
  intro v69 h69
  obtain rfl : v69 = .bool true := h69
  refine relAsk_in (by rfl) ?_
  intro v70 h70
  obtain rfl : v70 = .bool true := h70
  refine relAsk_in (by rfl) ?_
  intro v71 h71
  obtain rfl : v71 = .bool true := h71
  refine relAsk_in (by rfl) ?_
  intro v72 h72
  obtain rfl : v72 = .bool true := h72
  refine relAsk_in (by rfl) ?_
  intro v2 h2
  obtain rfl : v2 = .bool true := h2
  refine relAsk_nil ?_
  have RA := Lib.hid (RA.out.below hb6)
  have RB := Lib.hid (RB.out.below hb6)
  have RM := Lib.hid (RM.out.below hb6)
  have HX := Lib.hid (HX.out.below hb6)
  have HW := Lib.hid (HW.out.trans (hb6.mono HW.out.size))
  have H3 := Lib.hid (H3.out.below hb6)
  have H4 := Lib.hid (H4.out.below hb6)
  have H5 := Lib.hid (H5.out.below hb6)
  have H6 := Lib.hid (H6.out.below hb6)
  have H8 := Lib.hid (H8.out.below hb6)
  have H9 := Lib.hid (H9.out.below hb6)
  clear h55 h57 h58 h63 h65 h66 hb6
  refine wpList_nil ?_
  go_simp
  go_wp2_with fail
  go_ret
  exact ⟨rfl, HW.out⟩

set_option maxRecDepth 100000 in
set_option maxHeartbeats 12800000 in
theorem divides_zero {A B M : Option Addr} {ca cb cm : Nat} {i wide : Int} {xs ys zs : List Nat} (w : World) (hA : Rd .u8 w A ca xs) (dA : Ds 256 xs) (hB : Rd .u8 w B cb ys) (dB : Ds 256 ys) (hM : Rd .u8 w M cm zs) (dM : Ds 256 zs) (h0 : nv (ys.take 600) = 0) :
    Calls Try.prog 13 #[.agg #[.slice A xs.length ca, .slice B ys.length cb, .slice M zs.length cm, .int .i64 i, .int .i64 wide]] w (RetV (.bool true) w) := by
  obtain ⟨p, hp⟩ : ∃ zz, zz = xs.take 600 := ⟨_, rfl⟩
  have hlp : p.length ≤ 600 := by rw [hp, List.length_take]; omega
  have ffp : ∀ (w : World) {u : Value}, Byt w u xs → Calls Try.prog 75 #[u] w (RetR (fun w' v => Byt w' v p) w) := fun w u h => by rw [hp]; exact few_v w h
  have HLp := Lib.hid hlp
  have FFp := Lib.hid ffp
  have Hp := Lib.hid hp
  clear hlp ffp hp
  obtain ⟨q, hq⟩ : ∃ zz, zz = ys.take 600 := ⟨_, rfl⟩
  have hlq : q.length ≤ 600 := by rw [hq, List.length_take]; omega
  have ffq : ∀ (w : World) {u : Value}, Byt w u ys → Calls Try.prog 75 #[u] w (RetR (fun w' v => Byt w' v q) w) := fun w u h => by rw [hq]; exact few_v w h
  have HLq := Lib.hid hlq
  have FFq := Lib.hid ffq
  have Hq := Lib.hid hq
  clear hlq ffq hq
  have HZ := Lib.hid h0
  rw [← Hq.out] at HZ
  clear h0
  obtain ⟨L, hL⟩ : ∃ L, L = xs.length := ⟨_, rfl⟩
  obtain ⟨K, hK⟩ : ∃ K, K = ys.length := ⟨_, rfl⟩
  obtain ⟨J, hJ⟩ : ∃ J, J = zs.length := ⟨_, rfl⟩
  have rA : Byt w (.slice A L ca) xs := ⟨A, ca, by rw [hL], hA, dA⟩
  have rB : Byt w (.slice B K cb) ys := ⟨B, cb, by rw [hK], hB, dB⟩
  have rM : Byt w (.slice M J cm) zs := ⟨M, cm, by rw [hJ], hM, dM⟩
  rw [← hL, ← hK, ← hJ]
  have hW := (Below.refl w.heap.size w).alloc (Nat.le_refl _) (.cells #[.slice A L ca, .slice B K cb, .slice M J cm, .int .i64 i, .int .i64 wide] 51)
  have hx := Box5.new w (.slice A L ca) (.slice B K cb) (.slice M J cm) (.int .i64 i) (.int .i64 wide) 51
  have RA := Lib.hid (rA.below hW)
  have RB := Lib.hid (rB.below hW)
  have RM := Lib.hid (rM.below hW)
  have HX := Lib.hid hx
  have HW := Lib.hid hW
  clear hA dA hB dB hM dM hL hK hJ rA rB rM hW hx
  go_enter Try.func13, Try.ntmps13
  go_upto_region 1 with (fail)
  generalize hX : w.alloc (.cells #[.slice A L ca, .slice B K cb, .slice M J cm, .int .i64 i, .int .i64 wide] 51) = X at *
  clear hX
  refine wp_region_seq 5 [10, 11, 12, 13, 3] [(10, .is (.pointer (some ⟨w.heap.size, 0, none⟩))), (11, .byt (xs)), (12, .byt (p)), (13, .num (nv p) 4096), (3, .num (nv p) 4096)] (by kernel_rfl) (by rfl) ?_ ?_
  · refine seeOps_cons ?_ (seeOps_cons ?_ (seeOps_cons ?_ (seeOps_cons ?_ (seeOps_cons ?_ seeOps_nil))))
    · intro w2 hb2 fr hout hin
      have h1 : fr.tmps.getD 1 undef = .pointer (some ⟨w.heap.size, 0, none⟩) := hout 1 (by decide)
      exact op_fieldN (.tmp 1) rfl (by decide) h1 (wanted_none rfl) rfl
    · intro w2 hb2 fr hout hin
      have h10 : fr.tmps.getD 10 undef = .pointer (some ⟨w.heap.size, 0, none⟩) := hin 10 (by decide) (by decide)
      exact op_load1 (.tmp 10) rfl (fun _ => by kernel_rfl) h10 ((HX.out.below hb2).c0) (wanted_none rfl) (RA.out.below hb2)
    · intro w2 hb2 fr hout hin
      have h11 : Byt w2 (fr.tmps.getD 11 undef) (xs) := hin 11 (by decide) (by decide)
      exact op_call1 (.tmp 11) rfl en_few (wanted_none rfl) (FFp.out _ h11) (fun _ _ h => h)
    · intro w2 hb2 fr hout hin
      have h12 : Byt w2 (fr.tmps.getD 12 undef) (p) := hin 12 (by decide) (by decide)
      exact op_call1 (.tmp 12) rfl en_from2 (wanted_none rfl) (from2_v _ h12 (by have := HLp.out; omega)) (fun _ _ h => h)
    · intro w2 hb2 fr hout hin
      have h13 : Num w2 (fr.tmps.getD 13 undef) (nv p) 4096 := hin 13 (by decide) (by decide)
      exact relStep_assign (.tmp 13) rfl (wanted_none rfl) h13
  intro w1 hb1
  refine relAsk_in (by rfl) ?_
  intro v10 h10
  obtain rfl : v10 = .pointer (some ⟨w.heap.size, 0, none⟩) := h10
  refine relAsk_in (by rfl) ?_
  intro v11 h11
  refine relAsk_in (by rfl) ?_
  intro v12 h12
  refine relAsk_in (by rfl) ?_
  intro v13 h13
  refine relAsk_in (by rfl) ?_
  intro v3 h3
  refine relAsk_nil ?_
  have RA := Lib.hid (RA.out.below hb1)
  have RB := Lib.hid (RB.out.below hb1)
  have RM := Lib.hid (RM.out.below hb1)
  have HX := Lib.hid (HX.out.below hb1)
  have HW := Lib.hid (HW.out.trans (hb1.mono HW.out.size))
  have H3 : Hid (Num w1 (v3) (nv p) 4096) := h3
  clear h11 h12 h13 h3 hb1
  refine wpList_nil ?_
  go_simp
  go_upto_region 2 with (fail)
  refine wp_region_seq 5 [14, 15, 16, 17, 4] [(14, .is (.pointer (some ⟨w.heap.size, 1, none⟩))), (15, .byt (ys)), (16, .byt (q)), (17, .num (nv q) 4096), (4, .num (nv q) 4096)] (by kernel_rfl) (by rfl) ?_ ?_
  · refine seeOps_cons ?_ (seeOps_cons ?_ (seeOps_cons ?_ (seeOps_cons ?_ (seeOps_cons ?_ seeOps_nil))))
    · intro w2 hb2 fr hout hin
      have h1 : fr.tmps.getD 1 undef = .pointer (some ⟨w.heap.size, 0, none⟩) := hout 1 (by decide)
      exact op_fieldN (.tmp 1) rfl (by decide) h1 (wanted_none rfl) rfl
    · intro w2 hb2 fr hout hin
      have h14 : fr.tmps.getD 14 undef = .pointer (some ⟨w.heap.size, 1, none⟩) := hin 14 (by decide) (by decide)
      exact op_load1 (.tmp 14) rfl (fun _ => by kernel_rfl) h14 ((HX.out.below hb2).c1) (wanted_none rfl) (RB.out.below hb2)
    · intro w2 hb2 fr hout hin
      have h15 : Byt w2 (fr.tmps.getD 15 undef) (ys) := hin 15 (by decide) (by decide)
      exact op_call1 (.tmp 15) rfl en_few (wanted_none rfl) (FFq.out _ h15) (fun _ _ h => h)
    · intro w2 hb2 fr hout hin
      have h16 : Byt w2 (fr.tmps.getD 16 undef) (q) := hin 16 (by decide) (by decide)
      exact op_call1 (.tmp 16) rfl en_from2 (wanted_none rfl) (from2_v _ h16 (by have := HLq.out; omega)) (fun _ _ h => h)
    · intro w2 hb2 fr hout hin
      have h17 : Num w2 (fr.tmps.getD 17 undef) (nv q) 4096 := hin 17 (by decide) (by decide)
      exact relStep_assign (.tmp 17) rfl (wanted_none rfl) h17
  intro w2 hb2
  refine relAsk_in (by rfl) ?_
  intro v14 h14
  obtain rfl : v14 = .pointer (some ⟨w.heap.size, 1, none⟩) := h14
  refine relAsk_in (by rfl) ?_
  intro v15 h15
  refine relAsk_in (by rfl) ?_
  intro v16 h16
  refine relAsk_in (by rfl) ?_
  intro v17 h17
  refine relAsk_in (by rfl) ?_
  intro v4 h4
  refine relAsk_nil ?_
  have RA := Lib.hid (RA.out.below hb2)
  have RB := Lib.hid (RB.out.below hb2)
  have RM := Lib.hid (RM.out.below hb2)
  have HX := Lib.hid (HX.out.below hb2)
  have HW := Lib.hid (HW.out.trans (hb2.mono HW.out.size))
  have H3 := Lib.hid (H3.out.below hb2)
  have H4 : Hid (Num w2 (v4) (nv q) 4096) := h4
  clear h15 h16 h17 h4 hb2
  refine wpList_nil ?_
  go_simp
  go_upto_region 3 with (fail)
  refine wp_region_see 14 [19, 20, 21, 22, 23, 24, 25, 18, 26, 27, 28, 5, 6, 7] [(19, .is (.pointer (some ⟨w.heap.size, 0, none⟩))), (20, .byt (xs)), (21, .byt (p)), (22, .is (.pointer (some ⟨w.heap.size, 1, none⟩))), (23, .byt (ys)), (24, .byt (q)), (25, .is (.tuple #[.slice none 0 0, .slice none 0 0, .bool false])), (18, .is (.tuple #[.slice none 0 0, .slice none 0 0, .bool false])), (26, .is (.slice none 0 0)), (27, .is (.slice none 0 0)), (28, .is (.bool false)), (5, .is (.slice none 0 0)), (6, .is (.slice none 0 0)), (7, .is (.bool false))] (by kernel_rfl) (by kernel_rfl) (by rfl) ?_ ?_
  · refine seeOps_cons ?_ (seeOps_cons ?_ (seeOps_cons ?_ (seeOps_cons ?_ (seeOps_cons ?_ (seeOps_cons ?_ (seeOps_cons ?_ (seeOps_cons ?_ (seeOps_cons ?_ (seeOps_cons ?_ (seeOps_cons ?_ (seeOps_cons ?_ (seeOps_cons ?_ (seeOps_cons ?_ seeOps_nil)))))))))))))
    · intro w2 hb2 fr hout hin
      have h1 : fr.tmps.getD 1 undef = .pointer (some ⟨w.heap.size, 0, none⟩) := hout 1 (by decide)
      exact op_fieldN (.tmp 1) rfl (by decide) h1 (wanted_none rfl) rfl
    · intro w2 hb2 fr hout hin
      have h19 : fr.tmps.getD 19 undef = .pointer (some ⟨w.heap.size, 0, none⟩) := hin 19 (by decide) (by decide)
      exact op_load1 (.tmp 19) rfl (fun _ => by kernel_rfl) h19 ((HX.out.below hb2).c0) (wanted_none rfl) (RA.out.below hb2)
    · intro w2 hb2 fr hout hin
      have h20 : Byt w2 (fr.tmps.getD 20 undef) (xs) := hin 20 (by decide) (by decide)
      exact op_call1 (.tmp 20) rfl en_few (wanted_none rfl) (FFp.out _ h20) (fun _ _ h => h)
    · intro w2 hb2 fr hout hin
      have h1 : fr.tmps.getD 1 undef = .pointer (some ⟨w.heap.size, 0, none⟩) := hout 1 (by decide)
      exact op_fieldN (.tmp 1) rfl (by decide) h1 (wanted_none rfl) rfl
    · intro w2 hb2 fr hout hin
      have h22 : fr.tmps.getD 22 undef = .pointer (some ⟨w.heap.size, 1, none⟩) := hin 22 (by decide) (by decide)
      exact op_load1 (.tmp 22) rfl (fun _ => by kernel_rfl) h22 ((HX.out.below hb2).c1) (wanted_none rfl) (RB.out.below hb2)
    · intro w2 hb2 fr hout hin
      have h23 : Byt w2 (fr.tmps.getD 23 undef) (ys) := hin 23 (by decide) (by decide)
      exact op_call1 (.tmp 23) rfl en_few (wanted_none rfl) (FFq.out _ h23) (fun _ _ h => h)
    · intro w2 hb2 fr hout hin
      have h21 : Byt w2 (fr.tmps.getD 21 undef) (p) := hin 21 (by decide) (by decide)
      have h24 : Byt w2 (fr.tmps.getD 24 undef) (q) := hin 24 (by decide) (by decide)
      exact op_call2 (.tmp 21) (.tmp 24) rfl en_dm (wanted_none rfl) (dmno_v _ h21 h24 (by have := HLq.out; omega) HZ.out) (fun _ _ h => h)
    · intro w2 hb2 fr hout hin
      have h25 : fr.tmps.getD 25 undef = .tuple #[.slice none 0 0, .slice none 0 0, .bool false] := hin 25 (by decide) (by decide)
      exact relStep_move (.tmp 25) rfl (wanted_none rfl) h25
    · intro w2 hb2 fr hout hin
      have h18 : fr.tmps.getD 18 undef = .tuple #[.slice none 0 0, .slice none 0 0, .bool false] := hin 18 (by decide) (by decide)
      exact op_ext (.tmp 18) 0 rfl h18 rfl (wanted_none rfl) rfl
    · intro w2 hb2 fr hout hin
      have h18 : fr.tmps.getD 18 undef = .tuple #[.slice none 0 0, .slice none 0 0, .bool false] := hin 18 (by decide) (by decide)
      exact op_ext (.tmp 18) 1 rfl h18 rfl (wanted_none rfl) rfl
    · intro w2 hb2 fr hout hin
      have h18 : fr.tmps.getD 18 undef = .tuple #[.slice none 0 0, .slice none 0 0, .bool false] := hin 18 (by decide) (by decide)
      exact op_ext (.tmp 18) 2 rfl h18 rfl (wanted_none rfl) rfl
    · intro w2 hb2 fr hout hin
      have h26 : fr.tmps.getD 26 undef = .slice none 0 0 := hin 26 (by decide) (by decide)
      exact relStep_assign (.tmp 26) rfl (wanted_none rfl) h26
    · intro w2 hb2 fr hout hin
      have h27 : fr.tmps.getD 27 undef = .slice none 0 0 := hin 27 (by decide) (by decide)
      exact relStep_assign (.tmp 27) rfl (wanted_none rfl) h27
    · intro w2 hb2 fr hout hin
      have h28 : fr.tmps.getD 28 undef = .bool false := hin 28 (by decide) (by decide)
      exact relStep_assign (.tmp 28) rfl (wanted_none rfl) h28
  intro w3 hb3
  refine relAsk_in (by rfl) ?_
  intro v19 h19
  obtain rfl : v19 = .pointer (some ⟨w.heap.size, 0, none⟩) := h19
  refine relAsk_in (by rfl) ?_
  intro v20 h20
  refine relAsk_in (by rfl) ?_
  intro v21 h21
  refine relAsk_in (by rfl) ?_
  intro v22 h22
  obtain rfl : v22 = .pointer (some ⟨w.heap.size, 1, none⟩) := h22
  refine relAsk_in (by rfl) ?_
  intro v23 h23
  refine relAsk_in (by rfl) ?_
  intro v24 h24
  refine relAsk_in (by rfl) ?_
  intro v25 h25
  obtain rfl : v25 = .tuple #[.slice none 0 0, .slice none 0 0, .bool false] := h25
  refine relAsk_in (by rfl) ?_
  intro v18 h18
  obtain rfl : v18 = .tuple #[.slice none 0 0, .slice none 0 0, .bool false] := h18
  refine relAsk_in (by rfl) ?_
  intro v26 h26
  obtain rfl : v26 = .slice none 0 0 := h26
  refine relAsk_in (by rfl) ?_
  intro v27 h27
  obtain rfl : v27 = .slice none 0 0 := h27
  refine relAsk_in (by rfl) ?_
  intro v28 h28
  obtain rfl : v28 = .bool false := h28
  refine relAsk_in (by rfl) ?_
  intro v5 h5
  obtain rfl : v5 = .slice none 0 0 := h5
  refine relAsk_in (by rfl) ?_
  intro v6 h6
  obtain rfl : v6 = .slice none 0 0 := h6
  refine relAsk_in (by rfl) ?_
  intro v7 h7
  obtain rfl : v7 = .bool false := h7
  refine relAsk_nil ?_
  have RA := Lib.hid (RA.out.below hb3)
  have RB := Lib.hid (RB.out.below hb3)
  have RM := Lib.hid (RM.out.below hb3)
  have HX := Lib.hid (HX.out.below hb3)
  have HW := Lib.hid (HW.out.trans (hb3.mono HW.out.size))
  have H3 := Lib.hid (H3.out.below hb3)
  have H4 := Lib.hid (H4.out.below hb3)
  clear h20 h21 h23 h24 hb3
  refine wpList_nil ?_
  go_simp
  go_upto_region 4 with (fail)
  refine wp_region_seq 3 [29, 30, 31] [(29, .num (nv q) 4096), (30, .is (.int .i64 0)), (31, .is (.bool true))] (by kernel_rfl) (by rfl) ?_ ?_
  · refine seeOps_cons ?_ (seeOps_cons ?_ (seeOps_cons ?_ seeOps_nil))
    · intro w2 hb2 fr hout hin
      have h4 : Num w2 (fr.tmps.getD 4 undef) (nv q) 4096 := by
        have e : fr.tmps.getD 4 undef = v4 := hout 4 (by decide)
        rw [e]; exact H4.out.below hb2
      exact relStep_move (.tmp 4) rfl (wanted_none rfl) h4
    · intro w2 hb2 fr hout hin
      have h29 : Num w2 (fr.tmps.getD 29 undef) (nv q) 4096 := hin 29 (by decide) (by decide)
      exact op_lenZ (.tmp 29) rfl (by have k := h29; rw [HZ.out] at k; exact k) (wanted_none rfl) rfl
    · intro w2 hb2 fr hout hin
      have h30 : fr.tmps.getD 30 undef = .int .i64 0 := hin 30 (by decide) (by decide)
      exact op_eqI (.tmp 30) (.const (.int .i64 0)) _ rfl h30 rfl (wanted_none rfl) rfl
  intro w4 hb4
  refine relAsk_in (by rfl) ?_
  intro v29 h29
  refine relAsk_in (by rfl) ?_
  intro v30 h30
  obtain rfl : v30 = .int .i64 0 := h30
  refine relAsk_in (by rfl) ?_
  intro v31 h31
  obtain rfl : v31 = .bool true := h31
  refine relAsk_nil ?_
  have RA := Lib.hid (RA.out.below hb4)
  have RB := Lib.hid (RB.out.below hb4)
  have RM := Lib.hid (RM.out.below hb4)
  have HX := Lib.hid (HX.out.below hb4)
  have HW := Lib.hid (HW.out.trans (hb4.mono HW.out.size))
  have H3 := Lib.hid (H3.out.below hb4)
  have H4 := Lib.hid (H4.out.below hb4)
  clear h29 hb4
  refine wpList_nil ?_
  go_simp
  go_upto_region 5 with (fail)
  refine wp_region_seq 16 [32, 33, 34, 35, 36, 37, 38, 39, 40, 41, 42, 43, 44, 45, 46, 2] [(32, .is (.bool false)), (33, .is (.bool true)), (34, .is (.bool true)), (35, .is (.slice none 0 0)), (36, .is (.int .i64 0)), (37, .is (.bool true)), (38, .is (.bool true)), (39, .is (.bool true)), (40, .is (.slice none 0 0)), (41, .is (.int .i64 0)), (42, .is (.bool true)), (43, .is (.bool true)), (44, .is (.bool true)), (45, .is (.bool true)), (46, .is (.bool true)), (2, .is (.bool true))] (by kernel_rfl) (by rfl) ?_ ?_
  · refine seeOps_cons ?_ (seeOps_cons ?_ (seeOps_cons ?_ (seeOps_cons ?_ (seeOps_cons ?_ (seeOps_cons ?_ (seeOps_cons ?_ (seeOps_cons ?_ (seeOps_cons ?_ (seeOps_cons ?_ (seeOps_cons ?_ (seeOps_cons ?_ (seeOps_cons ?_ (seeOps_cons ?_ (seeOps_cons ?_ (seeOps_cons ?_ seeOps_nil)))))))))))))))
    · intro w2 hb2 fr hout hin
      have h7 : fr.tmps.getD 7 undef = .bool false := hout 7 (by decide)
      exact relStep_move (.tmp 7) rfl (wanted_none rfl) h7
    · intro w2 hb2 fr hout hin
      have h32 : fr.tmps.getD 32 undef = .bool false := hin 32 (by decide) (by decide)
      exact op_not (.tmp 32) _ rfl h32 (wanted_none rfl) rfl
    · intro w2 hb2 fr hout hin
      have h33 : fr.tmps.getD 33 undef = .bool true := hin 33 (by decide) (by decide)
      exact relStep_move (.tmp 33) rfl (wanted_none rfl) h33
    · intro w2 hb2 fr hout hin
      have h34 : fr.tmps.getD 34 undef = .bool true := hin 34 (by decide) (by decide)
      have h5 : fr.tmps.getD 5 undef = .slice none 0 0 := hout 5 (by decide)
      exact relStep_move (.tmp 5) rfl (wanted_some (g := 2) (t := 34) (b := true) rfl rfl h34) h5
    · intro w2 hb2 fr hout hin
      have h34 : fr.tmps.getD 34 undef = .bool true := hin 34 (by decide) (by decide)
      have h35 : fr.tmps.getD 35 undef = .slice none 0 0 := hin 35 (by decide) (by decide)
      exact op_len (bs := (([] : List Nat))) (.tmp 35) rfl (by show Byt _ (fr.tmps.getD 35 undef) []; rw [h35]; exact Byt.nil _) (wanted_some (g := 2) (t := 34) (b := true) rfl rfl h34) rfl
    · intro w2 hb2 fr hout hin
      have h34 : fr.tmps.getD 34 undef = .bool true := hin 34 (by decide) (by decide)
      have h36 : fr.tmps.getD 36 undef = .int .i64 0 := hin 36 (by decide) (by decide)
      exact op_eqI (.tmp 36) (.const (.int .i64 0)) _ rfl h36 rfl (wanted_some (g := 2) (t := 34) (b := true) rfl rfl h34) rfl
    · intro w2 hb2 fr hout hin
      have h34 : fr.tmps.getD 34 undef = .bool true := hin 34 (by decide) (by decide)
      have h37 : fr.tmps.getD 37 undef = .bool true := hin 37 (by decide) (by decide)
      exact relStep_pick (.tmp 34) (.tmp 37) (.const (.bool false)) rfl h34 (wanted_none rfl) h37
    · intro w2 hb2 fr hout hin
      have h38 : fr.tmps.getD 38 undef = .bool true := hin 38 (by decide) (by decide)
      exact relStep_move (.tmp 38) rfl (wanted_none rfl) h38
    · intro w2 hb2 fr hout hin
      have h39 : fr.tmps.getD 39 undef = .bool true := hin 39 (by decide) (by decide)
      have h6 : fr.tmps.getD 6 undef = .slice none 0 0 := hout 6 (by decide)
      exact relStep_move (.tmp 6) rfl (wanted_some (g := 7) (t := 39) (b := true) rfl rfl h39) h6
    · intro w2 hb2 fr hout hin
      have h39 : fr.tmps.getD 39 undef = .bool true := hin 39 (by decide) (by decide)
      have h40 : fr.tmps.getD 40 undef = .slice none 0 0 := hin 40 (by decide) (by decide)
      exact op_len (bs := (([] : List Nat))) (.tmp 40) rfl (by show Byt _ (fr.tmps.getD 40 undef) []; rw [h40]; exact Byt.nil _) (wanted_some (g := 7) (t := 39) (b := true) rfl rfl h39) rfl
    · intro w2 hb2 fr hout hin
      have h39 : fr.tmps.getD 39 undef = .bool true := hin 39 (by decide) (by decide)
      have h41 : fr.tmps.getD 41 undef = .int .i64 0 := hin 41 (by decide) (by decide)
      exact op_eqI (.tmp 41) (.const (.int .i64 0)) _ rfl h41 rfl (wanted_some (g := 7) (t := 39) (b := true) rfl rfl h39) rfl
    · intro w2 hb2 fr hout hin
      have h39 : fr.tmps.getD 39 undef = .bool true := hin 39 (by decide) (by decide)
      have h42 : fr.tmps.getD 42 undef = .bool true := hin 42 (by decide) (by decide)
      exact relStep_pick (.tmp 39) (.tmp 42) (.const (.bool false)) rfl h39 (wanted_none rfl) h42
    · intro w2 hb2 fr hout hin
      have h43 : fr.tmps.getD 43 undef = .bool true := hin 43 (by decide) (by decide)
      exact relStep_move (.tmp 43) rfl (wanted_none rfl) h43
    · intro w2 hb2 fr hout hin
      have h44 : fr.tmps.getD 44 undef = .bool true := hin 44 (by decide) (by decide)
      exact op_call0 rfl en_wakes (wanted_some (g := 12) (t := 44) (b := true) rfl rfl h44) (nwakes_v _) (fun _ _ h => h)
    · intro w2 hb2 fr hout hin
      have h44 : fr.tmps.getD 44 undef = .bool true := hin 44 (by decide) (by decide)
      have h45 : fr.tmps.getD 45 undef = .bool true := hin 45 (by decide) (by decide)
      exact relStep_pick (.tmp 44) (.tmp 45) (.const (.bool false)) rfl h44 (wanted_none rfl) h45
    · intro w2 hb2 fr hout hin
      have h46 : fr.tmps.getD 46 undef = .bool true := hin 46 (by decide) (by decide)
      exact relStep_assign (.tmp 46) rfl (wanted_none rfl) h46
  intro w5 hb5
  refine relAsk_in (by rfl) ?_
  intro v32 h32
  obtain rfl : v32 = .bool false := h32
  refine relAsk_in (by rfl) ?_
  intro v33 h33
  obtain rfl : v33 = .bool true := h33
  refine relAsk_in (by rfl) ?_
  intro v34 h34
  obtain rfl : v34 = .bool true := h34
  refine relAsk_in (by rfl) ?_
  intro v35 h35
  obtain rfl : v35 = .slice none 0 0 := h35
  refine relAsk_in (by rfl) ?_
  intro v36 h36
  obtain rfl : v36 = .int .i64 0 := h36
  refine relAsk_in (by rfl) ?_
  intro v37 h37
  obtain rfl : v37 = .bool true := h37
  refine relAsk_in (by rfl) ?_
  intro v38 h38
  obtain rfl : v38 = .bool true := h38
  refine relAsk_in (by rfl) ?_
  intro v39 h39
  obtain rfl : v39 = .bool true := h39
  refine relAsk_in (by rfl) ?_
  intro v40 h40
  obtain rfl : v40 = .slice none 0 0 := h40
  refine relAsk_in (by rfl) ?_
  intro v41 h41
  obtain rfl : v41 = .int .i64 0 := h41
  refine relAsk_in (by rfl) ?_
  intro v42 h42
  obtain rfl : v42 = .bool true := h42
  refine relAsk_in (by rfl) ?_
  intro v43 h43
  obtain rfl : v43 = .bool true := h43
  refine relAsk_in (by rfl) ?_
  intro v44 h44
  obtain rfl : v44 = .bool true := h44
  refine relAsk_in (by rfl) ?_
  intro v45 h45
  obtain rfl : v45 = .bool true := h45
  refine relAsk_in (by rfl) ?_
  intro v46 h46
  obtain rfl : v46 = .bool true := h46
  refine relAsk_in (by rfl) ?_
  intro v2 h2
  obtain rfl : v2 = .bool true := h2
  refine relAsk_nil ?_
  have RA := Lib.hid (RA.out.below hb5)
  have RB := Lib.hid (RB.out.below hb5)
  have RM := Lib.hid (RM.out.below hb5)
  have HX := Lib.hid (HX.out.below hb5)
  have HW := Lib.hid (HW.out.trans (hb5.mono HW.out.size))
  have H3 := Lib.hid (H3.out.below hb5)
  have H4 := Lib.hid (H4.out.below hb5)
  clear hb5
  refine wpList_nil ?_
  go_simp
  go_wp2_with fail
  go_ret
  exact ⟨rfl, HW.out⟩

theorem natDivides_c {A B M : Option Addr} {ca cb cm : Nat} {i wide : Int} {xs ys zs : List Nat} (w : World) (hA : Rd .u8 w A ca xs) (dA : Ds 256 xs) (hB : Rd .u8 w B cb ys) (dB : Ds 256 ys) (hM : Rd .u8 w M cm zs) (dM : Ds 256 zs) :
    Calls Try.prog 13 #[.agg #[.slice A xs.length ca, .slice B ys.length cb, .slice M zs.length cm, .int .i64 i, .int .i64 wide]] w (RetV (.bool true) w) := by
  rcases Nat.eq_zero_or_pos (nv (ys.take 600)) with h | h
  · exact divides_zero w hA dA hB dB hM dM h
  · exact divides_pos w hA dA hB dB hM dM h
end Go.Proofs.Ytkalmmpgcgempaa
