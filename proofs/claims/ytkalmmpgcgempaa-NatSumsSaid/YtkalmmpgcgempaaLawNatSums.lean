/- The law NatSums, by the contracts of its callees. -/
import Derived.Test.YtkalmmpgcgempaaNFrame
namespace Go.Proofs.Ytkalmmpgcgempaa
open Go.RowKit

set_option maxRecDepth 100000 in
set_option maxHeartbeats 12800000 in
theorem sums_le {A B M : Option Addr} {ca cb cm : Nat} {i wide : Int} {xs ys zs : List Nat} (w : World) (hA : Rd .u8 w A ca xs) (dA : Ds 256 xs) (hB : Rd .u8 w B cb ys) (dB : Ds 256 ys) (hM : Rd .u8 w M cm zs) (dM : Ds 256 zs) (hle : nv (ys.take 600) ≤ nv (xs.take 600)) :
    Calls Try.prog 12 #[.agg #[.slice A xs.length ca, .slice B ys.length cb, .slice M zs.length cm, .int .i64 i, .int .i64 wide]] w (RetV (.bool true) w) := by
  obtain ⟨p, hp⟩ : ∃ zz, zz = xs.take 600 := ⟨_, rfl⟩
  have hlp : p.length ≤ 600 := by rw [hp, List.length_take]; omega
  have ffp : ∀ (w : World) {u : Value}, Byt w u xs → Calls Try.prog 75 #[u] w (RetR (fun w' v => Byt w' v p) w) := fun w u h => by rw [hp]; exact few_v w h
  have HLp := Lib.hid hlp
  have FFp := Lib.hid ffp
  have Hp := Lib.hid hp
  clear hlp ffp hp
  obtain ⟨q, hq⟩ : ∃ zz, zz = ys.take 600 := ⟨_, rfl⟩
  have hlq : q.length ≤ 600 := by rw [hq, List.length_take]; omega
  have ffq : ∀ (w : World) {u : Value}, Byt w u ys → Calls Try.prog 75 #[u] w (RetR (fun w' v => Byt w' v q) w) := fun w u h => by rw [hq]; exact few_v w h
  have HLq := Lib.hid hlq
  have FFq := Lib.hid ffq
  have Hq := Lib.hid hq
  clear hlq ffq hq
  have HLE := Lib.hid hle
  rw [← Hp.out, ← Hq.out] at HLE
  have hc : ∀ w, (binOp .geq 3 (.int .i64 (ordI (nv p) (nv q))) (.int .i64 0)).run Try.prog w = .ok (.bool true) w := fun w => by
    have h : (0 : Int) ≤ ordI (nv p) (nv q) := by unfold ordI; rw [if_neg (by have := HLE.out; omega)]; split <;> omega
    go_simp
  have HC := Lib.hid hc
  clear hle hc
  obtain ⟨L, hL⟩ : ∃ L, L = xs.length := ⟨_, rfl⟩
  obtain ⟨K, hK⟩ : ∃ K, K = ys.length := ⟨_, rfl⟩
  obtain ⟨J, hJ⟩ : ∃ J, J = zs.length := ⟨_, rfl⟩
  have rA : Byt w (.slice A L ca) xs := ⟨A, ca, by rw [hL], hA, dA⟩
  have rB : Byt w (.slice B K cb) ys := ⟨B, cb, by rw [hK], hB, dB⟩
  have rM : Byt w (.slice M J cm) zs := ⟨M, cm, by rw [hJ], hM, dM⟩
  rw [← hL, ← hK, ← hJ]
  have hW := (Below.refl w.heap.size w).alloc (Nat.le_refl _) (.cells #[.slice A L ca, .slice B K cb, .slice M J cm, .int .i64 i, .int .i64 wide] 51)
  have hx := Box5.new w (.slice A L ca) (.slice B K cb) (.slice M J cm) (.int .i64 i) (.int .i64 wide) 51
  have RA := Lib.hid (rA.below hW)
  have RB := Lib.hid (rB.below hW)
  have RM := Lib.hid (rM.below hW)
  have HX := Lib.hid hx
  have HW := Lib.hid hW
  clear hA dA hB dB hM dM hL hK hJ rA rB rM hW hx
  go_enter Try.func12, Try.ntmps12
  go_upto_region 1 with (fail)
  generalize hX : w.alloc (.cells #[.slice A L ca, .slice B K cb, .slice M J cm, .int .i64 i, .int .i64 wide] 51) = X at *
  clear hX
  refine wp_region_seq 5 [7, 8, 9, 10, 3] [(7, .is (.pointer (some ⟨w.heap.size, 0, none⟩))), (8, .byt (xs)), (9, .byt (p)), (10, .num (nv p) 4096), (3, .num (nv p) 4096)] (by kernel_rfl) (by rfl) ?_ ?_
  · refine seeOps_cons ?_ (seeOps_cons ?_ (seeOps_cons ?_ (seeOps_cons ?_ (seeOps_cons ?_ seeOps_nil))))
    · intro w2 hb2 fr hout hin
      have h1 : fr.tmps.getD 1 undef = .pointer (some ⟨w.heap.size, 0, none⟩) := hout 1 (by decide)
      exact op_fieldN (.tmp 1) rfl (by decide) h1 (wanted_none rfl) rfl
    · intro w2 hb2 fr hout hin
      have h7 : fr.tmps.getD 7 undef = .pointer (some ⟨w.heap.size, 0, none⟩) := hin 7 (by decide) (by decide)
      exact op_load1 (.tmp 7) rfl (fun _ => by kernel_rfl) h7 ((HX.out.below hb2).c0) (wanted_none rfl) (RA.out.below hb2)
    · intro w2 hb2 fr hout hin
      have h8 : Byt w2 (fr.tmps.getD 8 undef) (xs) := hin 8 (by decide) (by decide)
      exact op_call1 (.tmp 8) rfl en_few (wanted_none rfl) (FFp.out _ h8) (fun _ _ h => h)
    · intro w2 hb2 fr hout hin
      have h9 : Byt w2 (fr.tmps.getD 9 undef) (p) := hin 9 (by decide) (by decide)
      exact op_call1 (.tmp 9) rfl en_from2 (wanted_none rfl) (from2_v _ h9 (by have := HLp.out; omega)) (fun _ _ h => h)
    · intro w2 hb2 fr hout hin
      have h10 : Num w2 (fr.tmps.getD 10 undef) (nv p) 4096 := hin 10 (by decide) (by decide)
      exact relStep_assign (.tmp 10) rfl (wanted_none rfl) h10
  intro w1 hb1
  refine relAsk_in (by rfl) ?_
  intro v7 h7
  obtain rfl : v7 = .pointer (some ⟨w.heap.size, 0, none⟩) := h7
  refine relAsk_in (by rfl) ?_
  intro v8 h8
  refine relAsk_in (by rfl) ?_
  intro v9 h9
  refine relAsk_in (by rfl) ?_
  intro v10 h10
  refine relAsk_in (by rfl) ?_
  intro v3 h3
  refine relAsk_nil ?_
  have RA := Lib.hid (RA.out.below hb1)
  have RB := Lib.hid (RB.out.below hb1)
  have RM := Lib.hid (RM.out.below hb1)
  have HX := Lib.hid (HX.out.below hb1)
  have HW := Lib.hid (HW.out.trans (hb1.mono HW.out.size))
  have H3 : Hid (Num w1 (v3) (nv p) 4096) := h3
  clear h8 h9 h10 h3 hb1
  refine wpList_nil ?_
  go_simp
  go_upto_region 2 with (fail)
  refine wp_region_seq 5 [11, 12, 13, 14, 4] [(11, .is (.pointer (some ⟨w.heap.size, 1, none⟩))), (12, .byt (ys)), (13, .byt (q)), (14, .num (nv q) 4096), (4, .num (nv q) 4096)] (by kernel_rfl) (by rfl) ?_ ?_
  · refine seeOps_cons ?_ (seeOps_cons ?_ (seeOps_cons ?_ (seeOps_cons ?_ (seeOps_cons ?_ seeOps_nil))))
    · intro w2 hb2 fr hout hin
      have h1 : fr.tmps.getD 1 undef = .pointer (some ⟨w.heap.size, 0, none⟩) := hout 1 (by decide)
      exact op_fieldN (.tmp 1) rfl (by decide) h1 (wanted_none rfl) rfl
    · intro w2 hb2 fr hout hin
      have h11 : fr.tmps.getD 11 undef = .pointer (some ⟨w.heap.size, 1, none⟩) := hin 11 (by decide) (by decide)
      exact op_load1 (.tmp 11) rfl (fun _ => by kernel_rfl) h11 ((HX.out.below hb2).c1) (wanted_none rfl) (RB.out.below hb2)
    · intro w2 hb2 fr hout hin
      have h12 : Byt w2 (fr.tmps.getD 12 undef) (ys) := hin 12 (by decide) (by decide)
      exact op_call1 (.tmp 12) rfl en_few (wanted_none rfl) (FFq.out _ h12) (fun _ _ h => h)
    · intro w2 hb2 fr hout hin
      have h13 : Byt w2 (fr.tmps.getD 13 undef) (q) := hin 13 (by decide) (by decide)
      exact op_call1 (.tmp 13) rfl en_from2 (wanted_none rfl) (from2_v _ h13 (by have := HLq.out; omega)) (fun _ _ h => h)
    · intro w2 hb2 fr hout hin
      have h14 : Num w2 (fr.tmps.getD 14 undef) (nv q) 4096 := hin 14 (by decide) (by decide)
      exact relStep_assign (.tmp 14) rfl (wanted_none rfl) h14
  intro w2 hb2
  refine relAsk_in (by rfl) ?_
  intro v11 h11
  obtain rfl : v11 = .pointer (some ⟨w.heap.size, 1, none⟩) := h11
  refine relAsk_in (by rfl) ?_
  intro v12 h12
  refine relAsk_in (by rfl) ?_
  intro v13 h13
  refine relAsk_in (by rfl) ?_
  intro v14 h14
  refine relAsk_in (by rfl) ?_
  intro v4 h4
  refine relAsk_nil ?_
  have RA := Lib.hid (RA.out.below hb2)
  have RB := Lib.hid (RB.out.below hb2)
  have RM := Lib.hid (RM.out.below hb2)
  have HX := Lib.hid (HX.out.below hb2)
  have HW := Lib.hid (HW.out.trans (hb2.mono HW.out.size))
  have H3 := Lib.hid (H3.out.below hb2)
  have H4 : Hid (Num w2 (v4) (nv q) 4096) := h4
  clear h12 h13 h14 h4 hb2
  refine wpList_nil ?_
  go_simp
  go_upto_region 3 with (fail)
  refine wp_region_see 12 [16, 17, 18, 19, 20, 21, 22, 15, 23, 24, 5, 6] [(16, .is (.pointer (some ⟨w.heap.size, 0, none⟩))), (17, .byt (xs)), (18, .byt (p)), (19, .is (.pointer (some ⟨w.heap.size, 1, none⟩))), (20, .byt (ys)), (21, .byt (q)), (22, .okB (nb (nv p - nv q))), (15, .okB (nb (nv p - nv q))), (23, .byt (nb (nv p - nv q))), (24, .is (.bool true)), (5, .byt (nb (nv p - nv q))), (6, .is (.bool true))] (by kernel_rfl) (by kernel_rfl) (by rfl) ?_ ?_
  · refine seeOps_cons ?_ (seeOps_cons ?_ (seeOps_cons ?_ (seeOps_cons ?_ (seeOps_cons ?_ (seeOps_cons ?_ (seeOps_cons ?_ (seeOps_cons ?_ (seeOps_cons ?_ (seeOps_cons ?_ (seeOps_cons ?_ (seeOps_cons ?_ seeOps_nil)))))))))))
    · intro w2 hb2 fr hout hin
      have h1 : fr.tmps.getD 1 undef = .pointer (some ⟨w.heap.size, 0, none⟩) := hout 1 (by decide)
      exact op_fieldN (.tmp 1) rfl (by decide) h1 (wanted_none rfl) rfl
    · intro w2 hb2 fr hout hin
      have h16 : fr.tmps.getD 16 undef = .pointer (some ⟨w.heap.size, 0, none⟩) := hin 16 (by decide) (by decide)
      exact op_load1 (.tmp 16) rfl (fun _ => by kernel_rfl) h16 ((HX.out.below hb2).c0) (wanted_none rfl) (RA.out.below hb2)
    · intro w2 hb2 fr hout hin
      have h17 : Byt w2 (fr.tmps.getD 17 undef) (xs) := hin 17 (by decide) (by decide)
      exact op_call1 (.tmp 17) rfl en_few (wanted_none rfl) (FFp.out _ h17) (fun _ _ h => h)
    · intro w2 hb2 fr hout hin
      have h1 : fr.tmps.getD 1 undef = .pointer (some ⟨w.heap.size, 0, none⟩) := hout 1 (by decide)
      exact op_fieldN (.tmp 1) rfl (by decide) h1 (wanted_none rfl) rfl
    · intro w2 hb2 fr hout hin
      have h19 : fr.tmps.getD 19 undef = .pointer (some ⟨w.heap.size, 1, none⟩) := hin 19 (by decide) (by decide)
      exact op_load1 (.tmp 19) rfl (fun _ => by kernel_rfl) h19 ((HX.out.below hb2).c1) (wanted_none rfl) (RB.out.below hb2)
    · intro w2 hb2 fr hout hin
      have h20 : Byt w2 (fr.tmps.getD 20 undef) (ys) := hin 20 (by decide) (by decide)
      exact op_call1 (.tmp 20) rfl en_few (wanted_none rfl) (FFq.out _ h20) (fun _ _ h => h)
    · intro w2 hb2 fr hout hin
      have h18 : Byt w2 (fr.tmps.getD 18 undef) (p) := hin 18 (by decide) (by decide)
      have h21 : Byt w2 (fr.tmps.getD 21 undef) (q) := hin 21 (by decide) (by decide)
      exact op_call2 (.tmp 18) (.tmp 21) rfl en_sub (wanted_none rfl) (sub_v _ h18 h21 (by have := HLp.out; omega) (by have := HLq.out; omega) HLE.out) (fun _ _ h => h)
    · intro w2 hb2 fr hout hin
      have h22 : OkB w2 (fr.tmps.getD 22 undef) (nb (nv p - nv q)) := hin 22 (by decide) (by decide)
      exact relStep_move (.tmp 22) rfl (wanted_none rfl) h22
    · intro w2 hb2 fr hout hin
      have h15 : OkB w2 (fr.tmps.getD 15 undef) (nb (nv p - nv q)) := hin 15 (by decide) (by decide)
      obtain ⟨x, e, hx⟩ := h15
      exact op_ext (.tmp 15) 0 rfl e rfl (wanted_none rfl) hx
    · intro w2 hb2 fr hout hin
      have h15 : OkB w2 (fr.tmps.getD 15 undef) (nb (nv p - nv q)) := hin 15 (by decide) (by decide)
      obtain ⟨x, e, hx⟩ := h15
      exact op_ext (.tmp 15) 1 rfl e rfl (wanted_none rfl) rfl
    · intro w2 hb2 fr hout hin
      have h23 : Byt w2 (fr.tmps.getD 23 undef) (nb (nv p - nv q)) := hin 23 (by decide) (by decide)
      exact relStep_assign (.tmp 23) rfl (wanted_none rfl) h23
    · intro w2 hb2 fr hout hin
      have h24 : fr.tmps.getD 24 undef = .bool true := hin 24 (by decide) (by decide)
      exact relStep_assign (.tmp 24) rfl (wanted_none rfl) h24
  intro w3 hb3
  refine relAsk_in (by rfl) ?_
  intro v16 h16
  obtain rfl : v16 = .pointer (some ⟨w.heap.size, 0, none⟩) := h16
  refine relAsk_in (by rfl) ?_
  intro v17 h17
  refine relAsk_in (by rfl) ?_
  intro v18 h18
  refine relAsk_in (by rfl) ?_
  intro v19 h19
  obtain rfl : v19 = .pointer (some ⟨w.heap.size, 1, none⟩) := h19
  refine relAsk_in (by rfl) ?_
  intro v20 h20
  refine relAsk_in (by rfl) ?_
  intro v21 h21
  refine relAsk_in (by rfl) ?_
  intro v22 h22
  refine relAsk_in (by rfl) ?_
  intro v15 h15
  refine relAsk_in (by rfl) ?_
  intro v23 h23
  refine relAsk_in (by rfl) ?_
  intro v24 h24
  obtain rfl : v24 = .bool true := h24
  refine relAsk_in (by rfl) ?_
  intro v5 h5
  refine relAsk_in (by rfl) ?_
  intro v6 h6
  obtain rfl : v6 = .bool true := h6
  refine relAsk_nil ?_
  have RA := Lib.hid (RA.out.below hb3)
  have RB := Lib.hid (RB.out.below hb3)
  have RM := Lib.hid (RM.out.below hb3)
  have HX := Lib.hid (HX.out.below hb3)
  have HW := Lib.hid (HW.out.trans (hb3.mono HW.out.size))
  have H3 := Lib.hid (H3.out.below hb3)
  have H4 := Lib.hid (H4.out.below hb3)
  have H5 : Hid (Byt w3 (v5) (nb (nv p - nv q))) := h5
  clear h17 h18 h20 h21 h22 h15 h23 h5 hb3
  refine wpList_nil ?_
  go_simp
  go_upto_region 4 with (fail)
  refine wp_region_see 28 [25, 26, 27, 28, 29, 30, 31, 32, 33, 34, 35, 36, 37, 38, 39, 40, 41, 42, 43, 44, 45, 46, 47, 48, 49, 50, 51, 52] [(25, .is (.bool true)), (26, .num (nv p) 4096), (27, .num (nv q) 4096), (28, .is (.int .i64 (ordI (nv p) (nv q)))), (29, .is (.bool true)), (30, .is (.bool false)), (31, .is (.bool false)), (32, .is (.bool true)), (33, .is (.bool true)), (34, .byt (nb (nv p - nv q))), (35, .is (.string (sOf (nb (nv p - nv q))))), (36, .num (nv p) 4096), (37, .num (nv q) 4096), (38, .num (nv p - nv q) 4096), (39, .byt (nb (nv p - nv q))), (40, .is (.string (sOf (nb (nv p - nv q))))), (41, .is (.bool false)), (42, .is (.bool false)), (43, .is (.bool false)), (44, .is (.bool false)), (45, .is (.bool true)), (46, .is (.bool false)), (47, .is (.bool false)), (48, .any), (49, .any), (50, .any), (51, .is (.bool false)), (52, .is (.bool false))] (by kernel_rfl) (by kernel_rfl) (by rfl) ?_ ?_
  · refine seeOps_cons ?_ (seeOps_cons ?_ (seeOps_cons ?_ (seeOps_cons ?_ (seeOps_cons ?_ (seeOps_cons ?_ (seeOps_cons ?_ (seeOps_cons ?_ (seeOps_cons ?_ (seeOps_cons ?_ (seeOps_cons ?_ (seeOps_cons ?_ (seeOps_cons ?_ (seeOps_cons ?_ (seeOps_cons ?_ (seeOps_cons ?_ (seeOps_cons ?_ (seeOps_cons ?_ (seeOps_cons ?_ (seeOps_cons ?_ (seeOps_cons ?_ (seeOps_cons ?_ (seeOps_cons ?_ (seeOps_cons ?_ (seeOps_cons ?_ (seeOps_cons ?_ (seeOps_cons ?_ (seeOps_cons ?_ seeOps_nil)))))))))))))))))))))))))))
    · intro w2 hb2 fr hout hin
      have h6 : fr.tmps.getD 6 undef = .bool true := hout 6 (by decide)
      exact relStep_move (.tmp 6) rfl (wanted_none rfl) h6
    · intro w2 hb2 fr hout hin
      have h3 : Num w2 (fr.tmps.getD 3 undef) (nv p) 4096 := by
        have e : fr.tmps.getD 3 undef = v3 := hout 3 (by decide)
        rw [e]; exact H3.out.below hb2
      exact relStep_move (.tmp 3) rfl (wanted_none rfl) h3
    · intro w2 hb2 fr hout hin
      have h4 : Num w2 (fr.tmps.getD 4 undef) (nv q) 4096 := by
        have e : fr.tmps.getD 4 undef = v4 := hout 4 (by decide)
        rw [e]; exact H4.out.below hb2
      exact relStep_move (.tmp 4) rfl (wanted_none rfl) h4
    · intro w2 hb2 fr hout hin
      have h26 : Num w2 (fr.tmps.getD 26 undef) (nv p) 4096 := hin 26 (by decide) (by decide)
      have h27 : Num w2 (fr.tmps.getD 27 undef) (nv q) 4096 := hin 27 (by decide) (by decide)
      exact op_call2 (.tmp 26) (.tmp 27) rfl en_cmp2 (wanted_none rfl) (cmp2_v _ h26 h27 (by decide)) (fun _ _ h => h)
    · intro w2 hb2 fr hout hin
      have h28 : fr.tmps.getD 28 undef = .int .i64 (ordI (nv p) (nv q)) := hin 28 (by decide) (by decide)
      exact op_cmp .geq (.tmp 28) (.const (.int .i64 0)) _ rfl h28 rfl (HC.out) (wanted_none rfl) rfl
    · intro w2 hb2 fr hout hin
      have h25 : fr.tmps.getD 25 undef = .bool true := hin 25 (by decide) (by decide)
      have h29 : fr.tmps.getD 29 undef = .bool true := hin 29 (by decide) (by decide)
      exact op_neB (.tmp 25) (.tmp 29) _ rfl h25 h29 (wanted_none rfl) rfl
    · intro w2 hb2 fr hout hin
      have h30 : fr.tmps.getD 30 undef = .bool false := hin 30 (by decide) (by decide)
      exact relStep_move (.tmp 30) rfl (wanted_none rfl) h30
    · intro w2 hb2 fr hout hin
      have h31 : fr.tmps.getD 31 undef = .bool false := hin 31 (by decide) (by decide)
      have h6 : fr.tmps.getD 6 undef = .bool true := hout 6 (by decide)
      exact relStep_move (.tmp 6) rfl (wanted_some (g := 6) (t := 31) (b := false) rfl rfl h31) h6
    · intro w2 hb2 fr hout hin
      have h31 : fr.tmps.getD 31 undef = .bool false := hin 31 (by decide) (by decide)
      have h32 : fr.tmps.getD 32 undef = .bool true := hin 32 (by decide) (by decide)
      exact relStep_move (.tmp 32) rfl (wanted_some (g := 6) (t := 31) (b := false) rfl rfl h31) h32
    · intro w2 hb2 fr hout hin
      have h33 : fr.tmps.getD 33 undef = .bool true := hin 33 (by decide) (by decide)
      have h5 : Byt w2 (fr.tmps.getD 5 undef) (nb (nv p - nv q)) := by
        have e : fr.tmps.getD 5 undef = v5 := hout 5 (by decide)
        rw [e]; exact H5.out.below hb2
      exact relStep_move (.tmp 5) rfl (wanted_some (g := 8) (t := 33) (b := true) rfl rfl h33) h5
    · intro w2 hb2 fr hout hin
      have h33 : fr.tmps.getD 33 undef = .bool true := hin 33 (by decide) (by decide)
      have h34 : Byt w2 (fr.tmps.getD 34 undef) (nb (nv p - nv q)) := hin 34 (by decide) (by decide)
      exact op_str (.tmp 34) rfl h34 (wanted_some (g := 8) (t := 33) (b := true) rfl rfl h33) rfl
    · intro w2 hb2 fr hout hin
      have h33 : fr.tmps.getD 33 undef = .bool true := hin 33 (by decide) (by decide)
      have h3 : Num w2 (fr.tmps.getD 3 undef) (nv p) 4096 := by
        have e : fr.tmps.getD 3 undef = v3 := hout 3 (by decide)
        rw [e]; exact H3.out.below hb2
      exact relStep_move (.tmp 3) rfl (wanted_some (g := 8) (t := 33) (b := true) rfl rfl h33) h3
    · intro w2 hb2 fr hout hin
      have h33 : fr.tmps.getD 33 undef = .bool true := hin 33 (by decide) (by decide)
      have h4 : Num w2 (fr.tmps.getD 4 undef) (nv q) 4096 := by
        have e : fr.tmps.getD 4 undef = v4 := hout 4 (by decide)
        rw [e]; exact H4.out.below hb2
      exact relStep_move (.tmp 4) rfl (wanted_some (g := 8) (t := 33) (b := true) rfl rfl h33) h4
    · intro w2 hb2 fr hout hin
      have h33 : fr.tmps.getD 33 undef = .bool true := hin 33 (by decide) (by decide)
      have h36 : Num w2 (fr.tmps.getD 36 undef) (nv p) 4096 := hin 36 (by decide) (by decide)
      have h37 : Num w2 (fr.tmps.getD 37 undef) (nv q) 4096 := hin 37 (by decide) (by decide)
      exact op_call2 (.tmp 36) (.tmp 37) rfl en_sub2 (wanted_some (g := 8) (t := 33) (b := true) rfl rfl h33) (rsub_n _ h36 h37 (by decide) (HLE.out)) (fun _ _ h => h)
    · intro w2 hb2 fr hout hin
      have h33 : fr.tmps.getD 33 undef = .bool true := hin 33 (by decide) (by decide)
      have h38 : Num w2 (fr.tmps.getD 38 undef) (nv p - nv q) 4096 := hin 38 (by decide) (by decide)
      exact op_call1 (.tmp 38) rfl en_bytes2 (wanted_some (g := 8) (t := 33) (b := true) rfl rfl h33) (bytes2_v _ h38 (by decide)) (fun _ _ h => h)
    · intro w2 hb2 fr hout hin
      have h33 : fr.tmps.getD 33 undef = .bool true := hin 33 (by decide) (by decide)
      have h39 : Byt w2 (fr.tmps.getD 39 undef) (nb (nv p - nv q)) := hin 39 (by decide) (by decide)
      exact op_str (.tmp 39) rfl h39 (wanted_some (g := 8) (t := 33) (b := true) rfl rfl h33) rfl
    · intro w2 hb2 fr hout hin
      have h33 : fr.tmps.getD 33 undef = .bool true := hin 33 (by decide) (by decide)
      have h35 : fr.tmps.getD 35 undef = .string (sOf (nb (nv p - nv q))) := hin 35 (by decide) (by decide)
      have h40 : fr.tmps.getD 40 undef = .string (sOf (nb (nv p - nv q))) := hin 40 (by decide) (by decide)
      exact op_neS (.tmp 35) (.tmp 40) _ rfl h35 h40 (wanted_some (g := 8) (t := 33) (b := true) rfl rfl h33) rfl
    · intro w2 hb2 fr hout hin
      have h31 : fr.tmps.getD 31 undef = .bool false := hin 31 (by decide) (by decide)
      have h33 : fr.tmps.getD 33 undef = .bool true := hin 33 (by decide) (by decide)
      have h41 : fr.tmps.getD 41 undef = .bool false := hin 41 (by decide) (by decide)
      exact relStep_pick (.tmp 33) (.tmp 41) (.const (.bool false)) rfl h33 (wanted_some (g := 6) (t := 31) (b := false) rfl rfl h31) h41
    · intro w2 hb2 fr hout hin
      have h31 : fr.tmps.getD 31 undef = .bool false := hin 31 (by decide) (by decide)
      have h42 : fr.tmps.getD 42 undef = .bool false := hin 42 (by decide) (by decide)
      exact relStep_pickF (.tmp 31) (.const (.bool true)) (.tmp 42) rfl h31 (wanted_none rfl) h42
    · intro w2 hb2 fr hout hin
      have h43 : fr.tmps.getD 43 undef = .bool false := hin 43 (by decide) (by decide)
      exact relStep_move (.tmp 43) rfl (wanted_none rfl) h43
    · intro w2 hb2 fr hout hin
      have h44 : fr.tmps.getD 44 undef = .bool false := hin 44 (by decide) (by decide)
      have h6 : fr.tmps.getD 6 undef = .bool true := hout 6 (by decide)
      exact relStep_move (.tmp 6) rfl (wanted_some (g := 19) (t := 44) (b := false) rfl rfl h44) h6
    · intro w2 hb2 fr hout hin
      have h44 : fr.tmps.getD 44 undef = .bool false := hin 44 (by decide) (by decide)
      have h45 : fr.tmps.getD 45 undef = .bool true := hin 45 (by decide) (by decide)
      exact op_not (.tmp 45) _ rfl h45 (wanted_some (g := 19) (t := 44) (b := false) rfl rfl h44) rfl
    · intro w2 hb2 fr hout hin
      have h44 : fr.tmps.getD 44 undef = .bool false := hin 44 (by decide) (by decide)
      have h46 : fr.tmps.getD 46 undef = .bool false := hin 46 (by decide) (by decide)
      exact relStep_move (.tmp 46) rfl (wanted_some (g := 19) (t := 44) (b := false) rfl rfl h44) h46
    · intro w2 hb2 fr hout hin
      have h47 : fr.tmps.getD 47 undef = .bool false := hin 47 (by decide) (by decide)
      exact relStep_skip (wanted_not rfl rfl h47 rfl) trivial
    · intro w2 hb2 fr hout hin
      have h47 : fr.tmps.getD 47 undef = .bool false := hin 47 (by decide) (by decide)
      exact relStep_skip (wanted_not rfl rfl h47 rfl) trivial
    · intro w2 hb2 fr hout hin
      have h47 : fr.tmps.getD 47 undef = .bool false := hin 47 (by decide) (by decide)
      exact relStep_skip (wanted_not rfl rfl h47 rfl) trivial
    · intro w2 hb2 fr hout hin
      have h44 : fr.tmps.getD 44 undef = .bool false := hin 44 (by decide) (by decide)
      have h47 : fr.tmps.getD 47 undef = .bool false := hin 47 (by decide) (by decide)
      exact relStep_pickF (.tmp 47) (.tmp 50) (.const (.bool false)) rfl h47 (wanted_some (g := 19) (t := 44) (b := false) rfl rfl h44) rfl
    · intro w2 hb2 fr hout hin
      have h44 : fr.tmps.getD 44 undef = .bool false := hin 44 (by decide) (by decide)
      have h51 : fr.tmps.getD 51 undef = .bool false := hin 51 (by decide) (by decide)
      exact relStep_pickF (.tmp 44) (.const (.bool true)) (.tmp 51) rfl h44 (wanted_none rfl) h51
  intro w4 hb4
  refine relAsk_in (by rfl) ?_
  intro v25 h25
  obtain rfl : v25 = .bool true := h25
  refine relAsk_in (by rfl) ?_
  intro v26 h26
  refine relAsk_in (by rfl) ?_
  intro v27 h27
  refine relAsk_in (by rfl) ?_
  intro v28 h28
  obtain rfl : v28 = .int .i64 (ordI (nv p) (nv q)) := h28
  refine relAsk_in (by rfl) ?_
  intro v29 h29
  obtain rfl : v29 = .bool true := h29
  refine relAsk_in (by rfl) ?_
  intro v30 h30
  obtain rfl : v30 = .bool false := h30
  refine relAsk_in (by rfl) ?_
  intro v31 h31
  obtain rfl : v31 = .bool false := h31
  refine relAsk_in (by rfl) ?_
  intro v32 h32
  obtain rfl : v32 = .bool true := h32
  refine relAsk_in (by rfl) ?_
  intro v33 h33
  obtain rfl : v33 = .bool true := h33
  refine relAsk_in (by rfl) ?_
  intro v34 h34
  refine relAsk_in (by rfl) ?_
  intro v35 h35
  obtain rfl : v35 = .string (sOf (nb (nv p - nv q))) := h35
  refine relAsk_in (by rfl) ?_
  intro v36 h36
  refine relAsk_in (by rfl) ?_
  intro v37 h37
  refine relAsk_in (by rfl) ?_
  intro v38 h38
  refine relAsk_in (by rfl) ?_
  intro v39 h39
  refine relAsk_in (by rfl) ?_
  intro v40 h40
  obtain rfl : v40 = .string (sOf (nb (nv p - nv q))) := h40
  refine relAsk_in (by rfl) ?_
  intro v41 h41
  obtain rfl : v41 = .bool false := h41
  refine relAsk_in (by rfl) ?_
  intro v42 h42
  obtain rfl : v42 = .bool false := h42
  refine relAsk_in (by rfl) ?_
  intro v43 h43
  obtain rfl : v43 = .bool false := h43
  refine relAsk_in (by rfl) ?_
  intro v44 h44
  obtain rfl : v44 = .bool false := h44
  refine relAsk_in (by rfl) ?_
  intro v45 h45
  obtain rfl : v45 = .bool true := h45
  refine relAsk_in (by rfl) ?_
  intro v46 h46
  obtain rfl : v46 = .bool false := h46
  refine relAsk_in (by rfl) ?_
  intro v47 h47
  obtain rfl : v47 = .bool false := h47
  refine relAsk_in (by rfl) ?_
  intro v48 h48
  clear h48
  refine relAsk_in (by rfl) ?_
  intro v49 h49
  clear h49
  refine relAsk_in (by rfl) ?_
  intro v50 h50
  clear h50
  refine relAsk_in (by rfl) ?_
  intro v51 h51
  obtain rfl : v51 = .bool false := h51
  refine relAsk_in (by rfl) ?_
  intro v52 h52
  obtain rfl : v52 = .bool false := h52
  refine relAsk_nil ?_
  have RA := Lib.hid (RA.out.below hb4)
  have RB := Lib.hid (RB.out.below hb4)
  have RM := Lib.hid (RM.out.below hb4)
  have HX := Lib.hid (HX.out.below hb4)
  have HW := Lib.hid (HW.out.trans (hb4.mono HW.out.size))
  have H3 := Lib.hid (H3.out.below hb4)
  have H4 := Lib.hid (H4.out.below hb4)
  have H5 := Lib.hid (H5.out.below hb4)
  clear h26 h27 h34 h36 h37 h38 h39 hb4
  refine wpList_nil ?_
  go_simp
  go_upto_region 6 with (fail)
  refine wp_region_see 34 [53, 54, 55, 56, 57, 58, 59, 60, 61, 62, 63, 64, 65, 66, 67, 68, 69, 70, 71, 72, 73, 74, 75, 76, 77, 78, 79, 80, 81, 82, 83, 84, 85, 2] [(53, .is (.pointer (some ⟨w.heap.size, 0, none⟩))), (54, .byt (xs)), (55, .byt (p)), (56, .is (.pointer (some ⟨w.heap.size, 1, none⟩))), (57, .byt (ys)), (58, .byt (q)), (59, .byt (nb (nv p + nv q))), (60, .is (.string (sOf (nb (nv p + nv q))))), (61, .num (nv p) 4096), (62, .num (nv q) 4096), (63, .num (nv p + nv q) 4097), (64, .byt (nb (nv p + nv q))), (65, .is (.string (sOf (nb (nv p + nv q))))), (66, .is (.bool true)), (67, .is (.bool true)), (68, .is (.pointer (some ⟨w.heap.size, 0, none⟩))), (69, .byt (xs)), (70, .byt (p)), (71, .is (.pointer (some ⟨w.heap.size, 1, none⟩))), (72, .byt (ys)), (73, .byt (q)), (74, .byt (nb (nv p * nv q))), (75, .is (.string (sOf (nb (nv p * nv q))))), (76, .num (nv p) 4096), (77, .num (nv q) 4096), (78, .num (nv p * nv q) 8192), (79, .byt (nb (nv p * nv q))), (80, .is (.string (sOf (nb (nv p * nv q))))), (81, .is (.bool true)), (82, .is (.bool true)), (83, .is (.bool true)), (84, .is (.bool true)), (85, .is (.bool true)), (2, .is (.bool true))] (by kernel_rfl) (by kernel_rfl) (by rfl) ?_ ?_
  · refine seeOps_cons ?_ (seeOps_cons ?_ (seeOps_cons ?_ (seeOps_cons ?_ (seeOps_cons ?_ (seeOps_cons ?_ (seeOps_cons ?_ (seeOps_cons ?_ (seeOps_cons ?_ (seeOps_cons ?_ (seeOps_cons ?_ (seeOps_cons ?_ (seeOps_cons ?_ (seeOps_cons ?_ (seeOps_cons ?_ (seeOps_cons ?_ (seeOps_cons ?_ (seeOps_cons ?_ (seeOps_cons ?_ (seeOps_cons ?_ (seeOps_cons ?_ (seeOps_cons ?_ (seeOps_cons ?_ (seeOps_cons ?_ (seeOps_cons ?_ (seeOps_cons ?_ (seeOps_cons ?_ (seeOps_cons ?_ (seeOps_cons ?_ (seeOps_cons ?_ (seeOps_cons ?_ (seeOps_cons ?_ (seeOps_cons ?_ (seeOps_cons ?_ seeOps_nil)))))))))))))))))))))))))))))))))
    · intro w2 hb2 fr hout hin
      have h1 : fr.tmps.getD 1 undef = .pointer (some ⟨w.heap.size, 0, none⟩) := hout 1 (by decide)
      exact op_fieldN (.tmp 1) rfl (by decide) h1 (wanted_none rfl) rfl
    · intro w2 hb2 fr hout hin
      have h53 : fr.tmps.getD 53 undef = .pointer (some ⟨w.heap.size, 0, none⟩) := hin 53 (by decide) (by decide)
      exact op_load1 (.tmp 53) rfl (fun _ => by kernel_rfl) h53 ((HX.out.below hb2).c0) (wanted_none rfl) (RA.out.below hb2)
    · intro w2 hb2 fr hout hin
      have h54 : Byt w2 (fr.tmps.getD 54 undef) (xs) := hin 54 (by decide) (by decide)
      exact op_call1 (.tmp 54) rfl en_few (wanted_none rfl) (FFp.out _ h54) (fun _ _ h => h)
    · intro w2 hb2 fr hout hin
      have h1 : fr.tmps.getD 1 undef = .pointer (some ⟨w.heap.size, 0, none⟩) := hout 1 (by decide)
      exact op_fieldN (.tmp 1) rfl (by decide) h1 (wanted_none rfl) rfl
    · intro w2 hb2 fr hout hin
      have h56 : fr.tmps.getD 56 undef = .pointer (some ⟨w.heap.size, 1, none⟩) := hin 56 (by decide) (by decide)
      exact op_load1 (.tmp 56) rfl (fun _ => by kernel_rfl) h56 ((HX.out.below hb2).c1) (wanted_none rfl) (RB.out.below hb2)
    · intro w2 hb2 fr hout hin
      have h57 : Byt w2 (fr.tmps.getD 57 undef) (ys) := hin 57 (by decide) (by decide)
      exact op_call1 (.tmp 57) rfl en_few (wanted_none rfl) (FFq.out _ h57) (fun _ _ h => h)
    · intro w2 hb2 fr hout hin
      have h55 : Byt w2 (fr.tmps.getD 55 undef) (p) := hin 55 (by decide) (by decide)
      have h58 : Byt w2 (fr.tmps.getD 58 undef) (q) := hin 58 (by decide) (by decide)
      exact op_call2 (.tmp 55) (.tmp 58) rfl en_add (wanted_none rfl) (add_v _ h55 h58 (by have := HLp.out; omega) (by have := HLq.out; omega)) (fun _ _ h => h)
    · intro w2 hb2 fr hout hin
      have h59 : Byt w2 (fr.tmps.getD 59 undef) (nb (nv p + nv q)) := hin 59 (by decide) (by decide)
      exact op_str (.tmp 59) rfl h59 (wanted_none rfl) rfl
    · intro w2 hb2 fr hout hin
      have h3 : Num w2 (fr.tmps.getD 3 undef) (nv p) 4096 := by
        have e : fr.tmps.getD 3 undef = v3 := hout 3 (by decide)
        rw [e]; exact H3.out.below hb2
      exact relStep_move (.tmp 3) rfl (wanted_none rfl) h3
    · intro w2 hb2 fr hout hin
      have h4 : Num w2 (fr.tmps.getD 4 undef) (nv q) 4096 := by
        have e : fr.tmps.getD 4 undef = v4 := hout 4 (by decide)
        rw [e]; exact H4.out.below hb2
      exact relStep_move (.tmp 4) rfl (wanted_none rfl) h4
    · intro w2 hb2 fr hout hin
      have h61 : Num w2 (fr.tmps.getD 61 undef) (nv p) 4096 := hin 61 (by decide) (by decide)
      have h62 : Num w2 (fr.tmps.getD 62 undef) (nv q) 4096 := hin 62 (by decide) (by decide)
      exact op_call2 (.tmp 61) (.tmp 62) rfl en_add2 (wanted_none rfl) (radd_n _ h61 h62 (by decide) (by decide)) (fun _ _ h => h)
    · intro w2 hb2 fr hout hin
      have h63 : Num w2 (fr.tmps.getD 63 undef) (nv p + nv q) 4097 := hin 63 (by decide) (by decide)
      exact op_call1 (.tmp 63) rfl en_bytes2 (wanted_none rfl) (bytes2_v _ h63 (by decide)) (fun _ _ h => h)
    · intro w2 hb2 fr hout hin
      have h64 : Byt w2 (fr.tmps.getD 64 undef) (nb (nv p + nv q)) := hin 64 (by decide) (by decide)
      exact op_str (.tmp 64) rfl h64 (wanted_none rfl) rfl
    · intro w2 hb2 fr hout hin
      have h60 : fr.tmps.getD 60 undef = .string (sOf (nb (nv p + nv q))) := hin 60 (by decide) (by decide)
      have h65 : fr.tmps.getD 65 undef = .string (sOf (nb (nv p + nv q))) := hin 65 (by decide) (by decide)
      exact op_eqS (.tmp 60) (.tmp 65) _ rfl h60 h65 (wanted_none rfl) rfl
    · intro w2 hb2 fr hout hin
      have h66 : fr.tmps.getD 66 undef = .bool true := hin 66 (by decide) (by decide)
      exact relStep_move (.tmp 66) rfl (wanted_none rfl) h66
    · intro w2 hb2 fr hout hin
      have h67 : fr.tmps.getD 67 undef = .bool true := hin 67 (by decide) (by decide)
      have h1 : fr.tmps.getD 1 undef = .pointer (some ⟨w.heap.size, 0, none⟩) := hout 1 (by decide)
      exact op_fieldN (.tmp 1) rfl (by decide) h1 (wanted_some (g := 14) (t := 67) (b := true) rfl rfl h67) rfl
    · intro w2 hb2 fr hout hin
      have h67 : fr.tmps.getD 67 undef = .bool true := hin 67 (by decide) (by decide)
      have h68 : fr.tmps.getD 68 undef = .pointer (some ⟨w.heap.size, 0, none⟩) := hin 68 (by decide) (by decide)
      exact op_load1 (.tmp 68) rfl (fun _ => by kernel_rfl) h68 ((HX.out.below hb2).c0) (wanted_some (g := 14) (t := 67) (b := true) rfl rfl h67) (RA.out.below hb2)
    · intro w2 hb2 fr hout hin
      have h67 : fr.tmps.getD 67 undef = .bool true := hin 67 (by decide) (by decide)
      have h69 : Byt w2 (fr.tmps.getD 69 undef) (xs) := hin 69 (by decide) (by decide)
      exact op_call1 (.tmp 69) rfl en_few (wanted_some (g := 14) (t := 67) (b := true) rfl rfl h67) (FFp.out _ h69) (fun _ _ h => h)
    · intro w2 hb2 fr hout hin
      have h67 : fr.tmps.getD 67 undef = .bool true := hin 67 (by decide) (by decide)
      have h1 : fr.tmps.getD 1 undef = .pointer (some ⟨w.heap.size, 0, none⟩) := hout 1 (by decide)
      exact op_fieldN (.tmp 1) rfl (by decide) h1 (wanted_some (g := 14) (t := 67) (b := true) rfl rfl h67) rfl
    · intro w2 hb2 fr hout hin
      have h67 : fr.tmps.getD 67 undef = .bool true := hin 67 (by decide) (by decide)
      have h71 : fr.tmps.getD 71 undef = .pointer (some ⟨w.heap.size, 1, none⟩) := hin 71 (by decide) (by decide)
      exact op_load1 (.tmp 71) rfl (fun _ => by kernel_rfl) h71 ((HX.out.below hb2).c1) (wanted_some (g := 14) (t := 67) (b := true) rfl rfl h67) (RB.out.below hb2)
    · intro w2 hb2 fr hout hin
      have h67 : fr.tmps.getD 67 undef = .bool true := hin 67 (by decide) (by decide)
      have h72 : Byt w2 (fr.tmps.getD 72 undef) (ys) := hin 72 (by decide) (by decide)
      exact op_call1 (.tmp 72) rfl en_few (wanted_some (g := 14) (t := 67) (b := true) rfl rfl h67) (FFq.out _ h72) (fun _ _ h => h)
    · intro w2 hb2 fr hout hin
      have h67 : fr.tmps.getD 67 undef = .bool true := hin 67 (by decide) (by decide)
      have h70 : Byt w2 (fr.tmps.getD 70 undef) (p) := hin 70 (by decide) (by decide)
      have h73 : Byt w2 (fr.tmps.getD 73 undef) (q) := hin 73 (by decide) (by decide)
      exact op_call2 (.tmp 70) (.tmp 73) rfl en_mul (wanted_some (g := 14) (t := 67) (b := true) rfl rfl h67) (mul_v _ h70 h73 (by have := HLp.out; omega) (by have := HLq.out; omega)) (fun _ _ h => h)
    · intro w2 hb2 fr hout hin
      have h67 : fr.tmps.getD 67 undef = .bool true := hin 67 (by decide) (by decide)
      have h74 : Byt w2 (fr.tmps.getD 74 undef) (nb (nv p * nv q)) := hin 74 (by decide) (by decide)
      exact op_str (.tmp 74) rfl h74 (wanted_some (g := 14) (t := 67) (b := true) rfl rfl h67) rfl
    · intro w2 hb2 fr hout hin
      have h67 : fr.tmps.getD 67 undef = .bool true := hin 67 (by decide) (by decide)
      have h3 : Num w2 (fr.tmps.getD 3 undef) (nv p) 4096 := by
        have e : fr.tmps.getD 3 undef = v3 := hout 3 (by decide)
        rw [e]; exact H3.out.below hb2
      exact relStep_move (.tmp 3) rfl (wanted_some (g := 14) (t := 67) (b := true) rfl rfl h67) h3
    · intro w2 hb2 fr hout hin
      have h67 : fr.tmps.getD 67 undef = .bool true := hin 67 (by decide) (by decide)
      have h4 : Num w2 (fr.tmps.getD 4 undef) (nv q) 4096 := by
        have e : fr.tmps.getD 4 undef = v4 := hout 4 (by decide)
        rw [e]; exact H4.out.below hb2
      exact relStep_move (.tmp 4) rfl (wanted_some (g := 14) (t := 67) (b := true) rfl rfl h67) h4
    · intro w2 hb2 fr hout hin
      have h67 : fr.tmps.getD 67 undef = .bool true := hin 67 (by decide) (by decide)
      have h76 : Num w2 (fr.tmps.getD 76 undef) (nv p) 4096 := hin 76 (by decide) (by decide)
      have h77 : Num w2 (fr.tmps.getD 77 undef) (nv q) 4096 := hin 77 (by decide) (by decide)
      exact op_call2 (.tmp 76) (.tmp 77) rfl en_mul2 (wanted_some (g := 14) (t := 67) (b := true) rfl rfl h67) (rmul_n _ h76 h77 (by decide) (by decide)) (fun _ _ h => h)
    · intro w2 hb2 fr hout hin
      have h67 : fr.tmps.getD 67 undef = .bool true := hin 67 (by decide) (by decide)
      have h78 : Num w2 (fr.tmps.getD 78 undef) (nv p * nv q) 8192 := hin 78 (by decide) (by decide)
      exact op_call1 (.tmp 78) rfl en_bytes2 (wanted_some (g := 14) (t := 67) (b := true) rfl rfl h67) (bytes2_v _ h78 (by decide)) (fun _ _ h => h)
    · intro w2 hb2 fr hout hin
      have h67 : fr.tmps.getD 67 undef = .bool true := hin 67 (by decide) (by decide)
      have h79 : Byt w2 (fr.tmps.getD 79 undef) (nb (nv p * nv q)) := hin 79 (by decide) (by decide)
      exact op_str (.tmp 79) rfl h79 (wanted_some (g := 14) (t := 67) (b := true) rfl rfl h67) rfl
    · intro w2 hb2 fr hout hin
      have h67 : fr.tmps.getD 67 undef = .bool true := hin 67 (by decide) (by decide)
      have h75 : fr.tmps.getD 75 undef = .string (sOf (nb (nv p * nv q))) := hin 75 (by decide) (by decide)
      have h80 : fr.tmps.getD 80 undef = .string (sOf (nb (nv p * nv q))) := hin 80 (by decide) (by decide)
      exact op_eqS (.tmp 75) (.tmp 80) _ rfl h75 h80 (wanted_some (g := 14) (t := 67) (b := true) rfl rfl h67) rfl
    · intro w2 hb2 fr hout hin
      have h67 : fr.tmps.getD 67 undef = .bool true := hin 67 (by decide) (by decide)
      have h81 : fr.tmps.getD 81 undef = .bool true := hin 81 (by decide) (by decide)
      exact relStep_pick (.tmp 67) (.tmp 81) (.const (.bool false)) rfl h67 (wanted_none rfl) h81
    · intro w2 hb2 fr hout hin
      have h82 : fr.tmps.getD 82 undef = .bool true := hin 82 (by decide) (by decide)
      exact relStep_move (.tmp 82) rfl (wanted_none rfl) h82
    · intro w2 hb2 fr hout hin
      have h83 : fr.tmps.getD 83 undef = .bool true := hin 83 (by decide) (by decide)
      exact op_call0 rfl en_wakes (wanted_some (g := 30) (t := 83) (b := true) rfl rfl h83) (nwakes_v _) (fun _ _ h => h)
    · intro w2 hb2 fr hout hin
      have h83 : fr.tmps.getD 83 undef = .bool true := hin 83 (by decide) (by decide)
      have h84 : fr.tmps.getD 84 undef = .bool true := hin 84 (by decide) (by decide)
      exact relStep_pick (.tmp 83) (.tmp 84) (.const (.bool false)) rfl h83 (wanted_none rfl) h84
    · intro w2 hb2 fr hout hin
      have h85 : fr.tmps.getD 85 undef = .bool true := hin 85 (by decide) (by decide)
      exact relStep_assign (.tmp 85) rfl (wanted_none rfl) h85
  intro w5 hb5
  refine relAsk_in (by rfl) ?_
  intro v53 h53
  obtain rfl : v53 = .pointer (some ⟨w.heap.size, 0, none⟩) := h53
  refine relAsk_in (by rfl) ?_
  intro v54 h54
  refine relAsk_in (by rfl) ?_
  intro v55 h55
  refine relAsk_in (by rfl) ?_
  intro v56 h56
  obtain rfl : v56 = .pointer (some ⟨w.heap.size, 1, none⟩) := h56
  refine relAsk_in (by rfl) ?_
  intro v57 h57
  refine relAsk_in (by rfl) ?_
  intro v58 h58
  refine relAsk_in (by rfl) ?_
  intro v59 h59
  refine relAsk_in (by rfl) ?_
  intro v60 h60
  obtain rfl : v60 = .string (sOf (nb (nv p + nv q))) := h60
  refine relAsk_in (by rfl) ?_
  intro v61 h61
  refine relAsk_in (by rfl) ?_
  intro v62 h62
  refine relAsk_in (by rfl) ?_
  intro v63 h63
  refine relAsk_in (by rfl) ?_
  intro v64 h64
  refine relAsk_in (by rfl) ?_
  intro v65 h65
  obtain rfl : v65 = .string (sOf (nb (nv p + nv q))) := h65
  refine relAsk_in (by rfl) ?_
  intro v66 h66
  obtain rfl : v66 = .bool true := h66
  refine relAsk_in (by rfl) ?_
  intro v67 h67
  obtain rfl : v67 = .bool true := h67
  refine relAsk_in (by rfl) ?_
  intro v68 h68
  obtain rfl : v68 = .pointer (some ⟨w.heap.size, 0, none⟩) := h68
  refine relAsk_in (by rfl) ?_
  intro v69 h69
  refine relAsk_in (by rfl) ?_
  intro v70 h70
  refine relAsk_in (by rfl) ?_
  intro v71 h71
  obtain rfl : v71 = .pointer (some ⟨w.heap.size, 1, none⟩) := h71
  refine relAsk_in (by rfl) ?_
  intro v72 h72
  refine relAsk_in (by rfl) ?_
  intro v73 h73
  refine relAsk_in (by rfl) ?_
  intro v74 h74
  refine relAsk_in (by rfl) ?_
  intro v75 h75
  obtain rfl : v75 = .string (sOf (nb (nv p * nv q))) := h75
  refine relAsk_in (by rfl) ?_
  intro v76 h76
  refine relAsk_in (by rfl) ?_
  intro v77 h77
  refine relAsk_in (by rfl) ?_
  intro v78 h78
  refine relAsk_in (by rfl) ?_
  intro v79 h79
  refine relAsk_in (by rfl) ?_
  intro v80 h80
  obtain rfl : v80 = .string (sOf (nb (nv p * nv q))) := h80
  refine relAsk_in (by rfl) ?_
  intro v81 h81
  obtain rfl : v81 = .bool true := h81
  refine relAsk_in (by rfl) ?_
  intro v82 h82
  obtain rfl : v82 = .bool true := h82
  refine relAsk_in (by rfl) ?_
  intro v83 h83
  obtain rfl : v83 = .bool true := h83
  refine relAsk_in (by rfl) ?_
  intro v84 h84
  obtain rfl : v84 = .bool true := h84
  refine relAsk_in (by rfl) ?_
  intro v85 h85
  obtain rfl : v85 = .bool true := h85
  refine relAsk_in (by rfl) ?_
  intro v2 h2
  obtain rfl : v2 = .bool true := h2
  refine relAsk_nil ?_
  have RA := Lib.hid (RA.out.below hb5)
  have RB := Lib.hid (RB.out.below hb5)
  have RM := Lib.hid (RM.out.below hb5)
  have HX := Lib.hid (HX.out.below hb5)
  have HW := Lib.hid (HW.out.trans (hb5.mono HW.out.size))
  have H3 := Lib.hid (H3.out.below hb5)
  have H4 := Lib.hid (H4.out.below hb5)
  have H5 := Lib.hid (H5.out.below hb5)
  clear h54 h55 h57 h58 h59 h61 h62 h63 h64 h69 h70 h72 h73 h74 h76 h77 h78 h79 hb5
  refine wpList_nil ?_
  go_simp
  go_wp2_with fail
  go_ret
  exact ⟨rfl, HW.out⟩

set_option maxRecDepth 100000 in
set_option maxHeartbeats 12800000 in
theorem sums_lt {A B M : Option Addr} {ca cb cm : Nat} {i wide : Int} {xs ys zs : List Nat} (w : World) (hA : Rd .u8 w A ca xs) (dA : Ds 256 xs) (hB : Rd .u8 w B cb ys) (dB : Ds 256 ys) (hM : Rd .u8 w M cm zs) (dM : Ds 256 zs) (hlt : nv (xs.take 600) < nv (ys.take 600)) :
    Calls Try.prog 12 #[.agg #[.slice A xs.length ca, .slice B ys.length cb, .slice M zs.length cm, .int .i64 i, .int .i64 wide]] w (RetV (.bool true) w) := by
  obtain ⟨p, hp⟩ : ∃ zz, zz = xs.take 600 := ⟨_, rfl⟩
  have hlp : p.length ≤ 600 := by rw [hp, List.length_take]; omega
  have ffp : ∀ (w : World) {u : Value}, Byt w u xs → Calls Try.prog 75 #[u] w (RetR (fun w' v => Byt w' v p) w) := fun w u h => by rw [hp]; exact few_v w h
  have HLp := Lib.hid hlp
  have FFp := Lib.hid ffp
  have Hp := Lib.hid hp
  clear hlp ffp hp
  obtain ⟨q, hq⟩ : ∃ zz, zz = ys.take 600 := ⟨_, rfl⟩
  have hlq : q.length ≤ 600 := by rw [hq, List.length_take]; omega
  have ffq : ∀ (w : World) {u : Value}, Byt w u ys → Calls Try.prog 75 #[u] w (RetR (fun w' v => Byt w' v q) w) := fun w u h => by rw [hq]; exact few_v w h
  have HLq := Lib.hid hlq
  have FFq := Lib.hid ffq
  have Hq := Lib.hid hq
  clear hlq ffq hq
  have HLT := Lib.hid hlt
  rw [← Hp.out, ← Hq.out] at HLT
  have hc : ∀ w, (binOp .geq 3 (.int .i64 (ordI (nv p) (nv q))) (.int .i64 0)).run Try.prog w = .ok (.bool false) w := fun w => by
    have h : ordI (nv p) (nv q) = -1 := by unfold ordI; rw [if_pos HLT.out]
    rw [h]
    go_simp
  have HC := Lib.hid hc
  clear hlt hc
  obtain ⟨L, hL⟩ : ∃ L, L = xs.length := ⟨_, rfl⟩
  obtain ⟨K, hK⟩ : ∃ K, K = ys.length := ⟨_, rfl⟩
  obtain ⟨J, hJ⟩ : ∃ J, J = zs.length := ⟨_, rfl⟩
  have rA : Byt w (.slice A L ca) xs := ⟨A, ca, by rw [hL], hA, dA⟩
  have rB : Byt w (.slice B K cb) ys := ⟨B, cb, by rw [hK], hB, dB⟩
  have rM : Byt w (.slice M J cm) zs := ⟨M, cm, by rw [hJ], hM, dM⟩
  rw [← hL, ← hK, ← hJ]
  have hW := (Below.refl w.heap.size w).alloc (Nat.le_refl _) (.cells #[.slice A L ca, .slice B K cb, .slice M J cm, .int .i64 i, .int .i64 wide] 51)
  have hx := Box5.new w (.slice A L ca) (.slice B K cb) (.slice M J cm) (.int .i64 i) (.int .i64 wide) 51
  have RA := Lib.hid (rA.below hW)
  have RB := Lib.hid (rB.below hW)
  have RM := Lib.hid (rM.below hW)
  have HX := Lib.hid hx
  have HW := Lib.hid hW
  clear hA dA hB dB hM dM hL hK hJ rA rB rM hW hx
  go_enter Try.func12, Try.ntmps12
  go_upto_region 1 with (fail)
  generalize hX : w.alloc (.cells #[.slice A L ca, .slice B K cb, .slice M J cm, .int .i64 i, .int .i64 wide] 51) = X at *
  clear hX
  refine wp_region_seq 5 [7, 8, 9, 10, 3] [(7, .is (.pointer (some ⟨w.heap.size, 0, none⟩))), (8, .byt (xs)), (9, .byt (p)), (10, .num (nv p) 4096), (3, .num (nv p) 4096)] (by kernel_rfl) (by rfl) ?_ ?_
  · refine seeOps_cons ?_ (seeOps_cons ?_ (seeOps_cons ?_ (seeOps_cons ?_ (seeOps_cons ?_ seeOps_nil))))
    · intro w2 hb2 fr hout hin
      have h1 : fr.tmps.getD 1 undef = .pointer (some ⟨w.heap.size, 0, none⟩) := hout 1 (by decide)
      exact op_fieldN (.tmp 1) rfl (by decide) h1 (wanted_none rfl) rfl
    · intro w2 hb2 fr hout hin
      have h7 : fr.tmps.getD 7 undef = .pointer (some ⟨w.heap.size, 0, none⟩) := hin 7 (by decide) (by decide)
      exact op_load1 (.tmp 7) rfl (fun _ => by kernel_rfl) h7 ((HX.out.below hb2).c0) (wanted_none rfl) (RA.out.below hb2)
    · intro w2 hb2 fr hout hin
      have h8 : Byt w2 (fr.tmps.getD 8 undef) (xs) := hin 8 (by decide) (by decide)
      exact op_call1 (.tmp 8) rfl en_few (wanted_none rfl) (FFp.out _ h8) (fun _ _ h => h)
    · intro w2 hb2 fr hout hin
      have h9 : Byt w2 (fr.tmps.getD 9 undef) (p) := hin 9 (by decide) (by decide)
      exact op_call1 (.tmp 9) rfl en_from2 (wanted_none rfl) (from2_v _ h9 (by have := HLp.out; omega)) (fun _ _ h => h)
    · intro w2 hb2 fr hout hin
      have h10 : Num w2 (fr.tmps.getD 10 undef) (nv p) 4096 := hin 10 (by decide) (by decide)
      exact relStep_assign (.tmp 10) rfl (wanted_none rfl) h10
  intro w1 hb1
  refine relAsk_in (by rfl) ?_
  intro v7 h7
  obtain rfl : v7 = .pointer (some ⟨w.heap.size, 0, none⟩) := h7
  refine relAsk_in (by rfl) ?_
  intro v8 h8
  refine relAsk_in (by rfl) ?_
  intro v9 h9
  refine relAsk_in (by rfl) ?_
  intro v10 h10
  refine relAsk_in (by rfl) ?_
  intro v3 h3
  refine relAsk_nil ?_
  have RA := Lib.hid (RA.out.below hb1)
  have RB := Lib.hid (RB.out.below hb1)
  have RM := Lib.hid (RM.out.below hb1)
  have HX := Lib.hid (HX.out.below hb1)
  have HW := Lib.hid (HW.out.trans (hb1.mono HW.out.size))
  have H3 : Hid (Num w1 (v3) (nv p) 4096) := h3
  clear h8 h9 h10 h3 hb1
  refine wpList_nil ?_
  go_simp
  go_upto_region 2 with (fail)
  refine wp_region_seq 5 [11, 12, 13, 14, 4] [(11, .is (.pointer (some ⟨w.heap.size, 1, none⟩))), (12, .byt (ys)), (13, .byt (q)), (14, .num (nv q) 4096), (4, .num (nv q) 4096)] (by kernel_rfl) (by rfl) ?_ ?_
  · refine seeOps_cons ?_ (seeOps_cons ?_ (seeOps_cons ?_ (seeOps_cons ?_ (seeOps_cons ?_ seeOps_nil))))
    · intro w2 hb2 fr hout hin
      have h1 : fr.tmps.getD 1 undef = .pointer (some ⟨w.heap.size, 0, none⟩) := hout 1 (by decide)
      exact op_fieldN (.tmp 1) rfl (by decide) h1 (wanted_none rfl) rfl
    · intro w2 hb2 fr hout hin
      have h11 : fr.tmps.getD 11 undef = .pointer (some ⟨w.heap.size, 1, none⟩) := hin 11 (by decide) (by decide)
      exact op_load1 (.tmp 11) rfl (fun _ => by kernel_rfl) h11 ((HX.out.below hb2).c1) (wanted_none rfl) (RB.out.below hb2)
    · intro w2 hb2 fr hout hin
      have h12 : Byt w2 (fr.tmps.getD 12 undef) (ys) := hin 12 (by decide) (by decide)
      exact op_call1 (.tmp 12) rfl en_few (wanted_none rfl) (FFq.out _ h12) (fun _ _ h => h)
    · intro w2 hb2 fr hout hin
      have h13 : Byt w2 (fr.tmps.getD 13 undef) (q) := hin 13 (by decide) (by decide)
      exact op_call1 (.tmp 13) rfl en_from2 (wanted_none rfl) (from2_v _ h13 (by have := HLq.out; omega)) (fun _ _ h => h)
    · intro w2 hb2 fr hout hin
      have h14 : Num w2 (fr.tmps.getD 14 undef) (nv q) 4096 := hin 14 (by decide) (by decide)
      exact relStep_assign (.tmp 14) rfl (wanted_none rfl) h14
  intro w2 hb2
  refine relAsk_in (by rfl) ?_
  intro v11 h11
  obtain rfl : v11 = .pointer (some ⟨w.heap.size, 1, none⟩) := h11
  refine relAsk_in (by rfl) ?_
  intro v12 h12
  refine relAsk_in (by rfl) ?_
  intro v13 h13
  refine relAsk_in (by rfl) ?_
  intro v14 h14
  refine relAsk_in (by rfl) ?_
  intro v4 h4
  refine relAsk_nil ?_
  have RA := Lib.hid (RA.out.below hb2)
  have RB := Lib.hid (RB.out.below hb2)
  have RM := Lib.hid (RM.out.below hb2)
  have HX := Lib.hid (HX.out.below hb2)
  have HW := Lib.hid (HW.out.trans (hb2.mono HW.out.size))
  have H3 := Lib.hid (H3.out.below hb2)
  have H4 : Hid (Num w2 (v4) (nv q) 4096) := h4
  clear h12 h13 h14 h4 hb2
  refine wpList_nil ?_
  go_simp
  go_upto_region 3 with (fail)
  refine wp_region_see 12 [16, 17, 18, 19, 20, 21, 22, 15, 23, 24, 5, 6] [(16, .is (.pointer (some ⟨w.heap.size, 0, none⟩))), (17, .byt (xs)), (18, .byt (p)), (19, .is (.pointer (some ⟨w.heap.size, 1, none⟩))), (20, .byt (ys)), (21, .byt (q)), (22, .is (.tuple #[.slice none 0 0, .bool false])), (15, .is (.tuple #[.slice none 0 0, .bool false])), (23, .is (.slice none 0 0)), (24, .is (.bool false)), (5, .is (.slice none 0 0)), (6, .is (.bool false))] (by kernel_rfl) (by kernel_rfl) (by rfl) ?_ ?_
  · refine seeOps_cons ?_ (seeOps_cons ?_ (seeOps_cons ?_ (seeOps_cons ?_ (seeOps_cons ?_ (seeOps_cons ?_ (seeOps_cons ?_ (seeOps_cons ?_ (seeOps_cons ?_ (seeOps_cons ?_ (seeOps_cons ?_ (seeOps_cons ?_ seeOps_nil)))))))))))
    · intro w2 hb2 fr hout hin
      have h1 : fr.tmps.getD 1 undef = .pointer (some ⟨w.heap.size, 0, none⟩) := hout 1 (by decide)
      exact op_fieldN (.tmp 1) rfl (by decide) h1 (wanted_none rfl) rfl
    · intro w2 hb2 fr hout hin
      have h16 : fr.tmps.getD 16 undef = .pointer (some ⟨w.heap.size, 0, none⟩) := hin 16 (by decide) (by decide)
      exact op_load1 (.tmp 16) rfl (fun _ => by kernel_rfl) h16 ((HX.out.below hb2).c0) (wanted_none rfl) (RA.out.below hb2)
    · intro w2 hb2 fr hout hin
      have h17 : Byt w2 (fr.tmps.getD 17 undef) (xs) := hin 17 (by decide) (by decide)
      exact op_call1 (.tmp 17) rfl en_few (wanted_none rfl) (FFp.out _ h17) (fun _ _ h => h)
    · intro w2 hb2 fr hout hin
      have h1 : fr.tmps.getD 1 undef = .pointer (some ⟨w.heap.size, 0, none⟩) := hout 1 (by decide)
      exact op_fieldN (.tmp 1) rfl (by decide) h1 (wanted_none rfl) rfl
    · intro w2 hb2 fr hout hin
      have h19 : fr.tmps.getD 19 undef = .pointer (some ⟨w.heap.size, 1, none⟩) := hin 19 (by decide) (by decide)
      exact op_load1 (.tmp 19) rfl (fun _ => by kernel_rfl) h19 ((HX.out.below hb2).c1) (wanted_none rfl) (RB.out.below hb2)
    · intro w2 hb2 fr hout hin
      have h20 : Byt w2 (fr.tmps.getD 20 undef) (ys) := hin 20 (by decide) (by decide)
      exact op_call1 (.tmp 20) rfl en_few (wanted_none rfl) (FFq.out _ h20) (fun _ _ h => h)
    · intro w2 hb2 fr hout hin
      have h18 : Byt w2 (fr.tmps.getD 18 undef) (p) := hin 18 (by decide) (by decide)
      have h21 : Byt w2 (fr.tmps.getD 21 undef) (q) := hin 21 (by decide) (by decide)
      exact op_call2 (.tmp 18) (.tmp 21) rfl en_sub (wanted_none rfl) (subno_v _ h18 h21 (by have := HLp.out; omega) (by have := HLq.out; omega) HLT.out) (fun _ _ h => h)
    · intro w2 hb2 fr hout hin
      have h22 : fr.tmps.getD 22 undef = .tuple #[.slice none 0 0, .bool false] := hin 22 (by decide) (by decide)
      exact relStep_move (.tmp 22) rfl (wanted_none rfl) h22
    · intro w2 hb2 fr hout hin
      have h15 : fr.tmps.getD 15 undef = .tuple #[.slice none 0 0, .bool false] := hin 15 (by decide) (by decide)
      exact op_ext (.tmp 15) 0 rfl h15 rfl (wanted_none rfl) rfl
    · intro w2 hb2 fr hout hin
      have h15 : fr.tmps.getD 15 undef = .tuple #[.slice none 0 0, .bool false] := hin 15 (by decide) (by decide)
      exact op_ext (.tmp 15) 1 rfl h15 rfl (wanted_none rfl) rfl
    · intro w2 hb2 fr hout hin
      have h23 : fr.tmps.getD 23 undef = .slice none 0 0 := hin 23 (by decide) (by decide)
      exact relStep_assign (.tmp 23) rfl (wanted_none rfl) h23
    · intro w2 hb2 fr hout hin
      have h24 : fr.tmps.getD 24 undef = .bool false := hin 24 (by decide) (by decide)
      exact relStep_assign (.tmp 24) rfl (wanted_none rfl) h24
  intro w3 hb3
  refine relAsk_in (by rfl) ?_
  intro v16 h16
  obtain rfl : v16 = .pointer (some ⟨w.heap.size, 0, none⟩) := h16
  refine relAsk_in (by rfl) ?_
  intro v17 h17
  refine relAsk_in (by rfl) ?_
  intro v18 h18
  refine relAsk_in (by rfl) ?_
  intro v19 h19
  obtain rfl : v19 = .pointer (some ⟨w.heap.size, 1, none⟩) := h19
  refine relAsk_in (by rfl) ?_
  intro v20 h20
  refine relAsk_in (by rfl) ?_
  intro v21 h21
  refine relAsk_in (by rfl) ?_
  intro v22 h22
  obtain rfl : v22 = .tuple #[.slice none 0 0, .bool false] := h22
  refine relAsk_in (by rfl) ?_
  intro v15 h15
  obtain rfl : v15 = .tuple #[.slice none 0 0, .bool false] := h15
  refine relAsk_in (by rfl) ?_
  intro v23 h23
  obtain rfl : v23 = .slice none 0 0 := h23
  refine relAsk_in (by rfl) ?_
  intro v24 h24
  obtain rfl : v24 = .bool false := h24
  refine relAsk_in (by rfl) ?_
  intro v5 h5
  obtain rfl : v5 = .slice none 0 0 := h5
  refine relAsk_in (by rfl) ?_
  intro v6 h6
  obtain rfl : v6 = .bool false := h6
  refine relAsk_nil ?_
  have RA := Lib.hid (RA.out.below hb3)
  have RB := Lib.hid (RB.out.below hb3)
  have RM := Lib.hid (RM.out.below hb3)
  have HX := Lib.hid (HX.out.below hb3)
  have HW := Lib.hid (HW.out.trans (hb3.mono HW.out.size))
  have H3 := Lib.hid (H3.out.below hb3)
  have H4 := Lib.hid (H4.out.below hb3)
  clear h17 h18 h20 h21 hb3
  refine wpList_nil ?_
  go_simp
  go_upto_region 4 with (fail)
  refine wp_region_see 28 [25, 26, 27, 28, 29, 30, 31, 32, 33, 34, 35, 36, 37, 38, 39, 40, 41, 42, 43, 44, 45, 46, 47, 48, 49, 50, 51, 52] [(25, .is (.bool false)), (26, .num (nv p) 4096), (27, .num (nv q) 4096), (28, .is (.int .i64 (ordI (nv p) (nv q)))), (29, .is (.bool false)), (30, .is (.bool false)), (31, .is (.bool false)), (32, .is (.bool false)), (33, .is (.bool false)), (34, .any), (35, .any), (36, .any), (37, .any), (38, .any), (39, .any), (40, .any), (41, .any), (42, .is (.bool false)), (43, .is (.bool false)), (44, .is (.bool false)), (45, .is (.bool false)), (46, .is (.bool true)), (47, .is (.bool true)), (48, .is (.slice none 0 0)), (49, .is (.int .i64 0)), (50, .is (.bool false)), (51, .is (.bool false)), (52, .is (.bool false))] (by kernel_rfl) (by kernel_rfl) (by rfl) ?_ ?_
  · refine seeOps_cons ?_ (seeOps_cons ?_ (seeOps_cons ?_ (seeOps_cons ?_ (seeOps_cons ?_ (seeOps_cons ?_ (seeOps_cons ?_ (seeOps_cons ?_ (seeOps_cons ?_ (seeOps_cons ?_ (seeOps_cons ?_ (seeOps_cons ?_ (seeOps_cons ?_ (seeOps_cons ?_ (seeOps_cons ?_ (seeOps_cons ?_ (seeOps_cons ?_ (seeOps_cons ?_ (seeOps_cons ?_ (seeOps_cons ?_ (seeOps_cons ?_ (seeOps_cons ?_ (seeOps_cons ?_ (seeOps_cons ?_ (seeOps_cons ?_ (seeOps_cons ?_ (seeOps_cons ?_ (seeOps_cons ?_ seeOps_nil)))))))))))))))))))))))))))
    · intro w2 hb2 fr hout hin
      have h6 : fr.tmps.getD 6 undef = .bool false := hout 6 (by decide)
      exact relStep_move (.tmp 6) rfl (wanted_none rfl) h6
    · intro w2 hb2 fr hout hin
      have h3 : Num w2 (fr.tmps.getD 3 undef) (nv p) 4096 := by
        have e : fr.tmps.getD 3 undef = v3 := hout 3 (by decide)
        rw [e]; exact H3.out.below hb2
      exact relStep_move (.tmp 3) rfl (wanted_none rfl) h3
    · intro w2 hb2 fr hout hin
      have h4 : Num w2 (fr.tmps.getD 4 undef) (nv q) 4096 := by
        have e : fr.tmps.getD 4 undef = v4 := hout 4 (by decide)
        rw [e]; exact H4.out.below hb2
      exact relStep_move (.tmp 4) rfl (wanted_none rfl) h4
    · intro w2 hb2 fr hout hin
      have h26 : Num w2 (fr.tmps.getD 26 undef) (nv p) 4096 := hin 26 (by decide) (by decide)
      have h27 : Num w2 (fr.tmps.getD 27 undef) (nv q) 4096 := hin 27 (by decide) (by decide)
      exact op_call2 (.tmp 26) (.tmp 27) rfl en_cmp2 (wanted_none rfl) (cmp2_v _ h26 h27 (by decide)) (fun _ _ h => h)
    · intro w2 hb2 fr hout hin
      have h28 : fr.tmps.getD 28 undef = .int .i64 (ordI (nv p) (nv q)) := hin 28 (by decide) (by decide)
      exact op_cmp .geq (.tmp 28) (.const (.int .i64 0)) _ rfl h28 rfl (HC.out) (wanted_none rfl) rfl
    · intro w2 hb2 fr hout hin
      have h25 : fr.tmps.getD 25 undef = .bool false := hin 25 (by decide) (by decide)
      have h29 : fr.tmps.getD 29 undef = .bool false := hin 29 (by decide) (by decide)
      exact op_neB (.tmp 25) (.tmp 29) _ rfl h25 h29 (wanted_none rfl) rfl
    · intro w2 hb2 fr hout hin
      have h30 : fr.tmps.getD 30 undef = .bool false := hin 30 (by decide) (by decide)
      exact relStep_move (.tmp 30) rfl (wanted_none rfl) h30
    · intro w2 hb2 fr hout hin
      have h31 : fr.tmps.getD 31 undef = .bool false := hin 31 (by decide) (by decide)
      have h6 : fr.tmps.getD 6 undef = .bool false := hout 6 (by decide)
      exact relStep_move (.tmp 6) rfl (wanted_some (g := 6) (t := 31) (b := false) rfl rfl h31) h6
    · intro w2 hb2 fr hout hin
      have h31 : fr.tmps.getD 31 undef = .bool false := hin 31 (by decide) (by decide)
      have h32 : fr.tmps.getD 32 undef = .bool false := hin 32 (by decide) (by decide)
      exact relStep_move (.tmp 32) rfl (wanted_some (g := 6) (t := 31) (b := false) rfl rfl h31) h32
    · intro w2 hb2 fr hout hin
      have h33 : fr.tmps.getD 33 undef = .bool false := hin 33 (by decide) (by decide)
      exact relStep_skip (wanted_not rfl rfl h33 rfl) trivial
    · intro w2 hb2 fr hout hin
      have h33 : fr.tmps.getD 33 undef = .bool false := hin 33 (by decide) (by decide)
      exact relStep_skip (wanted_not rfl rfl h33 rfl) trivial
    · intro w2 hb2 fr hout hin
      have h33 : fr.tmps.getD 33 undef = .bool false := hin 33 (by decide) (by decide)
      exact relStep_skip (wanted_not rfl rfl h33 rfl) trivial
    · intro w2 hb2 fr hout hin
      have h33 : fr.tmps.getD 33 undef = .bool false := hin 33 (by decide) (by decide)
      exact relStep_skip (wanted_not rfl rfl h33 rfl) trivial
    · intro w2 hb2 fr hout hin
      have h33 : fr.tmps.getD 33 undef = .bool false := hin 33 (by decide) (by decide)
      exact relStep_skip (wanted_not rfl rfl h33 rfl) trivial
    · intro w2 hb2 fr hout hin
      have h33 : fr.tmps.getD 33 undef = .bool false := hin 33 (by decide) (by decide)
      exact relStep_skip (wanted_not rfl rfl h33 rfl) trivial
    · intro w2 hb2 fr hout hin
      have h33 : fr.tmps.getD 33 undef = .bool false := hin 33 (by decide) (by decide)
      exact relStep_skip (wanted_not rfl rfl h33 rfl) trivial
    · intro w2 hb2 fr hout hin
      have h33 : fr.tmps.getD 33 undef = .bool false := hin 33 (by decide) (by decide)
      exact relStep_skip (wanted_not rfl rfl h33 rfl) trivial
    · intro w2 hb2 fr hout hin
      have h31 : fr.tmps.getD 31 undef = .bool false := hin 31 (by decide) (by decide)
      have h33 : fr.tmps.getD 33 undef = .bool false := hin 33 (by decide) (by decide)
      exact relStep_pickF (.tmp 33) (.tmp 41) (.const (.bool false)) rfl h33 (wanted_some (g := 6) (t := 31) (b := false) rfl rfl h31) rfl
    · intro w2 hb2 fr hout hin
      have h31 : fr.tmps.getD 31 undef = .bool false := hin 31 (by decide) (by decide)
      have h42 : fr.tmps.getD 42 undef = .bool false := hin 42 (by decide) (by decide)
      exact relStep_pickF (.tmp 31) (.const (.bool true)) (.tmp 42) rfl h31 (wanted_none rfl) h42
    · intro w2 hb2 fr hout hin
      have h43 : fr.tmps.getD 43 undef = .bool false := hin 43 (by decide) (by decide)
      exact relStep_move (.tmp 43) rfl (wanted_none rfl) h43
    · intro w2 hb2 fr hout hin
      have h44 : fr.tmps.getD 44 undef = .bool false := hin 44 (by decide) (by decide)
      have h6 : fr.tmps.getD 6 undef = .bool false := hout 6 (by decide)
      exact relStep_move (.tmp 6) rfl (wanted_some (g := 19) (t := 44) (b := false) rfl rfl h44) h6
    · intro w2 hb2 fr hout hin
      have h44 : fr.tmps.getD 44 undef = .bool false := hin 44 (by decide) (by decide)
      have h45 : fr.tmps.getD 45 undef = .bool false := hin 45 (by decide) (by decide)
      exact op_not (.tmp 45) _ rfl h45 (wanted_some (g := 19) (t := 44) (b := false) rfl rfl h44) rfl
    · intro w2 hb2 fr hout hin
      have h44 : fr.tmps.getD 44 undef = .bool false := hin 44 (by decide) (by decide)
      have h46 : fr.tmps.getD 46 undef = .bool true := hin 46 (by decide) (by decide)
      exact relStep_move (.tmp 46) rfl (wanted_some (g := 19) (t := 44) (b := false) rfl rfl h44) h46
    · intro w2 hb2 fr hout hin
      have h47 : fr.tmps.getD 47 undef = .bool true := hin 47 (by decide) (by decide)
      have h5 : fr.tmps.getD 5 undef = .slice none 0 0 := hout 5 (by decide)
      exact relStep_move (.tmp 5) rfl (wanted_some (g := 22) (t := 47) (b := true) rfl rfl h47) h5
    · intro w2 hb2 fr hout hin
      have h47 : fr.tmps.getD 47 undef = .bool true := hin 47 (by decide) (by decide)
      have h48 : fr.tmps.getD 48 undef = .slice none 0 0 := hin 48 (by decide) (by decide)
      exact op_len (bs := (([] : List Nat))) (.tmp 48) rfl (by show Byt _ (fr.tmps.getD 48 undef) []; rw [h48]; exact Byt.nil _) (wanted_some (g := 22) (t := 47) (b := true) rfl rfl h47) rfl
    · intro w2 hb2 fr hout hin
      have h47 : fr.tmps.getD 47 undef = .bool true := hin 47 (by decide) (by decide)
      have h49 : fr.tmps.getD 49 undef = .int .i64 0 := hin 49 (by decide) (by decide)
      exact op_cmp .neq (.tmp 49) (.const (.int .i64 0)) _ rfl h49 rfl (fun w => by go_simp) (wanted_some (g := 22) (t := 47) (b := true) rfl rfl h47) rfl
    · intro w2 hb2 fr hout hin
      have h44 : fr.tmps.getD 44 undef = .bool false := hin 44 (by decide) (by decide)
      have h47 : fr.tmps.getD 47 undef = .bool true := hin 47 (by decide) (by decide)
      have h50 : fr.tmps.getD 50 undef = .bool false := hin 50 (by decide) (by decide)
      exact relStep_pick (.tmp 47) (.tmp 50) (.const (.bool false)) rfl h47 (wanted_some (g := 19) (t := 44) (b := false) rfl rfl h44) h50
    · intro w2 hb2 fr hout hin
      have h44 : fr.tmps.getD 44 undef = .bool false := hin 44 (by decide) (by decide)
      have h51 : fr.tmps.getD 51 undef = .bool false := hin 51 (by decide) (by decide)
      exact relStep_pickF (.tmp 44) (.const (.bool true)) (.tmp 51) rfl h44 (wanted_none rfl) h51
  intro w4 hb4
  refine relAsk_in (by rfl) ?_
  intro v25 h25
  obtain rfl : v25 = .bool false := h25
  refine relAsk_in (by rfl) ?_
  intro v26 h26
  refine relAsk_in (by rfl) ?_
  intro v27 h27
  refine relAsk_in (by rfl) ?_
  intro v28 h28
  obtain rfl : v28 = .int .i64 (ordI (nv p) (nv q)) := h28
  refine relAsk_in (by rfl) ?_
  intro v29 h29
  obtain rfl : v29 = .bool false := h29
  refine relAsk_in (by rfl) ?_
  intro v30 h30
  obtain rfl : v30 = .bool false := h30
  refine relAsk_in (by rfl) ?_
  intro v31 h31
  obtain rfl : v31 = .bool false := h31
  refine relAsk_in (by rfl) ?_
  intro v32 h32
  obtain rfl : v32 = .bool false := h32
  refine relAsk_in (by rfl) ?_
  intro v33 h33
  obtain rfl : v33 = .bool false := h33
  refine relAsk_in (by rfl) ?_
  intro v34 h34
  clear h34
  refine relAsk_in (by rfl) ?_
  intro v35 h35
  clear h35
  refine relAsk_in (by rfl) ?_
  intro v36 h36
  clear h36
  refine relAsk_in (by rfl) ?_
  intro v37 h37
  clear h37
  refine relAsk_in (by rfl) ?_
  intro v38 h38
  clear h38
  refine relAsk_in (by rfl) ?_
  intro v39 h39
  clear h39
  refine relAsk_in (by rfl) ?_
  intro v40 h40
  clear h40
  refine relAsk_in (by rfl) ?_
  intro v41 h41
  clear h41
  refine relAsk_in (by rfl) ?_
  intro v42 h42
  obtain rfl : v42 = .bool false := h42
  refine relAsk_in (by rfl) ?_
  intro v43 h43
  obtain rfl : v43 = .bool false := h43
  refine relAsk_in (by rfl) ?_
  intro v44 h44
  obtain rfl : v44 = .bool false := h44
  refine relAsk_in (by rfl) ?_
  intro v45 h45
  obtain rfl : v45 = .bool false := h45
  refine relAsk_in (by rfl) ?_
  intro v46 h46
  obtain rfl : v46 = .bool true := h46
  refine relAsk_in (by rfl) ?_
  intro v47 h47
  obtain rfl : v47 = .bool true := h47
  refine relAsk_in (by rfl) ?_
  intro v48 h48
  obtain rfl : v48 = .slice none 0 0 := h48
  refine relAsk_in (by rfl) ?_
  intro v49 h49
  obtain rfl : v49 = .int .i64 0 := h49
  refine relAsk_in (by rfl) ?_
  intro v50 h50
  obtain rfl : v50 = .bool false := h50
  refine relAsk_in (by rfl) ?_
  intro v51 h51
  obtain rfl : v51 = .bool false := h51
  refine relAsk_in (by rfl) ?_
  intro v52 h52
  obtain rfl : v52 = .bool false := h52
  refine relAsk_nil ?_
  have RA := Lib.hid (RA.out.below hb4)
  have RB := Lib.hid (RB.out.below hb4)
  have RM := Lib.hid (RM.out.below hb4)
  have HX := Lib.hid (HX.out.below hb4)
  have HW := Lib.hid (HW.out.trans (hb4.mono HW.out.size))
  have H3 := Lib.hid (H3.out.below hb4)
  have H4 := Lib.hid (H4.out.below hb4)
  clear h26 h27 hb4
  refine wpList_nil ?_
  go_simp
  go_upto_region 6 with (fail)
  refine wp_region_see 34 [53, 54, 55, 56, 57, 58, 59, 60, 61, 62, 63, 64, 65, 66, 67, 68, 69, 70, 71, 72, 73, 74, 75, 76, 77, 78, 79, 80, 81, 82, 83, 84, 85, 2] [(53, .is (.pointer (some ⟨w.heap.size, 0, none⟩))), (54, .byt (xs)), (55, .byt (p)), (56, .is (.pointer (some ⟨w.heap.size, 1, none⟩))), (57, .byt (ys)), (58, .byt (q)), (59, .byt (nb (nv p + nv q))), (60, .is (.string (sOf (nb (nv p + nv q))))), (61, .num (nv p) 4096), (62, .num (nv q) 4096), (63, .num (nv p + nv q) 4097), (64, .byt (nb (nv p + nv q))), (65, .is (.string (sOf (nb (nv p + nv q))))), (66, .is (.bool true)), (67, .is (.bool true)), (68, .is (.pointer (some ⟨w.heap.size, 0, none⟩))), (69, .byt (xs)), (70, .byt (p)), (71, .is (.pointer (some ⟨w.heap.size, 1, none⟩))), (72, .byt (ys)), (73, .byt (q)), (74, .byt (nb (nv p * nv q))), (75, .is (.string (sOf (nb (nv p * nv q))))), (76, .num (nv p) 4096), (77, .num (nv q) 4096), (78, .num (nv p * nv q) 8192), (79, .byt (nb (nv p * nv q))), (80, .is (.string (sOf (nb (nv p * nv q))))), (81, .is (.bool true)), (82, .is (.bool true)), (83, .is (.bool true)), (84, .is (.bool true)), (85, .is (.bool true)), (2, .is (.bool true))] (by kernel_rfl) (by kernel_rfl) (by rfl) ?_ ?_
  · refine seeOps_cons ?_ (seeOps_cons ?_ (seeOps_cons ?_ (seeOps_cons ?_ (seeOps_cons ?_ (seeOps_cons ?_ (seeOps_cons ?_ (seeOps_cons ?_ (seeOps_cons ?_ (seeOps_cons ?_ (seeOps_cons ?_ (seeOps_cons ?_ (seeOps_cons ?_ (seeOps_cons ?_ (seeOps_cons ?_ (seeOps_cons ?_ (seeOps_cons ?_ (seeOps_cons ?_ (seeOps_cons ?_ (seeOps_cons ?_ (seeOps_cons ?_ (seeOps_cons ?_ (seeOps_cons ?_ (seeOps_cons ?_ (seeOps_cons ?_ (seeOps_cons ?_ (seeOps_cons ?_ (seeOps_cons ?_ (seeOps_cons ?_ (seeOps_cons ?_ (seeOps_cons ?_ (seeOps_cons ?_ (seeOps_cons ?_ (seeOps_cons ?_ seeOps_nil)))))))))))))))))))))))))))))))))
    · intro w2 hb2 fr hout hin
      have h1 : fr.tmps.getD 1 undef = .pointer (some ⟨w.heap.size, 0, none⟩) := hout 1 (by decide)
      exact op_fieldN (.tmp 1) rfl (by decide) h1 (wanted_none rfl) rfl
    · intro w2 hb2 fr hout hin
      have h53 : fr.tmps.getD 53 undef = .pointer (some ⟨w.heap.size, 0, none⟩) := hin 53 (by decide) (by decide)
      exact op_load1 (.tmp 53) rfl (fun _ => by kernel_rfl) h53 ((HX.out.below hb2).c0) (wanted_none rfl) (RA.out.below hb2)
    · intro w2 hb2 fr hout hin
      have h54 : Byt w2 (fr.tmps.getD 54 undef) (xs) := hin 54 (by decide) (by decide)
      exact op_call1 (.tmp 54) rfl en_few (wanted_none rfl) (FFp.out _ h54) (fun _ _ h => h)
    · intro w2 hb2 fr hout hin
      have h1 : fr.tmps.getD 1 undef = .pointer (some ⟨w.heap.size, 0, none⟩) := hout 1 (by decide)
      exact op_fieldN (.tmp 1) rfl (by decide) h1 (wanted_none rfl) rfl
    · intro w2 hb2 fr hout hin
      have h56 : fr.tmps.getD 56 undef = .pointer (some ⟨w.heap.size, 1, none⟩) := hin 56 (by decide) (by decide)
      exact op_load1 (.tmp 56) rfl (fun _ => by kernel_rfl) h56 ((HX.out.below hb2).c1) (wanted_none rfl) (RB.out.below hb2)
    · intro w2 hb2 fr hout hin
      have h57 : Byt w2 (fr.tmps.getD 57 undef) (ys) := hin 57 (by decide) (by decide)
      exact op_call1 (.tmp 57) rfl en_few (wanted_none rfl) (FFq.out _ h57) (fun _ _ h => h)
    · intro w2 hb2 fr hout hin
      have h55 : Byt w2 (fr.tmps.getD 55 undef) (p) := hin 55 (by decide) (by decide)
      have h58 : Byt w2 (fr.tmps.getD 58 undef) (q) := hin 58 (by decide) (by decide)
      exact op_call2 (.tmp 55) (.tmp 58) rfl en_add (wanted_none rfl) (add_v _ h55 h58 (by have := HLp.out; omega) (by have := HLq.out; omega)) (fun _ _ h => h)
    · intro w2 hb2 fr hout hin
      have h59 : Byt w2 (fr.tmps.getD 59 undef) (nb (nv p + nv q)) := hin 59 (by decide) (by decide)
      exact op_str (.tmp 59) rfl h59 (wanted_none rfl) rfl
    · intro w2 hb2 fr hout hin
      have h3 : Num w2 (fr.tmps.getD 3 undef) (nv p) 4096 := by
        have e : fr.tmps.getD 3 undef = v3 := hout 3 (by decide)
        rw [e]; exact H3.out.below hb2
      exact relStep_move (.tmp 3) rfl (wanted_none rfl) h3
    · intro w2 hb2 fr hout hin
      have h4 : Num w2 (fr.tmps.getD 4 undef) (nv q) 4096 := by
        have e : fr.tmps.getD 4 undef = v4 := hout 4 (by decide)
        rw [e]; exact H4.out.below hb2
      exact relStep_move (.tmp 4) rfl (wanted_none rfl) h4
    · intro w2 hb2 fr hout hin
      have h61 : Num w2 (fr.tmps.getD 61 undef) (nv p) 4096 := hin 61 (by decide) (by decide)
      have h62 : Num w2 (fr.tmps.getD 62 undef) (nv q) 4096 := hin 62 (by decide) (by decide)
      exact op_call2 (.tmp 61) (.tmp 62) rfl en_add2 (wanted_none rfl) (radd_n _ h61 h62 (by decide) (by decide)) (fun _ _ h => h)
    · intro w2 hb2 fr hout hin
      have h63 : Num w2 (fr.tmps.getD 63 undef) (nv p + nv q) 4097 := hin 63 (by decide) (by decide)
      exact op_call1 (.tmp 63) rfl en_bytes2 (wanted_none rfl) (bytes2_v _ h63 (by decide)) (fun _ _ h => h)
    · intro w2 hb2 fr hout hin
      have h64 : Byt w2 (fr.tmps.getD 64 undef) (nb (nv p + nv q)) := hin 64 (by decide) (by decide)
      exact op_str (.tmp 64) rfl h64 (wanted_none rfl) rfl
    · intro w2 hb2 fr hout hin
      have h60 : fr.tmps.getD 60 undef = .string (sOf (nb (nv p + nv q))) := hin 60 (by decide) (by decide)
      have h65 : fr.tmps.getD 65 undef = .string (sOf (nb (nv p + nv q))) := hin 65 (by decide) (by decide)
      exact op_eqS (.tmp 60) (.tmp 65) _ rfl h60 h65 (wanted_none rfl) rfl
    · intro w2 hb2 fr hout hin
      have h66 : fr.tmps.getD 66 undef = .bool true := hin 66 (by decide) (by decide)
      exact relStep_move (.tmp 66) rfl (wanted_none rfl) h66
    · intro w2 hb2 fr hout hin
      have h67 : fr.tmps.getD 67 undef = .bool true := hin 67 (by decide) (by decide)
      have h1 : fr.tmps.getD 1 undef = .pointer (some ⟨w.heap.size, 0, none⟩) := hout 1 (by decide)
      exact op_fieldN (.tmp 1) rfl (by decide) h1 (wanted_some (g := 14) (t := 67) (b := true) rfl rfl h67) rfl
    · intro w2 hb2 fr hout hin
      have h67 : fr.tmps.getD 67 undef = .bool true := hin 67 (by decide) (by decide)
      have h68 : fr.tmps.getD 68 undef = .pointer (some ⟨w.heap.size, 0, none⟩) := hin 68 (by decide) (by decide)
      exact op_load1 (.tmp 68) rfl (fun _ => by kernel_rfl) h68 ((HX.out.below hb2).c0) (wanted_some (g := 14) (t := 67) (b := true) rfl rfl h67) (RA.out.below hb2)
    · intro w2 hb2 fr hout hin
      have h67 : fr.tmps.getD 67 undef = .bool true := hin 67 (by decide) (by decide)
      have h69 : Byt w2 (fr.tmps.getD 69 undef) (xs) := hin 69 (by decide) (by decide)
      exact op_call1 (.tmp 69) rfl en_few (wanted_some (g := 14) (t := 67) (b := true) rfl rfl h67) (FFp.out _ h69) (fun _ _ h => h)
    · intro w2 hb2 fr hout hin
      have h67 : fr.tmps.getD 67 undef = .bool true := hin 67 (by decide) (by decide)
      have h1 : fr.tmps.getD 1 undef = .pointer (some ⟨w.heap.size, 0, none⟩) := hout 1 (by decide)
      exact op_fieldN (.tmp 1) rfl (by decide) h1 (wanted_some (g := 14) (t := 67) (b := true) rfl rfl h67) rfl
    · intro w2 hb2 fr hout hin
      have h67 : fr.tmps.getD 67 undef = .bool true := hin 67 (by decide) (by decide)
      have h71 : fr.tmps.getD 71 undef = .pointer (some ⟨w.heap.size, 1, none⟩) := hin 71 (by decide) (by decide)
      exact op_load1 (.tmp 71) rfl (fun _ => by kernel_rfl) h71 ((HX.out.below hb2).c1) (wanted_some (g := 14) (t := 67) (b := true) rfl rfl h67) (RB.out.below hb2)
    · intro w2 hb2 fr hout hin
      have h67 : fr.tmps.getD 67 undef = .bool true := hin 67 (by decide) (by decide)
      have h72 : Byt w2 (fr.tmps.getD 72 undef) (ys) := hin 72 (by decide) (by decide)
      exact op_call1 (.tmp 72) rfl en_few (wanted_some (g := 14) (t := 67) (b := true) rfl rfl h67) (FFq.out _ h72) (fun _ _ h => h)
    · intro w2 hb2 fr hout hin
      have h67 : fr.tmps.getD 67 undef = .bool true := hin 67 (by decide) (by decide)
      have h70 : Byt w2 (fr.tmps.getD 70 undef) (p) := hin 70 (by decide) (by decide)
      have h73 : Byt w2 (fr.tmps.getD 73 undef) (q) := hin 73 (by decide) (by decide)
      exact op_call2 (.tmp 70) (.tmp 73) rfl en_mul (wanted_some (g := 14) (t := 67) (b := true) rfl rfl h67) (mul_v _ h70 h73 (by have := HLp.out; omega) (by have := HLq.out; omega)) (fun _ _ h => h)
    · intro w2 hb2 fr hout hin
      have h67 : fr.tmps.getD 67 undef = .bool true := hin 67 (by decide) (by decide)
      have h74 : Byt w2 (fr.tmps.getD 74 undef) (nb (nv p * nv q)) := hin 74 (by decide) (by decide)
      exact op_str (.tmp 74) rfl h74 (wanted_some (g := 14) (t := 67) (b := true) rfl rfl h67) rfl
    · intro w2 hb2 fr hout hin
      have h67 : fr.tmps.getD 67 undef = .bool true := hin 67 (by decide) (by decide)
      have h3 : Num w2 (fr.tmps.getD 3 undef) (nv p) 4096 := by
        have e : fr.tmps.getD 3 undef = v3 := hout 3 (by decide)
        rw [e]; exact H3.out.below hb2
      exact relStep_move (.tmp 3) rfl (wanted_some (g := 14) (t := 67) (b := true) rfl rfl h67) h3
    · intro w2 hb2 fr hout hin
      have h67 : fr.tmps.getD 67 undef = .bool true := hin 67 (by decide) (by decide)
      have h4 : Num w2 (fr.tmps.getD 4 undef) (nv q) 4096 := by
        have e : fr.tmps.getD 4 undef = v4 := hout 4 (by decide)
        rw [e]; exact H4.out.below hb2
      exact relStep_move (.tmp 4) rfl (wanted_some (g := 14) (t := 67) (b := true) rfl rfl h67) h4
    · intro w2 hb2 fr hout hin
      have h67 : fr.tmps.getD 67 undef = .bool true := hin 67 (by decide) (by decide)
      have h76 : Num w2 (fr.tmps.getD 76 undef) (nv p) 4096 := hin 76 (by decide) (by decide)
      have h77 : Num w2 (fr.tmps.getD 77 undef) (nv q) 4096 := hin 77 (by decide) (by decide)
      exact op_call2 (.tmp 76) (.tmp 77) rfl en_mul2 (wanted_some (g := 14) (t := 67) (b := true) rfl rfl h67) (rmul_n _ h76 h77 (by decide) (by decide)) (fun _ _ h => h)
    · intro w2 hb2 fr hout hin
      have h67 : fr.tmps.getD 67 undef = .bool true := hin 67 (by decide) (by decide)
      have h78 : Num w2 (fr.tmps.getD 78 undef) (nv p * nv q) 8192 := hin 78 (by decide) (by decide)
      exact op_call1 (.tmp 78) rfl en_bytes2 (wanted_some (g := 14) (t := 67) (b := true) rfl rfl h67) (bytes2_v _ h78 (by decide)) (fun _ _ h => h)
    · intro w2 hb2 fr hout hin
      have h67 : fr.tmps.getD 67 undef = .bool true := hin 67 (by decide) (by decide)
      have h79 : Byt w2 (fr.tmps.getD 79 undef) (nb (nv p * nv q)) := hin 79 (by decide) (by decide)
      exact op_str (.tmp 79) rfl h79 (wanted_some (g := 14) (t := 67) (b := true) rfl rfl h67) rfl
    · intro w2 hb2 fr hout hin
      have h67 : fr.tmps.getD 67 undef = .bool true := hin 67 (by decide) (by decide)
      have h75 : fr.tmps.getD 75 undef = .string (sOf (nb (nv p * nv q))) := hin 75 (by decide) (by decide)
      have h80 : fr.tmps.getD 80 undef = .string (sOf (nb (nv p * nv q))) := hin 80 (by decide) (by decide)
      exact op_eqS (.tmp 75) (.tmp 80) _ rfl h75 h80 (wanted_some (g := 14) (t := 67) (b := true) rfl rfl h67) rfl
    · intro w2 hb2 fr hout hin
      have h67 : fr.tmps.getD 67 undef = .bool true := hin 67 (by decide) (by decide)
      have h81 : fr.tmps.getD 81 undef = .bool true := hin 81 (by decide) (by decide)
      exact relStep_pick (.tmp 67) (.tmp 81) (.const (.bool false)) rfl h67 (wanted_none rfl) h81
    · intro w2 hb2 fr hout hin
      have h82 : fr.tmps.getD 82 undef = .bool true := hin 82 (by decide) (by decide)
      exact relStep_move (.tmp 82) rfl (wanted_none rfl) h82
    · intro w2 hb2 fr hout hin
      have h83 : fr.tmps.getD 83 undef = .bool true := hin 83 (by decide) (by decide)
      exact op_call0 rfl en_wakes (wanted_some (g := 30) (t := 83) (b := true) rfl rfl h83) (nwakes_v _) (fun _ _ h => h)
    · intro w2 hb2 fr hout hin
      have h83 : fr.tmps.getD 83 undef = .bool true := hin 83 (by decide) (by decide)
      have h84 : fr.tmps.getD 84 undef = .bool true := hin 84 (by decide) (by decide)
      exact relStep_pick (.tmp 83) (.tmp 84) (.const (.bool false)) rfl h83 (wanted_none rfl) h84
    · intro w2 hb2 fr hout hin
      have h85 : fr.tmps.getD 85 undef = .bool true := hin 85 (by decide) (by decide)
      exact relStep_assign (.tmp 85) rfl (wanted_none rfl) h85
  intro w5 hb5
  refine relAsk_in (by rfl) ?_
  intro v53 h53
  obtain rfl : v53 = .pointer (some ⟨w.heap.size, 0, none⟩) := h53
  refine relAsk_in (by rfl) ?_
  intro v54 h54
  refine relAsk_in (by rfl) ?_
  intro v55 h55
  refine relAsk_in (by rfl) ?_
  intro v56 h56
  obtain rfl : v56 = .pointer (some ⟨w.heap.size, 1, none⟩) := h56
  refine relAsk_in (by rfl) ?_
  intro v57 h57
  refine relAsk_in (by rfl) ?_
  intro v58 h58
  refine relAsk_in (by rfl) ?_
  intro v59 h59
  refine relAsk_in (by rfl) ?_
  intro v60 h60
  obtain rfl : v60 = .string (sOf (nb (nv p + nv q))) := h60
  refine relAsk_in (by rfl) ?_
  intro v61 h61
  refine relAsk_in (by rfl) ?_
  intro v62 h62
  refine relAsk_in (by rfl) ?_
  intro v63 h63
  refine relAsk_in (by rfl) ?_
  intro v64 h64
  refine relAsk_in (by rfl) ?_
  intro v65 h65
  obtain rfl : v65 = .string (sOf (nb (nv p + nv q))) := h65
  refine relAsk_in (by rfl) ?_
  intro v66 h66
  obtain rfl : v66 = .bool true := h66
  refine relAsk_in (by rfl) ?_
  intro v67 h67
  obtain rfl : v67 = .bool true := h67
  refine relAsk_in (by rfl) ?_
  intro v68 h68
  obtain rfl : v68 = .pointer (some ⟨w.heap.size, 0, none⟩) := h68
  refine relAsk_in (by rfl) ?_
  intro v69 h69
  refine relAsk_in (by rfl) ?_
  intro v70 h70
  refine relAsk_in (by rfl) ?_
  intro v71 h71
  obtain rfl : v71 = .pointer (some ⟨w.heap.size, 1, none⟩) := h71
  refine relAsk_in (by rfl) ?_
  intro v72 h72
  refine relAsk_in (by rfl) ?_
  intro v73 h73
  refine relAsk_in (by rfl) ?_
  intro v74 h74
  refine relAsk_in (by rfl) ?_
  intro v75 h75
  obtain rfl : v75 = .string (sOf (nb (nv p * nv q))) := h75
  refine relAsk_in (by rfl) ?_
  intro v76 h76
  refine relAsk_in (by rfl) ?_
  intro v77 h77
  refine relAsk_in (by rfl) ?_
  intro v78 h78
  refine relAsk_in (by rfl) ?_
  intro v79 h79
  refine relAsk_in (by rfl) ?_
  intro v80 h80
  obtain rfl : v80 = .string (sOf (nb (nv p * nv q))) := h80
  refine relAsk_in (by rfl) ?_
  intro v81 h81
  obtain rfl : v81 = .bool true := h81
  refine relAsk_in (by rfl) ?_
  intro v82 h82
  obtain rfl : v82 = .bool true := h82
  refine relAsk_in (by rfl) ?_
  intro v83 h83
  obtain rfl : v83 = .bool true := h83
  refine relAsk_in (by rfl) ?_
  intro v84 h84
  obtain rfl : v84 = .bool true := h84
  refine relAsk_in (by rfl) ?_
  intro v85 h85
  obtain rfl : v85 = .bool true := h85
  refine relAsk_in (by rfl) ?_
  intro v2 h2
  obtain rfl : v2 = .bool true := h2
  refine relAsk_nil ?_
  have RA := Lib.hid (RA.out.below hb5)
  have RB := Lib.hid (RB.out.below hb5)
  have RM := Lib.hid (RM.out.below hb5)
  have HX := Lib.hid (HX.out.below hb5)
  have HW := Lib.hid (HW.out.trans (hb5.mono HW.out.size))
  have H3 := Lib.hid (H3.out.below hb5)
  have H4 := Lib.hid (H4.out.below hb5)
  clear h54 h55 h57 h58 h59 h61 h62 h63 h64 h69 h70 h72 h73 h74 h76 h77 h78 h79 hb5
  refine wpList_nil ?_
  go_simp
  go_wp2_with fail
  go_ret
  exact ⟨rfl, HW.out⟩

theorem natSums_c {A B M : Option Addr} {ca cb cm : Nat} {i wide : Int} {xs ys zs : List Nat} (w : World) (hA : Rd .u8 w A ca xs) (dA : Ds 256 xs) (hB : Rd .u8 w B cb ys) (dB : Ds 256 ys) (hM : Rd .u8 w M cm zs) (dM : Ds 256 zs) :
    Calls Try.prog 12 #[.agg #[.slice A xs.length ca, .slice B ys.length cb, .slice M zs.length cm, .int .i64 i, .int .i64 wide]] w (RetV (.bool true) w) := by
  rcases Nat.lt_or_ge (nv (xs.take 600)) (nv (ys.take 600)) with h | h
  · exact sums_lt w hA dA hB dB hM dM h
  · exact sums_le w hA dA hB dB hM dM h
end Go.Proofs.Ytkalmmpgcgempaa
