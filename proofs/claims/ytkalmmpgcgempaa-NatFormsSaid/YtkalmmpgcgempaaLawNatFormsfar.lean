/- The law NatFormsfar, by the contracts of its callees. -/
import Derived.Test.YtkalmmpgcgempaaNForms
namespace Go.Proofs.Ytkalmmpgcgempaa
open Go.RowKit

set_option maxRecDepth 100000 in
set_option maxHeartbeats 12800000 in
theorem forms_far_neg {A B M : Option Addr} {ca cb cm : Nat} {j : Nat} {wide : Int} {xs ys zs : List Nat} (w : World) (hA : Rd .u8 w A ca xs) (dA : Ds 256 xs) (hB : Rd .u8 w B cb ys) (dB : Ds 256 ys) (hM : Rd .u8 w M cm zs) (dM : Ds 256 zs) (hj : 4808 ≤ j) (hj2 : j ≤ 9223372036854775807) (hn : wide < 0) :
    Calls Try.prog 11 #[.agg #[.slice A xs.length ca, .slice B ys.length cb, .slice M zs.length cm, .int .i64 (j : Nat), .int .i64 wide]] w (RetV (.bool true) w) := by
  obtain ⟨p, hp⟩ : ∃ zz, zz = xs.take 600 := ⟨_, rfl⟩
  have hlp : p.length ≤ 600 := by rw [hp, List.length_take]; omega
  have ffp : ∀ (w : World) {u : Value}, Byt w u xs → Calls Try.prog 75 #[u] w (RetR (fun w' v => Byt w' v p) w) := fun w u h => by rw [hp]; exact few_v w h
  have HLp := Lib.hid hlp
  have FFp := Lib.hid ffp
  have Hp := Lib.hid hp
  clear hlp ffp hp
  obtain ⟨q, hq⟩ : ∃ zz, zz = ys.take 600 := ⟨_, rfl⟩
  have hlq : q.length ≤ 600 := by rw [hq, List.length_take]; omega
  have ffq : ∀ (w : World) {u : Value}, Byt w u ys → Calls Try.prog 75 #[u] w (RetR (fun w' v => Byt w' v q) w) := fun w u h => by rw [hq]; exact few_v w h
  have HLq := Lib.hid hlq
  have FFq := Lib.hid ffq
  have Hq := Lib.hid hq
  clear hlq ffq hq
  have HJ := Lib.hid hj2
  have HJ8 := Lib.hid hj
  have K19 : Hid (∀ w, (binOp .geq 3 (.int .i64 (j : Nat)) (.int .i64 0)).run Try.prog w = .ok (.bool true) w) := fun w => by
    have h : (0 : Int) ≤ (j : Int) := by omega
    go_simp
  have K23 : Hid (∀ w, (binOp .lss 3 (.int .i64 (j : Nat)) (.int .i64 4808)).run Try.prog w = .ok (.bool false) w) := fun w => by
    have h : ¬ ((j : Int) < 4808) := by omega
    go_simp
  have HNO : Hid (wide < 0 ∨ 65536 < wide ∨ ∃ n : Nat, wide = n ∧ ¬ nv p < 256 ^ n) := .inl hn
  have K41 : Hid (∀ w, (binOp .geq 3 (.int .i64 wide) (.int .i64 0)).run Try.prog w = .ok (.bool false) w) := fun w => by
    have h : ¬ ((0 : Int) ≤ wide) := by omega
    go_simp
  clear hj hj2 hn
  obtain ⟨L, hL⟩ : ∃ L, L = xs.length := ⟨_, rfl⟩
  obtain ⟨K, hK⟩ : ∃ K, K = ys.length := ⟨_, rfl⟩
  obtain ⟨J, hJ⟩ : ∃ J, J = zs.length := ⟨_, rfl⟩
  have rA : Byt w (.slice A L ca) xs := ⟨A, ca, by rw [hL], hA, dA⟩
  have rB : Byt w (.slice B K cb) ys := ⟨B, cb, by rw [hK], hB, dB⟩
  have rM : Byt w (.slice M J cm) zs := ⟨M, cm, by rw [hJ], hM, dM⟩
  rw [← hL, ← hK, ← hJ]
  have hW := (Below.refl w.heap.size w).alloc (Nat.le_refl _) (.cells #[.slice A L ca, .slice B K cb, .slice M J cm, .int .i64 (j : Nat), .int .i64 wide] 51)
  have hx := Box5.new w (.slice A L ca) (.slice B K cb) (.slice M J cm) (.int .i64 (j : Nat)) (.int .i64 wide) 51
  have RA := Lib.hid (rA.below hW)
  have RB := Lib.hid (rB.below hW)
  have RM := Lib.hid (rM.below hW)
  have HX := Lib.hid hx
  have HW := Lib.hid hW
  clear hA dA hB dB hM dM hL hK hJ rA rB rM hW hx
  go_enter Try.func11, Try.ntmps11
  go_upto_region 1 with (fail)
  generalize hX : w.alloc (.cells #[.slice A L ca, .slice B K cb, .slice M J cm, .int .i64 (j : Nat), .int .i64 wide] 51) = X at *
  clear hX
  refine wp_region_seq 5 [9, 10, 11, 12, 3] [(9, .is (.pointer (some ⟨w.heap.size, 0, none⟩))), (10, .byt (xs)), (11, .byt (p)), (12, .num (nv p) 4096), (3, .num (nv p) 4096)] (by kernel_rfl) (by rfl) ?_ ?_
  · refine seeOps_cons ?_ (seeOps_cons ?_ (seeOps_cons ?_ (seeOps_cons ?_ (seeOps_cons ?_ seeOps_nil))))
    · intro w2 hb2 fr hout hin
      have h1 : fr.tmps.getD 1 undef = .pointer (some ⟨w.heap.size, 0, none⟩) := hout 1 (by decide)
      exact op_fieldN (.tmp 1) rfl (by decide) h1 (wanted_none rfl) rfl
    · intro w2 hb2 fr hout hin
      have h9 : fr.tmps.getD 9 undef = .pointer (some ⟨w.heap.size, 0, none⟩) := hin 9 (by decide) (by decide)
      exact op_load1 (.tmp 9) rfl (fun _ => by kernel_rfl) h9 ((HX.out.below hb2).c0) (wanted_none rfl) (RA.out.below hb2)
    · intro w2 hb2 fr hout hin
      have h10 : Byt w2 (fr.tmps.getD 10 undef) (xs) := hin 10 (by decide) (by decide)
      exact op_call1 (.tmp 10) rfl en_few (wanted_none rfl) (FFp.out _ h10) (fun _ _ h => h)
    · intro w2 hb2 fr hout hin
      have h11 : Byt w2 (fr.tmps.getD 11 undef) (p) := hin 11 (by decide) (by decide)
      exact op_call1 (.tmp 11) rfl en_from2 (wanted_none rfl) (from2_v _ h11 (by have := HLp.out; omega)) (fun _ _ h => h)
    · intro w2 hb2 fr hout hin
      have h12 : Num w2 (fr.tmps.getD 12 undef) (nv p) 4096 := hin 12 (by decide) (by decide)
      exact relStep_assign (.tmp 12) rfl (wanted_none rfl) h12
  intro w1 hb1
  refine relAsk_in (by rfl) ?_
  intro v9 h9
  obtain rfl : v9 = .pointer (some ⟨w.heap.size, 0, none⟩) := h9
  refine relAsk_in (by rfl) ?_
  intro v10 h10
  refine relAsk_in (by rfl) ?_
  intro v11 h11
  refine relAsk_in (by rfl) ?_
  intro v12 h12
  refine relAsk_in (by rfl) ?_
  intro v3 h3
  refine relAsk_nil ?_
  have RA := Lib.hid (RA.out.below hb1)
  have RB := Lib.hid (RB.out.below hb1)
  have RM := Lib.hid (RM.out.below hb1)
  have HX := Lib.hid (HX.out.below hb1)
  have HW := Lib.hid (HW.out.trans (hb1.mono HW.out.size))
  have H3 : Hid (Num w1 (v3) (nv p) 4096) := h3
  clear h10 h11 h12 h3 hb1
  refine wpList_nil ?_
  go_simp
  go_upto_region 2 with (fail)
  refine wp_region_seq 5 [13, 14, 15, 16, 4] [(13, .is (.pointer (some ⟨w.heap.size, 1, none⟩))), (14, .byt (ys)), (15, .byt (q)), (16, .num (nv q) 4096), (4, .num (nv q) 4096)] (by kernel_rfl) (by rfl) ?_ ?_
  · refine seeOps_cons ?_ (seeOps_cons ?_ (seeOps_cons ?_ (seeOps_cons ?_ (seeOps_cons ?_ seeOps_nil))))
    · intro w2 hb2 fr hout hin
      have h1 : fr.tmps.getD 1 undef = .pointer (some ⟨w.heap.size, 0, none⟩) := hout 1 (by decide)
      exact op_fieldN (.tmp 1) rfl (by decide) h1 (wanted_none rfl) rfl
    · intro w2 hb2 fr hout hin
      have h13 : fr.tmps.getD 13 undef = .pointer (some ⟨w.heap.size, 1, none⟩) := hin 13 (by decide) (by decide)
      exact op_load1 (.tmp 13) rfl (fun _ => by kernel_rfl) h13 ((HX.out.below hb2).c1) (wanted_none rfl) (RB.out.below hb2)
    · intro w2 hb2 fr hout hin
      have h14 : Byt w2 (fr.tmps.getD 14 undef) (ys) := hin 14 (by decide) (by decide)
      exact op_call1 (.tmp 14) rfl en_few (wanted_none rfl) (FFq.out _ h14) (fun _ _ h => h)
    · intro w2 hb2 fr hout hin
      have h15 : Byt w2 (fr.tmps.getD 15 undef) (q) := hin 15 (by decide) (by decide)
      exact op_call1 (.tmp 15) rfl en_from2 (wanted_none rfl) (from2_v _ h15 (by have := HLq.out; omega)) (fun _ _ h => h)
    · intro w2 hb2 fr hout hin
      have h16 : Num w2 (fr.tmps.getD 16 undef) (nv q) 4096 := hin 16 (by decide) (by decide)
      exact relStep_assign (.tmp 16) rfl (wanted_none rfl) h16
  intro w2 hb2
  refine relAsk_in (by rfl) ?_
  intro v13 h13
  obtain rfl : v13 = .pointer (some ⟨w.heap.size, 1, none⟩) := h13
  refine relAsk_in (by rfl) ?_
  intro v14 h14
  refine relAsk_in (by rfl) ?_
  intro v15 h15
  refine relAsk_in (by rfl) ?_
  intro v16 h16
  refine relAsk_in (by rfl) ?_
  intro v4 h4
  refine relAsk_nil ?_
  have RA := Lib.hid (RA.out.below hb2)
  have RB := Lib.hid (RB.out.below hb2)
  have RM := Lib.hid (RM.out.below hb2)
  have HX := Lib.hid (HX.out.below hb2)
  have HW := Lib.hid (HW.out.trans (hb2.mono HW.out.size))
  have H3 := Lib.hid (H3.out.below hb2)
  have H4 : Hid (Num w2 (v4) (nv q) 4096) := h4
  clear h14 h15 h16 h4 hb2
  refine wpList_nil ?_
  go_simp
  go_upto_region 4 with (fail)
  refine wp_region_seq 8 [17, 18, 19, 20, 21, 22, 23, 24] [(17, .is (.pointer (some ⟨w.heap.size, 3, none⟩))), (18, .is (.int .i64 (j : Nat))), (19, .is (.bool true)), (20, .is (.bool true)), (21, .is (.pointer (some ⟨w.heap.size, 3, none⟩))), (22, .is (.int .i64 (j : Nat))), (23, .is (.bool false)), (24, .is (.bool false))] (by kernel_rfl) (by rfl) ?_ ?_
  · refine seeOps_cons ?_ (seeOps_cons ?_ (seeOps_cons ?_ (seeOps_cons ?_ (seeOps_cons ?_ (seeOps_cons ?_ (seeOps_cons ?_ (seeOps_cons ?_ seeOps_nil)))))))
    · intro w2 hb2 fr hout hin
      have h1 : fr.tmps.getD 1 undef = .pointer (some ⟨w.heap.size, 0, none⟩) := hout 1 (by decide)
      exact op_fieldN (.tmp 1) rfl (by decide) h1 (wanted_none rfl) rfl
    · intro w2 hb2 fr hout hin
      have h17 : fr.tmps.getD 17 undef = .pointer (some ⟨w.heap.size, 3, none⟩) := hin 17 (by decide) (by decide)
      exact op_load1 (.tmp 17) rfl (fun _ => by kernel_rfl) h17 ((HX.out.below hb2).c3) (wanted_none rfl) (rfl)
    · intro w2 hb2 fr hout hin
      have h18 : fr.tmps.getD 18 undef = .int .i64 (j : Nat) := hin 18 (by decide) (by decide)
      exact op_cmp .geq (.tmp 18) (.const (.int .i64 0)) _ rfl h18 rfl (K19.out) (wanted_none rfl) rfl
    · intro w2 hb2 fr hout hin
      have h19 : fr.tmps.getD 19 undef = .bool true := hin 19 (by decide) (by decide)
      exact relStep_move (.tmp 19) rfl (wanted_none rfl) h19
    · intro w2 hb2 fr hout hin
      have h20 : fr.tmps.getD 20 undef = .bool true := hin 20 (by decide) (by decide)
      have h1 : fr.tmps.getD 1 undef = .pointer (some ⟨w.heap.size, 0, none⟩) := hout 1 (by decide)
      exact op_fieldN (.tmp 1) rfl (by decide) h1 (wanted_some (g := 3) (t := 20) (b := true) rfl rfl h20) rfl
    · intro w2 hb2 fr hout hin
      have h20 : fr.tmps.getD 20 undef = .bool true := hin 20 (by decide) (by decide)
      have h21 : fr.tmps.getD 21 undef = .pointer (some ⟨w.heap.size, 3, none⟩) := hin 21 (by decide) (by decide)
      exact op_load1 (.tmp 21) rfl (fun _ => by kernel_rfl) h21 ((HX.out.below hb2).c3) (wanted_some (g := 3) (t := 20) (b := true) rfl rfl h20) (rfl)
    · intro w2 hb2 fr hout hin
      have h20 : fr.tmps.getD 20 undef = .bool true := hin 20 (by decide) (by decide)
      have h22 : fr.tmps.getD 22 undef = .int .i64 (j : Nat) := hin 22 (by decide) (by decide)
      exact op_cmp .lss (.tmp 22) (.const (.int .i64 4808)) _ rfl h22 rfl (K23.out) (wanted_some (g := 3) (t := 20) (b := true) rfl rfl h20) rfl
    · intro w2 hb2 fr hout hin
      have h20 : fr.tmps.getD 20 undef = .bool true := hin 20 (by decide) (by decide)
      have h23 : fr.tmps.getD 23 undef = .bool false := hin 23 (by decide) (by decide)
      exact relStep_pick (.tmp 20) (.tmp 23) (.const (.bool false)) rfl h20 (wanted_none rfl) h23
  intro w3 hb3
  refine relAsk_in (by rfl) ?_
  intro v17 h17
  obtain rfl : v17 = .pointer (some ⟨w.heap.size, 3, none⟩) := h17
  refine relAsk_in (by rfl) ?_
  intro v18 h18
  obtain rfl : v18 = .int .i64 (j : Nat) := h18
  refine relAsk_in (by rfl) ?_
  intro v19 h19
  obtain rfl : v19 = .bool true := h19
  refine relAsk_in (by rfl) ?_
  intro v20 h20
  obtain rfl : v20 = .bool true := h20
  refine relAsk_in (by rfl) ?_
  intro v21 h21
  obtain rfl : v21 = .pointer (some ⟨w.heap.size, 3, none⟩) := h21
  refine relAsk_in (by rfl) ?_
  intro v22 h22
  obtain rfl : v22 = .int .i64 (j : Nat) := h22
  refine relAsk_in (by rfl) ?_
  intro v23 h23
  obtain rfl : v23 = .bool false := h23
  refine relAsk_in (by rfl) ?_
  intro v24 h24
  obtain rfl : v24 = .bool false := h24
  refine relAsk_nil ?_
  have RA := Lib.hid (RA.out.below hb3)
  have RB := Lib.hid (RB.out.below hb3)
  have RM := Lib.hid (RM.out.below hb3)
  have HX := Lib.hid (HX.out.below hb3)
  have HW := Lib.hid (HW.out.trans (hb3.mono HW.out.size))
  have H3 := Lib.hid (H3.out.below hb3)
  have H4 := Lib.hid (H4.out.below hb3)
  clear hb3
  refine wpList_nil ?_
  go_simp
  go_upto_region 6 with (fail)
  refine wp_region_see 11 [31, 32, 33, 34, 35, 36, 30, 37, 38, 6, 7] [(31, .is (.pointer (some ⟨w.heap.size, 0, none⟩))), (32, .byt (xs)), (33, .byt (p)), (34, .is (.pointer (some ⟨w.heap.size, 4, none⟩))), (35, .is (.int .i64 wide)), (36, .is (.tuple #[.slice none 0 0, .bool false])), (30, .is (.tuple #[.slice none 0 0, .bool false])), (37, .is (.slice none 0 0)), (38, .is (.bool false)), (6, .is (.slice none 0 0)), (7, .is (.bool false))] (by kernel_rfl) (by kernel_rfl) (by rfl) ?_ ?_
  · refine seeOps_cons ?_ (seeOps_cons ?_ (seeOps_cons ?_ (seeOps_cons ?_ (seeOps_cons ?_ (seeOps_cons ?_ (seeOps_cons ?_ (seeOps_cons ?_ (seeOps_cons ?_ (seeOps_cons ?_ (seeOps_cons ?_ seeOps_nil))))))))))
    · intro w2 hb2 fr hout hin
      have h1 : fr.tmps.getD 1 undef = .pointer (some ⟨w.heap.size, 0, none⟩) := hout 1 (by decide)
      exact op_fieldN (.tmp 1) rfl (by decide) h1 (wanted_none rfl) rfl
    · intro w2 hb2 fr hout hin
      have h31 : fr.tmps.getD 31 undef = .pointer (some ⟨w.heap.size, 0, none⟩) := hin 31 (by decide) (by decide)
      exact op_load1 (.tmp 31) rfl (fun _ => by kernel_rfl) h31 ((HX.out.below hb2).c0) (wanted_none rfl) (RA.out.below hb2)
    · intro w2 hb2 fr hout hin
      have h32 : Byt w2 (fr.tmps.getD 32 undef) (xs) := hin 32 (by decide) (by decide)
      exact op_call1 (.tmp 32) rfl en_few (wanted_none rfl) (FFp.out _ h32) (fun _ _ h => h)
    · intro w2 hb2 fr hout hin
      have h1 : fr.tmps.getD 1 undef = .pointer (some ⟨w.heap.size, 0, none⟩) := hout 1 (by decide)
      exact op_fieldN (.tmp 1) rfl (by decide) h1 (wanted_none rfl) rfl
    · intro w2 hb2 fr hout hin
      have h34 : fr.tmps.getD 34 undef = .pointer (some ⟨w.heap.size, 4, none⟩) := hin 34 (by decide) (by decide)
      exact op_load1 (.tmp 34) rfl (fun _ => by kernel_rfl) h34 ((HX.out.below hb2).c4) (wanted_none rfl) (rfl)
    · intro w2 hb2 fr hout hin
      have h33 : Byt w2 (fr.tmps.getD 33 undef) (p) := hin 33 (by decide) (by decide)
      have h35 : fr.tmps.getD 35 undef = .int .i64 wide := hin 35 (by decide) (by decide)
      exact op_call2 (.tmp 33) (.tmp 35) rfl en_fill (wanted_none rfl) (by
        show Calls _ _ #[fr.tmps.getD 33 undef, fr.tmps.getD 35 undef] _ _
        rw [h35]; exact (fillno_v _ h33 (by have := HLp.out; omega) _ HNO.out)) (fun _ _ h => h)
    · intro w2 hb2 fr hout hin
      have h36 : fr.tmps.getD 36 undef = .tuple #[.slice none 0 0, .bool false] := hin 36 (by decide) (by decide)
      exact relStep_move (.tmp 36) rfl (wanted_none rfl) h36
    · intro w2 hb2 fr hout hin
      have h30 : fr.tmps.getD 30 undef = .tuple #[.slice none 0 0, .bool false] := hin 30 (by decide) (by decide)
      exact op_ext (.tmp 30) 0 rfl h30 rfl (wanted_none rfl) rfl
    · intro w2 hb2 fr hout hin
      have h30 : fr.tmps.getD 30 undef = .tuple #[.slice none 0 0, .bool false] := hin 30 (by decide) (by decide)
      exact op_ext (.tmp 30) 1 rfl h30 rfl (wanted_none rfl) rfl
    · intro w2 hb2 fr hout hin
      have h37 : fr.tmps.getD 37 undef = .slice none 0 0 := hin 37 (by decide) (by decide)
      exact relStep_assign (.tmp 37) rfl (wanted_none rfl) h37
    · intro w2 hb2 fr hout hin
      have h38 : fr.tmps.getD 38 undef = .bool false := hin 38 (by decide) (by decide)
      exact relStep_assign (.tmp 38) rfl (wanted_none rfl) h38
  intro w4 hb4
  refine relAsk_in (by rfl) ?_
  intro v31 h31
  obtain rfl : v31 = .pointer (some ⟨w.heap.size, 0, none⟩) := h31
  refine relAsk_in (by rfl) ?_
  intro v32 h32
  refine relAsk_in (by rfl) ?_
  intro v33 h33
  refine relAsk_in (by rfl) ?_
  intro v34 h34
  obtain rfl : v34 = .pointer (some ⟨w.heap.size, 4, none⟩) := h34
  refine relAsk_in (by rfl) ?_
  intro v35 h35
  obtain rfl : v35 = .int .i64 wide := h35
  refine relAsk_in (by rfl) ?_
  intro v36 h36
  obtain rfl : v36 = .tuple #[.slice none 0 0, .bool false] := h36
  refine relAsk_in (by rfl) ?_
  intro v30 h30
  obtain rfl : v30 = .tuple #[.slice none 0 0, .bool false] := h30
  refine relAsk_in (by rfl) ?_
  intro v37 h37
  obtain rfl : v37 = .slice none 0 0 := h37
  refine relAsk_in (by rfl) ?_
  intro v38 h38
  obtain rfl : v38 = .bool false := h38
  refine relAsk_in (by rfl) ?_
  intro v6 h6
  obtain rfl : v6 = .slice none 0 0 := h6
  refine relAsk_in (by rfl) ?_
  intro v7 h7
  obtain rfl : v7 = .bool false := h7
  refine relAsk_nil ?_
  have RA := Lib.hid (RA.out.below hb4)
  have RB := Lib.hid (RB.out.below hb4)
  have RM := Lib.hid (RM.out.below hb4)
  have HX := Lib.hid (HX.out.below hb4)
  have HW := Lib.hid (HW.out.trans (hb4.mono HW.out.size))
  have H3 := Lib.hid (H3.out.below hb4)
  have H4 := Lib.hid (H4.out.below hb4)
  clear h32 h33 hb4
  refine wpList_nil ?_
  go_simp
  go_upto_region 7 with (fail)
  refine wp_region_see 17 [39, 40, 41, 42, 43, 44, 45, 46, 47, 48, 49, 50, 51, 52, 53, 54, 8] [(39, .is (.pointer (some ⟨w.heap.size, 4, none⟩))), (40, .is (.int .i64 wide)), (41, .is (.bool false)), (42, .is (.bool false)), (43, .any), (44, .any), (45, .any), (46, .is (.bool false)), (47, .is (.bool false)), (48, .any), (49, .any), (50, .any), (51, .any), (52, .any), (53, .any), (54, .is (.bool false)), (8, .is (.bool false))] (by kernel_rfl) (by kernel_rfl) (by rfl) ?_ ?_
  · refine seeOps_cons ?_ (seeOps_cons ?_ (seeOps_cons ?_ (seeOps_cons ?_ (seeOps_cons ?_ (seeOps_cons ?_ (seeOps_cons ?_ (seeOps_cons ?_ (seeOps_cons ?_ (seeOps_cons ?_ (seeOps_cons ?_ (seeOps_cons ?_ (seeOps_cons ?_ (seeOps_cons ?_ (seeOps_cons ?_ (seeOps_cons ?_ (seeOps_cons ?_ seeOps_nil))))))))))))))))
    · intro w2 hb2 fr hout hin
      have h1 : fr.tmps.getD 1 undef = .pointer (some ⟨w.heap.size, 0, none⟩) := hout 1 (by decide)
      exact op_fieldN (.tmp 1) rfl (by decide) h1 (wanted_none rfl) rfl
    · intro w2 hb2 fr hout hin
      have h39 : fr.tmps.getD 39 undef = .pointer (some ⟨w.heap.size, 4, none⟩) := hin 39 (by decide) (by decide)
      exact op_load1 (.tmp 39) rfl (fun _ => by kernel_rfl) h39 ((HX.out.below hb2).c4) (wanted_none rfl) (rfl)
    · intro w2 hb2 fr hout hin
      have h40 : fr.tmps.getD 40 undef = .int .i64 wide := hin 40 (by decide) (by decide)
      exact op_cmp .geq (.tmp 40) (.const (.int .i64 0)) _ rfl h40 rfl (K41.out) (wanted_none rfl) rfl
    · intro w2 hb2 fr hout hin
      have h41 : fr.tmps.getD 41 undef = .bool false := hin 41 (by decide) (by decide)
      exact relStep_move (.tmp 41) rfl (wanted_none rfl) h41
    · intro w2 hb2 fr hout hin
      have h42 : fr.tmps.getD 42 undef = .bool false := hin 42 (by decide) (by decide)
      exact relStep_skip (wanted_not rfl rfl h42 rfl) trivial
    · intro w2 hb2 fr hout hin
      have h42 : fr.tmps.getD 42 undef = .bool false := hin 42 (by decide) (by decide)
      exact relStep_skip (wanted_not rfl rfl h42 rfl) trivial
    · intro w2 hb2 fr hout hin
      have h42 : fr.tmps.getD 42 undef = .bool false := hin 42 (by decide) (by decide)
      exact relStep_skip (wanted_not rfl rfl h42 rfl) trivial
    · intro w2 hb2 fr hout hin
      have h42 : fr.tmps.getD 42 undef = .bool false := hin 42 (by decide) (by decide)
      exact relStep_pickF (.tmp 42) (.tmp 45) (.const (.bool false)) rfl h42 (wanted_none rfl) rfl
    · intro w2 hb2 fr hout hin
      have h46 : fr.tmps.getD 46 undef = .bool false := hin 46 (by decide) (by decide)
      exact relStep_move (.tmp 46) rfl (wanted_none rfl) h46
    · intro w2 hb2 fr hout hin
      have h47 : fr.tmps.getD 47 undef = .bool false := hin 47 (by decide) (by decide)
      exact relStep_skip (wanted_not rfl rfl h47 rfl) trivial
    · intro w2 hb2 fr hout hin
      have h47 : fr.tmps.getD 47 undef = .bool false := hin 47 (by decide) (by decide)
      exact relStep_skip (wanted_not rfl rfl h47 rfl) trivial
    · intro w2 hb2 fr hout hin
      have h47 : fr.tmps.getD 47 undef = .bool false := hin 47 (by decide) (by decide)
      exact relStep_skip (wanted_not rfl rfl h47 rfl) trivial
    · intro w2 hb2 fr hout hin
      have h47 : fr.tmps.getD 47 undef = .bool false := hin 47 (by decide) (by decide)
      exact relStep_skip (wanted_not rfl rfl h47 rfl) trivial
    · intro w2 hb2 fr hout hin
      have h47 : fr.tmps.getD 47 undef = .bool false := hin 47 (by decide) (by decide)
      exact relStep_skip (wanted_not rfl rfl h47 rfl) trivial
    · intro w2 hb2 fr hout hin
      have h47 : fr.tmps.getD 47 undef = .bool false := hin 47 (by decide) (by decide)
      exact relStep_skip (wanted_not rfl rfl h47 rfl) trivial
    · intro w2 hb2 fr hout hin
      have h47 : fr.tmps.getD 47 undef = .bool false := hin 47 (by decide) (by decide)
      exact relStep_pickF (.tmp 47) (.tmp 53) (.const (.bool false)) rfl h47 (wanted_none rfl) rfl
    · intro w2 hb2 fr hout hin
      have h54 : fr.tmps.getD 54 undef = .bool false := hin 54 (by decide) (by decide)
      exact relStep_assign (.tmp 54) rfl (wanted_none rfl) h54
  intro w5 hb5
  refine relAsk_in (by rfl) ?_
  intro v39 h39
  obtain rfl : v39 = .pointer (some ⟨w.heap.size, 4, none⟩) := h39
  refine relAsk_in (by rfl) ?_
  intro v40 h40
  obtain rfl : v40 = .int .i64 wide := h40
  refine relAsk_in (by rfl) ?_
  intro v41 h41
  obtain rfl : v41 = .bool false := h41
  refine relAsk_in (by rfl) ?_
  intro v42 h42
  obtain rfl : v42 = .bool false := h42
  refine relAsk_in (by rfl) ?_
  intro v43 h43
  clear h43
  refine relAsk_in (by rfl) ?_
  intro v44 h44
  clear h44
  refine relAsk_in (by rfl) ?_
  intro v45 h45
  clear h45
  refine relAsk_in (by rfl) ?_
  intro v46 h46
  obtain rfl : v46 = .bool false := h46
  refine relAsk_in (by rfl) ?_
  intro v47 h47
  obtain rfl : v47 = .bool false := h47
  refine relAsk_in (by rfl) ?_
  intro v48 h48
  clear h48
  refine relAsk_in (by rfl) ?_
  intro v49 h49
  clear h49
  refine relAsk_in (by rfl) ?_
  intro v50 h50
  clear h50
  refine relAsk_in (by rfl) ?_
  intro v51 h51
  clear h51
  refine relAsk_in (by rfl) ?_
  intro v52 h52
  clear h52
  refine relAsk_in (by rfl) ?_
  intro v53 h53
  clear h53
  refine relAsk_in (by rfl) ?_
  intro v54 h54
  obtain rfl : v54 = .bool false := h54
  refine relAsk_in (by rfl) ?_
  intro v8 h8
  obtain rfl : v8 = .bool false := h8
  refine relAsk_nil ?_
  have RA := Lib.hid (RA.out.below hb5)
  have RB := Lib.hid (RB.out.below hb5)
  have RM := Lib.hid (RM.out.below hb5)
  have HX := Lib.hid (HX.out.below hb5)
  have HW := Lib.hid (HW.out.trans (hb5.mono HW.out.size))
  have H3 := Lib.hid (H3.out.below hb5)
  have H4 := Lib.hid (H4.out.below hb5)
  clear hb5
  refine wpList_nil ?_
  go_simp
  go_upto_region 8 with (fail)
  refine wp_region_see 25 [55, 56, 57, 58, 59, 60, 61, 62, 63, 64, 65, 66, 67, 68, 69, 70, 71, 72, 73, 74, 75, 76, 77, 78, 79] [(55, .is (.bool false)), (56, .is (.bool false)), (57, .is (.bool false)), (58, .is (.bool false)), (59, .is (.bool false)), (60, .is (.bool false)), (61, .any), (62, .any), (63, .any), (64, .any), (65, .any), (66, .any), (67, .any), (68, .any), (69, .is (.bool false)), (70, .is (.bool false)), (71, .is (.bool false)), (72, .is (.bool false)), (73, .is (.bool true)), (74, .is (.bool true)), (75, .is (.slice none 0 0)), (76, .is (.int .i64 0)), (77, .is (.bool false)), (78, .is (.bool false)), (79, .is (.bool false))] (by kernel_rfl) (by kernel_rfl) (by rfl) ?_ ?_
  · refine seeOps_cons ?_ (seeOps_cons ?_ (seeOps_cons ?_ (seeOps_cons ?_ (seeOps_cons ?_ (seeOps_cons ?_ (seeOps_cons ?_ (seeOps_cons ?_ (seeOps_cons ?_ (seeOps_cons ?_ (seeOps_cons ?_ (seeOps_cons ?_ (seeOps_cons ?_ (seeOps_cons ?_ (seeOps_cons ?_ (seeOps_cons ?_ (seeOps_cons ?_ (seeOps_cons ?_ (seeOps_cons ?_ (seeOps_cons ?_ (seeOps_cons ?_ (seeOps_cons ?_ (seeOps_cons ?_ (seeOps_cons ?_ (seeOps_cons ?_ seeOps_nil))))))))))))))))))))))))
    · intro w2 hb2 fr hout hin
      have h7 : fr.tmps.getD 7 undef = .bool false := hout 7 (by decide)
      exact relStep_move (.tmp 7) rfl (wanted_none rfl) h7
    · intro w2 hb2 fr hout hin
      have h8 : fr.tmps.getD 8 undef = .bool false := hout 8 (by decide)
      exact relStep_move (.tmp 8) rfl (wanted_none rfl) h8
    · intro w2 hb2 fr hout hin
      have h55 : fr.tmps.getD 55 undef = .bool false := hin 55 (by decide) (by decide)
      have h56 : fr.tmps.getD 56 undef = .bool false := hin 56 (by decide) (by decide)
      exact op_neB (.tmp 55) (.tmp 56) _ rfl h55 h56 (wanted_none rfl) rfl
    · intro w2 hb2 fr hout hin
      have h57 : fr.tmps.getD 57 undef = .bool false := hin 57 (by decide) (by decide)
      exact relStep_move (.tmp 57) rfl (wanted_none rfl) h57
    · intro w2 hb2 fr hout hin
      have h58 : fr.tmps.getD 58 undef = .bool false := hin 58 (by decide) (by decide)
      have h8 : fr.tmps.getD 8 undef = .bool false := hout 8 (by decide)
      exact relStep_move (.tmp 8) rfl (wanted_some (g := 3) (t := 58) (b := false) rfl rfl h58) h8
    · intro w2 hb2 fr hout hin
      have h58 : fr.tmps.getD 58 undef = .bool false := hin 58 (by decide) (by decide)
      have h59 : fr.tmps.getD 59 undef = .bool false := hin 59 (by decide) (by decide)
      exact relStep_move (.tmp 59) rfl (wanted_some (g := 3) (t := 58) (b := false) rfl rfl h58) h59
    · intro w2 hb2 fr hout hin
      have h60 : fr.tmps.getD 60 undef = .bool false := hin 60 (by decide) (by decide)
      exact relStep_skip (wanted_not rfl rfl h60 rfl) trivial
    · intro w2 hb2 fr hout hin
      have h60 : fr.tmps.getD 60 undef = .bool false := hin 60 (by decide) (by decide)
      exact relStep_skip (wanted_not rfl rfl h60 rfl) trivial
    · intro w2 hb2 fr hout hin
      have h60 : fr.tmps.getD 60 undef = .bool false := hin 60 (by decide) (by decide)
      exact relStep_skip (wanted_not rfl rfl h60 rfl) trivial
    · intro w2 hb2 fr hout hin
      have h60 : fr.tmps.getD 60 undef = .bool false := hin 60 (by decide) (by decide)
      exact relStep_skip (wanted_not rfl rfl h60 rfl) trivial
    · intro w2 hb2 fr hout hin
      have h60 : fr.tmps.getD 60 undef = .bool false := hin 60 (by decide) (by decide)
      exact relStep_skip (wanted_not rfl rfl h60 rfl) trivial
    · intro w2 hb2 fr hout hin
      have h60 : fr.tmps.getD 60 undef = .bool false := hin 60 (by decide) (by decide)
      exact relStep_skip (wanted_not rfl rfl h60 rfl) trivial
    · intro w2 hb2 fr hout hin
      have h60 : fr.tmps.getD 60 undef = .bool false := hin 60 (by decide) (by decide)
      exact relStep_skip (wanted_not rfl rfl h60 rfl) trivial
    · intro w2 hb2 fr hout hin
      have h60 : fr.tmps.getD 60 undef = .bool false := hin 60 (by decide) (by decide)
      exact relStep_skip (wanted_not rfl rfl h60 rfl) trivial
    · intro w2 hb2 fr hout hin
      have h58 : fr.tmps.getD 58 undef = .bool false := hin 58 (by decide) (by decide)
      have h60 : fr.tmps.getD 60 undef = .bool false := hin 60 (by decide) (by decide)
      exact relStep_pickF (.tmp 60) (.tmp 68) (.const (.bool false)) rfl h60 (wanted_some (g := 3) (t := 58) (b := false) rfl rfl h58) rfl
    · intro w2 hb2 fr hout hin
      have h58 : fr.tmps.getD 58 undef = .bool false := hin 58 (by decide) (by decide)
      have h69 : fr.tmps.getD 69 undef = .bool false := hin 69 (by decide) (by decide)
      exact relStep_pickF (.tmp 58) (.const (.bool true)) (.tmp 69) rfl h58 (wanted_none rfl) h69
    · intro w2 hb2 fr hout hin
      have h70 : fr.tmps.getD 70 undef = .bool false := hin 70 (by decide) (by decide)
      exact relStep_move (.tmp 70) rfl (wanted_none rfl) h70
    · intro w2 hb2 fr hout hin
      have h71 : fr.tmps.getD 71 undef = .bool false := hin 71 (by decide) (by decide)
      have h8 : fr.tmps.getD 8 undef = .bool false := hout 8 (by decide)
      exact relStep_move (.tmp 8) rfl (wanted_some (g := 16) (t := 71) (b := false) rfl rfl h71) h8
    · intro w2 hb2 fr hout hin
      have h71 : fr.tmps.getD 71 undef = .bool false := hin 71 (by decide) (by decide)
      have h72 : fr.tmps.getD 72 undef = .bool false := hin 72 (by decide) (by decide)
      exact op_not (.tmp 72) _ rfl h72 (wanted_some (g := 16) (t := 71) (b := false) rfl rfl h71) rfl
    · intro w2 hb2 fr hout hin
      have h71 : fr.tmps.getD 71 undef = .bool false := hin 71 (by decide) (by decide)
      have h73 : fr.tmps.getD 73 undef = .bool true := hin 73 (by decide) (by decide)
      exact relStep_move (.tmp 73) rfl (wanted_some (g := 16) (t := 71) (b := false) rfl rfl h71) h73
    · intro w2 hb2 fr hout hin
      have h74 : fr.tmps.getD 74 undef = .bool true := hin 74 (by decide) (by decide)
      have h6 : fr.tmps.getD 6 undef = .slice none 0 0 := hout 6 (by decide)
      exact relStep_move (.tmp 6) rfl (wanted_some (g := 19) (t := 74) (b := true) rfl rfl h74) h6
    · intro w2 hb2 fr hout hin
      have h74 : fr.tmps.getD 74 undef = .bool true := hin 74 (by decide) (by decide)
      have h75 : fr.tmps.getD 75 undef = .slice none 0 0 := hin 75 (by decide) (by decide)
      exact op_len (bs := (([] : List Nat))) (.tmp 75) rfl (by show Byt _ (fr.tmps.getD 75 undef) []; rw [h75]; exact Byt.nil _) (wanted_some (g := 19) (t := 74) (b := true) rfl rfl h74) rfl
    · intro w2 hb2 fr hout hin
      have h74 : fr.tmps.getD 74 undef = .bool true := hin 74 (by decide) (by decide)
      have h76 : fr.tmps.getD 76 undef = .int .i64 0 := hin 76 (by decide) (by decide)
      exact op_cmp .neq (.tmp 76) (.const (.int .i64 0)) _ rfl h76 rfl (fun w => by go_simp) (wanted_some (g := 19) (t := 74) (b := true) rfl rfl h74) rfl
    · intro w2 hb2 fr hout hin
      have h71 : fr.tmps.getD 71 undef = .bool false := hin 71 (by decide) (by decide)
      have h74 : fr.tmps.getD 74 undef = .bool true := hin 74 (by decide) (by decide)
      have h77 : fr.tmps.getD 77 undef = .bool false := hin 77 (by decide) (by decide)
      exact relStep_pick (.tmp 74) (.tmp 77) (.const (.bool false)) rfl h74 (wanted_some (g := 16) (t := 71) (b := false) rfl rfl h71) h77
    · intro w2 hb2 fr hout hin
      have h71 : fr.tmps.getD 71 undef = .bool false := hin 71 (by decide) (by decide)
      have h78 : fr.tmps.getD 78 undef = .bool false := hin 78 (by decide) (by decide)
      exact relStep_pickF (.tmp 71) (.const (.bool true)) (.tmp 78) rfl h71 (wanted_none rfl) h78
  intro w6 hb6
  refine relAsk_in (by rfl) ?_
  intro v55 h55
  obtain rfl : v55 = .bool false := h55
  refine relAsk_in (by rfl) ?_
  intro v56 h56
  obtain rfl : v56 = .bool false := h56
  refine relAsk_in (by rfl) ?_
  intro v57 h57
  obtain rfl : v57 = .bool false := h57
  refine relAsk_in (by rfl) ?_
  intro v58 h58
  obtain rfl : v58 = .bool false := h58
  refine relAsk_in (by rfl) ?_
  intro v59 h59
  obtain rfl : v59 = .bool false := h59
  refine relAsk_in (by rfl) ?_
  intro v60 h60
  obtain rfl : v60 = .bool false := h60
  refine relAsk_in (by rfl) ?_
  intro v61 h61
  clear h61
  refine relAsk_in (by rfl) ?_
  intro v62 h62
  clear h62
  refine relAsk_in (by rfl) ?_
  intro v63 h63
  clear h63
  refine relAsk_in (by rfl) ?_
  intro v64 h64
  clear h64
  refine relAsk_in (by rfl) ?_
  intro v65 h65
  clear h65
  refine relAsk_in (by rfl) ?_
  intro v66 h66
  clear h66
  refine relAsk_in (by rfl) ?_
  intro v67 h67
  clear h67
  refine relAsk_in (by rfl) ?_
  intro v68 h68
  clear h68
  refine relAsk_in (by rfl) ?_
  intro v69 h69
  obtain rfl : v69 = .bool false := h69
  refine relAsk_in (by rfl) ?_
  intro v70 h70
  obtain rfl : v70 = .bool false := h70
  refine relAsk_in (by rfl) ?_
  intro v71 h71
  obtain rfl : v71 = .bool false := h71
  refine relAsk_in (by rfl) ?_
  intro v72 h72
  obtain rfl : v72 = .bool false := h72
  refine relAsk_in (by rfl) ?_
  intro v73 h73
  obtain rfl : v73 = .bool true := h73
  refine relAsk_in (by rfl) ?_
  intro v74 h74
  obtain rfl : v74 = .bool true := h74
  refine relAsk_in (by rfl) ?_
  intro v75 h75
  obtain rfl : v75 = .slice none 0 0 := h75
  refine relAsk_in (by rfl) ?_
  intro v76 h76
  obtain rfl : v76 = .int .i64 0 := h76
  refine relAsk_in (by rfl) ?_
  intro v77 h77
  obtain rfl : v77 = .bool false := h77
  refine relAsk_in (by rfl) ?_
  intro v78 h78
  obtain rfl : v78 = .bool false := h78
  refine relAsk_in (by rfl) ?_
  intro v79 h79
  obtain rfl : v79 = .bool false := h79
  refine relAsk_nil ?_
  have RA := Lib.hid (RA.out.below hb6)
  have RB := Lib.hid (RB.out.below hb6)
  have RM := Lib.hid (RM.out.below hb6)
  have HX := Lib.hid (HX.out.below hb6)
  have HW := Lib.hid (HW.out.trans (hb6.mono HW.out.size))
  have H3 := Lib.hid (H3.out.below hb6)
  have H4 := Lib.hid (H4.out.below hb6)
  clear hb6
  refine wpList_nil ?_
  go_simp
  go_upto_region 10 with (fail)
  refine wp_region_see 45 [80, 81, 82, 83, 84, 85, 86, 87, 88, 89, 90, 91, 92, 93, 94, 95, 96, 97, 98, 99, 100, 101, 102, 103, 104, 105, 106, 107, 108, 109, 110, 111, 112, 113, 114, 115, 116, 117, 118, 119, 120, 121, 122, 123, 2] [(80, .is (.pointer (some ⟨w.heap.size, 0, none⟩))), (81, .byt (xs)), (82, .byt (p)), (83, .byt (nb (nv p))), (84, .is (.string (sOf (nb (nv p))))), (85, .num (nv p) 4096), (86, .byt (nb (nv p))), (87, .is (.string (sOf (nb (nv p))))), (88, .is (.bool true)), (89, .is (.bool true)), (90, .is (.pointer (some ⟨w.heap.size, 0, none⟩))), (91, .byt (xs)), (92, .byt (p)), (93, .is (.pointer (some ⟨w.heap.size, 1, none⟩))), (94, .byt (ys)), (95, .byt (q)), (96, .is (.int .i64 (ordI (nv p) (nv q)))), (97, .num (nv p) 4096), (98, .num (nv q) 4096), (99, .is (.int .i64 (ordI (nv p) (nv q)))), (100, .is (.bool true)), (101, .is (.bool true)), (102, .is (.bool true)), (103, .is (.pointer (some ⟨w.heap.size, 0, none⟩))), (104, .byt (xs)), (105, .byt (p)), (106, .is (.int .i64 ((blen (nv p) : Nat) : Int))), (107, .num (nv p) 4096), (108, .is (.int .i64 ((blen (nv p) : Nat) : Int))), (109, .is (.bool true)), (110, .is (.bool true)), (111, .is (.bool true)), (112, .is (.pointer (some ⟨w.heap.size, 0, none⟩))), (113, .byt (xs)), (114, .byt (p)), (115, .is (.pointer (some ⟨w.heap.size, 3, none⟩))), (116, .is (.int .i64 (j : Nat))), (117, .is (.int .i64 0)), (118, .is (.int .i64 0)), (119, .is (.bool true)), (120, .is (.bool true)), (121, .is (.bool true)), (122, .is (.bool true)), (123, .is (.bool true)), (2, .is (.bool true))] (by kernel_rfl) (by kernel_rfl) (by rfl) ?_ ?_
  · refine seeOps_cons ?_ (seeOps_cons ?_ (seeOps_cons ?_ (seeOps_cons ?_ (seeOps_cons ?_ (seeOps_cons ?_ (seeOps_cons ?_ (seeOps_cons ?_ (seeOps_cons ?_ (seeOps_cons ?_ (seeOps_cons ?_ (seeOps_cons ?_ (seeOps_cons ?_ (seeOps_cons ?_ (seeOps_cons ?_ (seeOps_cons ?_ (seeOps_cons ?_ (seeOps_cons ?_ (seeOps_cons ?_ (seeOps_cons ?_ (seeOps_cons ?_ (seeOps_cons ?_ (seeOps_cons ?_ (seeOps_cons ?_ (seeOps_cons ?_ (seeOps_cons ?_ (seeOps_cons ?_ (seeOps_cons ?_ (seeOps_cons ?_ (seeOps_cons ?_ (seeOps_cons ?_ (seeOps_cons ?_ (seeOps_cons ?_ (seeOps_cons ?_ (seeOps_cons ?_ (seeOps_cons ?_ (seeOps_cons ?_ (seeOps_cons ?_ (seeOps_cons ?_ (seeOps_cons ?_ (seeOps_cons ?_ (seeOps_cons ?_ (seeOps_cons ?_ (seeOps_cons ?_ (seeOps_cons ?_ seeOps_nil))))))))))))))))))))))))))))))))))))))))))))
    · intro w2 hb2 fr hout hin
      have h1 : fr.tmps.getD 1 undef = .pointer (some ⟨w.heap.size, 0, none⟩) := hout 1 (by decide)
      exact op_fieldN (.tmp 1) rfl (by decide) h1 (wanted_none rfl) rfl
    · intro w2 hb2 fr hout hin
      have h80 : fr.tmps.getD 80 undef = .pointer (some ⟨w.heap.size, 0, none⟩) := hin 80 (by decide) (by decide)
      exact op_load1 (.tmp 80) rfl (fun _ => by kernel_rfl) h80 ((HX.out.below hb2).c0) (wanted_none rfl) (RA.out.below hb2)
    · intro w2 hb2 fr hout hin
      have h81 : Byt w2 (fr.tmps.getD 81 undef) (xs) := hin 81 (by decide) (by decide)
      exact op_call1 (.tmp 81) rfl en_few (wanted_none rfl) (FFp.out _ h81) (fun _ _ h => h)
    · intro w2 hb2 fr hout hin
      have h82 : Byt w2 (fr.tmps.getD 82 undef) (p) := hin 82 (by decide) (by decide)
      exact op_call1 (.tmp 82) rfl en_trim (wanted_none rfl) (trim_v _ h82 (by have := HLp.out; omega)) (fun _ _ h => h)
    · intro w2 hb2 fr hout hin
      have h83 : Byt w2 (fr.tmps.getD 83 undef) (nb (nv p)) := hin 83 (by decide) (by decide)
      exact op_str (.tmp 83) rfl h83 (wanted_none rfl) rfl
    · intro w2 hb2 fr hout hin
      have h3 : Num w2 (fr.tmps.getD 3 undef) (nv p) 4096 := by
        have e : fr.tmps.getD 3 undef = v3 := hout 3 (by decide)
        rw [e]; exact H3.out.below hb2
      exact relStep_move (.tmp 3) rfl (wanted_none rfl) h3
    · intro w2 hb2 fr hout hin
      have h85 : Num w2 (fr.tmps.getD 85 undef) (nv p) 4096 := hin 85 (by decide) (by decide)
      exact op_call1 (.tmp 85) rfl en_bytes2 (wanted_none rfl) (bytes2_v _ h85 (by decide)) (fun _ _ h => h)
    · intro w2 hb2 fr hout hin
      have h86 : Byt w2 (fr.tmps.getD 86 undef) (nb (nv p)) := hin 86 (by decide) (by decide)
      exact op_str (.tmp 86) rfl h86 (wanted_none rfl) rfl
    · intro w2 hb2 fr hout hin
      have h84 : fr.tmps.getD 84 undef = .string (sOf (nb (nv p))) := hin 84 (by decide) (by decide)
      have h87 : fr.tmps.getD 87 undef = .string (sOf (nb (nv p))) := hin 87 (by decide) (by decide)
      exact op_eqS (.tmp 84) (.tmp 87) _ rfl h84 h87 (wanted_none rfl) rfl
    · intro w2 hb2 fr hout hin
      have h88 : fr.tmps.getD 88 undef = .bool true := hin 88 (by decide) (by decide)
      exact relStep_move (.tmp 88) rfl (wanted_none rfl) h88
    · intro w2 hb2 fr hout hin
      have h89 : fr.tmps.getD 89 undef = .bool true := hin 89 (by decide) (by decide)
      have h1 : fr.tmps.getD 1 undef = .pointer (some ⟨w.heap.size, 0, none⟩) := hout 1 (by decide)
      exact op_fieldN (.tmp 1) rfl (by decide) h1 (wanted_some (g := 9) (t := 89) (b := true) rfl rfl h89) rfl
    · intro w2 hb2 fr hout hin
      have h89 : fr.tmps.getD 89 undef = .bool true := hin 89 (by decide) (by decide)
      have h90 : fr.tmps.getD 90 undef = .pointer (some ⟨w.heap.size, 0, none⟩) := hin 90 (by decide) (by decide)
      exact op_load1 (.tmp 90) rfl (fun _ => by kernel_rfl) h90 ((HX.out.below hb2).c0) (wanted_some (g := 9) (t := 89) (b := true) rfl rfl h89) (RA.out.below hb2)
    · intro w2 hb2 fr hout hin
      have h89 : fr.tmps.getD 89 undef = .bool true := hin 89 (by decide) (by decide)
      have h91 : Byt w2 (fr.tmps.getD 91 undef) (xs) := hin 91 (by decide) (by decide)
      exact op_call1 (.tmp 91) rfl en_few (wanted_some (g := 9) (t := 89) (b := true) rfl rfl h89) (FFp.out _ h91) (fun _ _ h => h)
    · intro w2 hb2 fr hout hin
      have h89 : fr.tmps.getD 89 undef = .bool true := hin 89 (by decide) (by decide)
      have h1 : fr.tmps.getD 1 undef = .pointer (some ⟨w.heap.size, 0, none⟩) := hout 1 (by decide)
      exact op_fieldN (.tmp 1) rfl (by decide) h1 (wanted_some (g := 9) (t := 89) (b := true) rfl rfl h89) rfl
    · intro w2 hb2 fr hout hin
      have h89 : fr.tmps.getD 89 undef = .bool true := hin 89 (by decide) (by decide)
      have h93 : fr.tmps.getD 93 undef = .pointer (some ⟨w.heap.size, 1, none⟩) := hin 93 (by decide) (by decide)
      exact op_load1 (.tmp 93) rfl (fun _ => by kernel_rfl) h93 ((HX.out.below hb2).c1) (wanted_some (g := 9) (t := 89) (b := true) rfl rfl h89) (RB.out.below hb2)
    · intro w2 hb2 fr hout hin
      have h89 : fr.tmps.getD 89 undef = .bool true := hin 89 (by decide) (by decide)
      have h94 : Byt w2 (fr.tmps.getD 94 undef) (ys) := hin 94 (by decide) (by decide)
      exact op_call1 (.tmp 94) rfl en_few (wanted_some (g := 9) (t := 89) (b := true) rfl rfl h89) (FFq.out _ h94) (fun _ _ h => h)
    · intro w2 hb2 fr hout hin
      have h89 : fr.tmps.getD 89 undef = .bool true := hin 89 (by decide) (by decide)
      have h92 : Byt w2 (fr.tmps.getD 92 undef) (p) := hin 92 (by decide) (by decide)
      have h95 : Byt w2 (fr.tmps.getD 95 undef) (q) := hin 95 (by decide) (by decide)
      exact op_call2 (.tmp 92) (.tmp 95) rfl en_cmp (wanted_some (g := 9) (t := 89) (b := true) rfl rfl h89) (cmp_v _ h92 h95 (by have := HLp.out; omega) (by have := HLq.out; omega)) (fun _ _ h => h)
    · intro w2 hb2 fr hout hin
      have h89 : fr.tmps.getD 89 undef = .bool true := hin 89 (by decide) (by decide)
      have h3 : Num w2 (fr.tmps.getD 3 undef) (nv p) 4096 := by
        have e : fr.tmps.getD 3 undef = v3 := hout 3 (by decide)
        rw [e]; exact H3.out.below hb2
      exact relStep_move (.tmp 3) rfl (wanted_some (g := 9) (t := 89) (b := true) rfl rfl h89) h3
    · intro w2 hb2 fr hout hin
      have h89 : fr.tmps.getD 89 undef = .bool true := hin 89 (by decide) (by decide)
      have h4 : Num w2 (fr.tmps.getD 4 undef) (nv q) 4096 := by
        have e : fr.tmps.getD 4 undef = v4 := hout 4 (by decide)
        rw [e]; exact H4.out.below hb2
      exact relStep_move (.tmp 4) rfl (wanted_some (g := 9) (t := 89) (b := true) rfl rfl h89) h4
    · intro w2 hb2 fr hout hin
      have h89 : fr.tmps.getD 89 undef = .bool true := hin 89 (by decide) (by decide)
      have h97 : Num w2 (fr.tmps.getD 97 undef) (nv p) 4096 := hin 97 (by decide) (by decide)
      have h98 : Num w2 (fr.tmps.getD 98 undef) (nv q) 4096 := hin 98 (by decide) (by decide)
      exact op_call2 (.tmp 97) (.tmp 98) rfl en_cmp2 (wanted_some (g := 9) (t := 89) (b := true) rfl rfl h89) (cmp2_v _ h97 h98 (by decide)) (fun _ _ h => h)
    · intro w2 hb2 fr hout hin
      have h89 : fr.tmps.getD 89 undef = .bool true := hin 89 (by decide) (by decide)
      have h96 : fr.tmps.getD 96 undef = .int .i64 (ordI (nv p) (nv q)) := hin 96 (by decide) (by decide)
      have h99 : fr.tmps.getD 99 undef = .int .i64 (ordI (nv p) (nv q)) := hin 99 (by decide) (by decide)
      exact op_eqI (.tmp 96) (.tmp 99) _ rfl h96 h99 (wanted_some (g := 9) (t := 89) (b := true) rfl rfl h89) rfl
    · intro w2 hb2 fr hout hin
      have h89 : fr.tmps.getD 89 undef = .bool true := hin 89 (by decide) (by decide)
      have h100 : fr.tmps.getD 100 undef = .bool true := hin 100 (by decide) (by decide)
      exact relStep_pick (.tmp 89) (.tmp 100) (.const (.bool false)) rfl h89 (wanted_none rfl) h100
    · intro w2 hb2 fr hout hin
      have h101 : fr.tmps.getD 101 undef = .bool true := hin 101 (by decide) (by decide)
      exact relStep_move (.tmp 101) rfl (wanted_none rfl) h101
    · intro w2 hb2 fr hout hin
      have h102 : fr.tmps.getD 102 undef = .bool true := hin 102 (by decide) (by decide)
      have h1 : fr.tmps.getD 1 undef = .pointer (some ⟨w.heap.size, 0, none⟩) := hout 1 (by decide)
      exact op_fieldN (.tmp 1) rfl (by decide) h1 (wanted_some (g := 22) (t := 102) (b := true) rfl rfl h102) rfl
    · intro w2 hb2 fr hout hin
      have h102 : fr.tmps.getD 102 undef = .bool true := hin 102 (by decide) (by decide)
      have h103 : fr.tmps.getD 103 undef = .pointer (some ⟨w.heap.size, 0, none⟩) := hin 103 (by decide) (by decide)
      exact op_load1 (.tmp 103) rfl (fun _ => by kernel_rfl) h103 ((HX.out.below hb2).c0) (wanted_some (g := 22) (t := 102) (b := true) rfl rfl h102) (RA.out.below hb2)
    · intro w2 hb2 fr hout hin
      have h102 : fr.tmps.getD 102 undef = .bool true := hin 102 (by decide) (by decide)
      have h104 : Byt w2 (fr.tmps.getD 104 undef) (xs) := hin 104 (by decide) (by decide)
      exact op_call1 (.tmp 104) rfl en_few (wanted_some (g := 22) (t := 102) (b := true) rfl rfl h102) (FFp.out _ h104) (fun _ _ h => h)
    · intro w2 hb2 fr hout hin
      have h102 : fr.tmps.getD 102 undef = .bool true := hin 102 (by decide) (by decide)
      have h105 : Byt w2 (fr.tmps.getD 105 undef) (p) := hin 105 (by decide) (by decide)
      exact op_call1 (.tmp 105) rfl en_bits (wanted_some (g := 22) (t := 102) (b := true) rfl rfl h102) (bits_v _ h105 (by have := HLp.out; omega)) (fun _ _ h => h)
    · intro w2 hb2 fr hout hin
      have h102 : fr.tmps.getD 102 undef = .bool true := hin 102 (by decide) (by decide)
      have h3 : Num w2 (fr.tmps.getD 3 undef) (nv p) 4096 := by
        have e : fr.tmps.getD 3 undef = v3 := hout 3 (by decide)
        rw [e]; exact H3.out.below hb2
      exact relStep_move (.tmp 3) rfl (wanted_some (g := 22) (t := 102) (b := true) rfl rfl h102) h3
    · intro w2 hb2 fr hout hin
      have h102 : fr.tmps.getD 102 undef = .bool true := hin 102 (by decide) (by decide)
      have h107 : Num w2 (fr.tmps.getD 107 undef) (nv p) 4096 := hin 107 (by decide) (by decide)
      exact op_call1 (.tmp 107) rfl en_len2 (wanted_some (g := 22) (t := 102) (b := true) rfl rfl h102) (len2_v _ h107 (by decide)) (fun _ _ h => h)
    · intro w2 hb2 fr hout hin
      have h102 : fr.tmps.getD 102 undef = .bool true := hin 102 (by decide) (by decide)
      have h106 : fr.tmps.getD 106 undef = .int .i64 ((blen (nv p) : Nat) : Int) := hin 106 (by decide) (by decide)
      have h108 : fr.tmps.getD 108 undef = .int .i64 ((blen (nv p) : Nat) : Int) := hin 108 (by decide) (by decide)
      exact op_eqI (.tmp 106) (.tmp 108) _ rfl h106 h108 (wanted_some (g := 22) (t := 102) (b := true) rfl rfl h102) rfl
    · intro w2 hb2 fr hout hin
      have h102 : fr.tmps.getD 102 undef = .bool true := hin 102 (by decide) (by decide)
      have h109 : fr.tmps.getD 109 undef = .bool true := hin 109 (by decide) (by decide)
      exact relStep_pick (.tmp 102) (.tmp 109) (.const (.bool false)) rfl h102 (wanted_none rfl) h109
    · intro w2 hb2 fr hout hin
      have h110 : fr.tmps.getD 110 undef = .bool true := hin 110 (by decide) (by decide)
      exact relStep_move (.tmp 110) rfl (wanted_none rfl) h110
    · intro w2 hb2 fr hout hin
      have h111 : fr.tmps.getD 111 undef = .bool true := hin 111 (by decide) (by decide)
      have h1 : fr.tmps.getD 1 undef = .pointer (some ⟨w.heap.size, 0, none⟩) := hout 1 (by decide)
      exact op_fieldN (.tmp 1) rfl (by decide) h1 (wanted_some (g := 31) (t := 111) (b := true) rfl rfl h111) rfl
    · intro w2 hb2 fr hout hin
      have h111 : fr.tmps.getD 111 undef = .bool true := hin 111 (by decide) (by decide)
      have h112 : fr.tmps.getD 112 undef = .pointer (some ⟨w.heap.size, 0, none⟩) := hin 112 (by decide) (by decide)
      exact op_load1 (.tmp 112) rfl (fun _ => by kernel_rfl) h112 ((HX.out.below hb2).c0) (wanted_some (g := 31) (t := 111) (b := true) rfl rfl h111) (RA.out.below hb2)
    · intro w2 hb2 fr hout hin
      have h111 : fr.tmps.getD 111 undef = .bool true := hin 111 (by decide) (by decide)
      have h113 : Byt w2 (fr.tmps.getD 113 undef) (xs) := hin 113 (by decide) (by decide)
      exact op_call1 (.tmp 113) rfl en_few (wanted_some (g := 31) (t := 111) (b := true) rfl rfl h111) (FFp.out _ h113) (fun _ _ h => h)
    · intro w2 hb2 fr hout hin
      have h111 : fr.tmps.getD 111 undef = .bool true := hin 111 (by decide) (by decide)
      have h1 : fr.tmps.getD 1 undef = .pointer (some ⟨w.heap.size, 0, none⟩) := hout 1 (by decide)
      exact op_fieldN (.tmp 1) rfl (by decide) h1 (wanted_some (g := 31) (t := 111) (b := true) rfl rfl h111) rfl
    · intro w2 hb2 fr hout hin
      have h111 : fr.tmps.getD 111 undef = .bool true := hin 111 (by decide) (by decide)
      have h115 : fr.tmps.getD 115 undef = .pointer (some ⟨w.heap.size, 3, none⟩) := hin 115 (by decide) (by decide)
      exact op_load1 (.tmp 115) rfl (fun _ => by kernel_rfl) h115 ((HX.out.below hb2).c3) (wanted_some (g := 31) (t := 111) (b := true) rfl rfl h111) (rfl)
    · intro w2 hb2 fr hout hin
      have h111 : fr.tmps.getD 111 undef = .bool true := hin 111 (by decide) (by decide)
      have h114 : Byt w2 (fr.tmps.getD 114 undef) (p) := hin 114 (by decide) (by decide)
      have h116 : fr.tmps.getD 116 undef = .int .i64 (j : Nat) := hin 116 (by decide) (by decide)
      exact op_call2 (.tmp 114) (.tmp 116) rfl en_bit (wanted_some (g := 31) (t := 111) (b := true) rfl rfl h111) (by
        show Calls _ _ #[fr.tmps.getD 114 undef, fr.tmps.getD 116 undef] _ _
        rw [h116]; exact (bitf_v _ h114 HLp.out j HJ.out HJ8.out)) (fun _ _ h => h)
    · intro w2 hb2 fr hout hin
      have h111 : fr.tmps.getD 111 undef = .bool true := hin 111 (by decide) (by decide)
      have h5 : fr.tmps.getD 5 undef = .int .i64 0 := hout 5 (by decide)
      exact relStep_move (.tmp 5) rfl (wanted_some (g := 31) (t := 111) (b := true) rfl rfl h111) h5
    · intro w2 hb2 fr hout hin
      have h111 : fr.tmps.getD 111 undef = .bool true := hin 111 (by decide) (by decide)
      have h117 : fr.tmps.getD 117 undef = .int .i64 0 := hin 117 (by decide) (by decide)
      have h118 : fr.tmps.getD 118 undef = .int .i64 0 := hin 118 (by decide) (by decide)
      exact op_eqI (.tmp 117) (.tmp 118) _ rfl h117 h118 (wanted_some (g := 31) (t := 111) (b := true) rfl rfl h111) rfl
    · intro w2 hb2 fr hout hin
      have h111 : fr.tmps.getD 111 undef = .bool true := hin 111 (by decide) (by decide)
      have h119 : fr.tmps.getD 119 undef = .bool true := hin 119 (by decide) (by decide)
      exact relStep_pick (.tmp 111) (.tmp 119) (.const (.bool false)) rfl h111 (wanted_none rfl) h119
    · intro w2 hb2 fr hout hin
      have h120 : fr.tmps.getD 120 undef = .bool true := hin 120 (by decide) (by decide)
      exact relStep_move (.tmp 120) rfl (wanted_none rfl) h120
    · intro w2 hb2 fr hout hin
      have h121 : fr.tmps.getD 121 undef = .bool true := hin 121 (by decide) (by decide)
      exact op_call0 rfl en_wakes (wanted_some (g := 41) (t := 121) (b := true) rfl rfl h121) (nwakes_v _) (fun _ _ h => h)
    · intro w2 hb2 fr hout hin
      have h121 : fr.tmps.getD 121 undef = .bool true := hin 121 (by decide) (by decide)
      have h122 : fr.tmps.getD 122 undef = .bool true := hin 122 (by decide) (by decide)
      exact relStep_pick (.tmp 121) (.tmp 122) (.const (.bool false)) rfl h121 (wanted_none rfl) h122
    · intro w2 hb2 fr hout hin
      have h123 : fr.tmps.getD 123 undef = .bool true := hin 123 (by decide) (by decide)
      exact relStep_assign (.tmp 123) rfl (wanted_none rfl) h123
  intro w7 hb7
  refine relAsk_in (by rfl) ?_
  intro v80 h80
  obtain rfl : v80 = .pointer (some ⟨w.heap.size, 0, none⟩) := h80
  refine relAsk_in (by rfl) ?_
  intro v81 h81
  refine relAsk_in (by rfl) ?_
  intro v82 h82
  refine relAsk_in (by rfl) ?_
  intro v83 h83
  refine relAsk_in (by rfl) ?_
  intro v84 h84
  obtain rfl : v84 = .string (sOf (nb (nv p))) := h84
  refine relAsk_in (by rfl) ?_
  intro v85 h85
  refine relAsk_in (by rfl) ?_
  intro v86 h86
  refine relAsk_in (by rfl) ?_
  intro v87 h87
  obtain rfl : v87 = .string (sOf (nb (nv p))) := h87
  refine relAsk_in (by rfl) ?_
  intro v88 h88
  obtain rfl : v88 = .bool true := h88
  refine relAsk_in (by rfl) ?_
  intro v89 h89
  obtain rfl : v89 = .bool true := h89
  refine relAsk_in (by rfl) ?_
  intro v90 h90
  obtain rfl : v90 = .pointer (some ⟨w.heap.size, 0, none⟩) := h90
  refine relAsk_in (by rfl) ?_
  intro v91 h91
  refine relAsk_in (by rfl) ?_
  intro v92 h92
  refine relAsk_in (by rfl) ?_
  intro v93 h93
  obtain rfl : v93 = .pointer (some ⟨w.heap.size, 1, none⟩) := h93
  refine relAsk_in (by rfl) ?_
  intro v94 h94
  refine relAsk_in (by rfl) ?_
  intro v95 h95
  refine relAsk_in (by rfl) ?_
  intro v96 h96
  obtain rfl : v96 = .int .i64 (ordI (nv p) (nv q)) := h96
  refine relAsk_in (by rfl) ?_
  intro v97 h97
  refine relAsk_in (by rfl) ?_
  intro v98 h98
  refine relAsk_in (by rfl) ?_
  intro v99 h99
  obtain rfl : v99 = .int .i64 (ordI (nv p) (nv q)) := h99
  refine relAsk_in (by rfl) ?_
  intro v100 h100
  obtain rfl : v100 = .bool true := h100
  refine relAsk_in (by rfl) ?_
  intro v101 h101
  obtain rfl : v101 = .bool true := h101
  refine relAsk_in (by rfl) ?_
  intro v102 h102
  obtain rfl : v102 = .bool true := h102
  refine relAsk_in (by rfl) ?_
  intro v103 h103
  obtain rfl : v103 = .pointer (some ⟨w.heap.size, 0, none⟩) := h103
  refine relAsk_in (by rfl) ?_
  intro v104 h104
  refine relAsk_in (by rfl) ?_
  intro v105 h105
  refine relAsk_in (by rfl) ?_
  intro v106 h106
  obtain rfl : v106 = .int .i64 ((blen (nv p) : Nat) : Int) := h106
  refine relAsk_in (by rfl) ?_
  intro v107 h107
  refine relAsk_in (by rfl) ?_
  intro v108 h108
  obtain rfl : v108 = .int .i64 ((blen (nv p) : Nat) : Int) := h108
  refine relAsk_in (by rfl) ?_
  intro v109 h109
  obtain rfl : v109 = .bool true := h109
  refine relAsk_in (by rfl) ?_
  intro v110 h110
  obtain rfl : v110 = .bool true := h110
  refine relAsk_in (by rfl) ?_
  intro v111 h111
  obtain rfl : v111 = .bool true := h111
  refine relAsk_in (by rfl) ?_
  intro v112 h112
  obtain rfl : v112 = .pointer (some ⟨w.heap.size, 0, none⟩) := h112
  refine relAsk_in (by rfl) ?_
  intro v113 h113
  refine relAsk_in (by rfl) ?_
  intro v114 h114
  refine relAsk_in (by rfl) ?_
  intro v115 h115
  obtain rfl : v115 = .pointer (some ⟨w.heap.size, 3, none⟩) := h115
  refine relAsk_in (by rfl) ?_
  intro v116 h116
  obtain rfl : v116 = .int .i64 (j : Nat) := h116
  refine relAsk_in (by rfl) ?_
  intro v117 h117
  obtain rfl : v117 = .int .i64 0 := h117
  refine relAsk_in (by rfl) ?_
  intro v118 h118
  obtain rfl : v118 = .int .i64 0 := h118
  refine relAsk_in (by rfl) ?_
  intro v119 h119
  obtain rfl : v119 = .bool true := h119
  refine relAsk_in (by rfl) ?_
  intro v120 h120
  obtain rfl : v120 = .bool true := h120
  refine relAsk_in (by rfl) ?_
  intro v121 h121
  obtain rfl : v121 = .bool true := h121
  refine relAsk_in (by rfl) ?_
  intro v122 h122
  obtain rfl : v122 = .bool true := h122
  refine relAsk_in (by rfl) ?_
  intro v123 h123
  obtain rfl : v123 = .bool true := h123
  refine relAsk_in (by rfl) ?_
  intro v2 h2
  obtain rfl : v2 = .bool true := h2
  refine relAsk_nil ?_
  have RA := Lib.hid (RA.out.below hb7)
  have RB := Lib.hid (RB.out.below hb7)
  have RM := Lib.hid (RM.out.below hb7)
  have HX := Lib.hid (HX.out.below hb7)
  have HW := Lib.hid (HW.out.trans (hb7.mono HW.out.size))
  have H3 := Lib.hid (H3.out.below hb7)
  have H4 := Lib.hid (H4.out.below hb7)
  clear h81 h82 h83 h85 h86 h91 h92 h94 h95 h97 h98 h104 h105 h107 h113 h114 hb7
  refine wpList_nil ?_
  go_simp
  go_wp2_with fail
  go_ret
  exact ⟨rfl, HW.out⟩

set_option maxRecDepth 100000 in
set_option maxHeartbeats 12800000 in
theorem forms_far_fit {A B M : Option Addr} {ca cb cm : Nat} {j : Nat} {n : Nat} {xs ys zs : List Nat} (w : World) (hA : Rd .u8 w A ca xs) (dA : Ds 256 xs) (hB : Rd .u8 w B cb ys) (dB : Ds 256 ys) (hM : Rd .u8 w M cm zs) (dM : Ds 256 zs) (hj : 4808 ≤ j) (hj2 : j ≤ 9223372036854775807) (hn : n ≤ 65536) (hf : nv (xs.take 600) < 256 ^ n) :
    Calls Try.prog 11 #[.agg #[.slice A xs.length ca, .slice B ys.length cb, .slice M zs.length cm, .int .i64 (j : Nat), .int .i64 (n : Nat)]] w (RetV (.bool true) w) := by
  obtain ⟨p, hp⟩ : ∃ zz, zz = xs.take 600 := ⟨_, rfl⟩
  have hlp : p.length ≤ 600 := by rw [hp, List.length_take]; omega
  have ffp : ∀ (w : World) {u : Value}, Byt w u xs → Calls Try.prog 75 #[u] w (RetR (fun w' v => Byt w' v p) w) := fun w u h => by rw [hp]; exact few_v w h
  have HLp := Lib.hid hlp
  have FFp := Lib.hid ffp
  have Hp := Lib.hid hp
  clear hlp ffp hp
  obtain ⟨q, hq⟩ : ∃ zz, zz = ys.take 600 := ⟨_, rfl⟩
  have hlq : q.length ≤ 600 := by rw [hq, List.length_take]; omega
  have ffq : ∀ (w : World) {u : Value}, Byt w u ys → Calls Try.prog 75 #[u] w (RetR (fun w' v => Byt w' v q) w) := fun w u h => by rw [hq]; exact few_v w h
  have HLq := Lib.hid hlq
  have FFq := Lib.hid ffq
  have Hq := Lib.hid hq
  clear hlq ffq hq
  have HJ := Lib.hid hj2
  have HJ8 := Lib.hid hj
  have K19 : Hid (∀ w, (binOp .geq 3 (.int .i64 (j : Nat)) (.int .i64 0)).run Try.prog w = .ok (.bool true) w) := fun w => by
    have h : (0 : Int) ≤ (j : Int) := by omega
    go_simp
  have K23 : Hid (∀ w, (binOp .lss 3 (.int .i64 (j : Nat)) (.int .i64 4808)).run Try.prog w = .ok (.bool false) w) := fun w => by
    have h : ¬ ((j : Int) < 4808) := by omega
    go_simp
  rw [← Hp.out] at hf
  have HN6 := Lib.hid hn
  have HFIT := Lib.hid hf
  have K41 : Hid (∀ w, (binOp .geq 3 (.int .i64 (n : Nat)) (.int .i64 0)).run Try.prog w = .ok (.bool true) w) := fun w => by
    have h : (0 : Int) ≤ (n : Int) := by omega
    go_simp
  have K45 : Hid (∀ w, (binOp .leq 3 (.int .i64 (n : Nat)) (.int .i64 65536)).run Try.prog w = .ok (.bool true) w) := fun w => by
    have h : (n : Int) ≤ 65536 := by omega
    go_simp
  have K52 : Hid (∀ w, (binOp .mul 3 (.int .i64 8) (.int .i64 (n : Nat))).run Try.prog w = .ok (.int .i64 (8 * (n : Nat))) w) := fun w => by
    have h1 : (n : Int) ≤ 65536 := by omega
    have h2 : IntKind.i64.wrap (8 * (n : Int)) = 8 * (n : Int) := IntWalk.i64_in _ (by omega)
    go_simp
  have K53 : Hid (∀ w, (binOp .leq 3 (.int .i64 ((blen (nv p) : Nat) : Int)) (.int .i64 (8 * (n : Nat)))).run Try.prog w = .ok (.bool true) w) := fun w => by
    have h : ((blen (nv p) : Nat) : Int) ≤ 8 * (n : Int) := by have := blen_fits.2 hf; omega
    go_simp
  clear hj hj2 hn hf
  obtain ⟨L, hL⟩ : ∃ L, L = xs.length := ⟨_, rfl⟩
  obtain ⟨K, hK⟩ : ∃ K, K = ys.length := ⟨_, rfl⟩
  obtain ⟨J, hJ⟩ : ∃ J, J = zs.length := ⟨_, rfl⟩
  have rA : Byt w (.slice A L ca) xs := ⟨A, ca, by rw [hL], hA, dA⟩
  have rB : Byt w (.slice B K cb) ys := ⟨B, cb, by rw [hK], hB, dB⟩
  have rM : Byt w (.slice M J cm) zs := ⟨M, cm, by rw [hJ], hM, dM⟩
  rw [← hL, ← hK, ← hJ]
  have hW := (Below.refl w.heap.size w).alloc (Nat.le_refl _) (.cells #[.slice A L ca, .slice B K cb, .slice M J cm, .int .i64 (j : Nat), .int .i64 (n : Nat)] 51)
  have hx := Box5.new w (.slice A L ca) (.slice B K cb) (.slice M J cm) (.int .i64 (j : Nat)) (.int .i64 (n : Nat)) 51
  have RA := Lib.hid (rA.below hW)
  have RB := Lib.hid (rB.below hW)
  have RM := Lib.hid (rM.below hW)
  have HX := Lib.hid hx
  have HW := Lib.hid hW
  clear hA dA hB dB hM dM hL hK hJ rA rB rM hW hx
  go_enter Try.func11, Try.ntmps11
  go_upto_region 1 with (fail)
  generalize hX : w.alloc (.cells #[.slice A L ca, .slice B K cb, .slice M J cm, .int .i64 (j : Nat), .int .i64 (n : Nat)] 51) = X at *
  clear hX
  refine wp_region_seq 5 [9, 10, 11, 12, 3] [(9, .is (.pointer (some ⟨w.heap.size, 0, none⟩))), (10, .byt (xs)), (11, .byt (p)), (12, .num (nv p) 4096), (3, .num (nv p) 4096)] (by kernel_rfl) (by rfl) ?_ ?_
  · refine seeOps_cons ?_ (seeOps_cons ?_ (seeOps_cons ?_ (seeOps_cons ?_ (seeOps_cons ?_ seeOps_nil))))
    · intro w2 hb2 fr hout hin
      have h1 : fr.tmps.getD 1 undef = .pointer (some ⟨w.heap.size, 0, none⟩) := hout 1 (by decide)
      exact op_fieldN (.tmp 1) rfl (by decide) h1 (wanted_none rfl) rfl
    · intro w2 hb2 fr hout hin
      have h9 : fr.tmps.getD 9 undef = .pointer (some ⟨w.heap.size, 0, none⟩) := hin 9 (by decide) (by decide)
      exact op_load1 (.tmp 9) rfl (fun _ => by kernel_rfl) h9 ((HX.out.below hb2).c0) (wanted_none rfl) (RA.out.below hb2)
    · intro w2 hb2 fr hout hin
      have h10 : Byt w2 (fr.tmps.getD 10 undef) (xs) := hin 10 (by decide) (by decide)
      exact op_call1 (.tmp 10) rfl en_few (wanted_none rfl) (FFp.out _ h10) (fun _ _ h => h)
    · intro w2 hb2 fr hout hin
      have h11 : Byt w2 (fr.tmps.getD 11 undef) (p) := hin 11 (by decide) (by decide)
      exact op_call1 (.tmp 11) rfl en_from2 (wanted_none rfl) (from2_v _ h11 (by have := HLp.out; omega)) (fun _ _ h => h)
    · intro w2 hb2 fr hout hin
      have h12 : Num w2 (fr.tmps.getD 12 undef) (nv p) 4096 := hin 12 (by decide) (by decide)
      exact relStep_assign (.tmp 12) rfl (wanted_none rfl) h12
  intro w1 hb1
  refine relAsk_in (by rfl) ?_
  intro v9 h9
  obtain rfl : v9 = .pointer (some ⟨w.heap.size, 0, none⟩) := h9
  refine relAsk_in (by rfl) ?_
  intro v10 h10
  refine relAsk_in (by rfl) ?_
  intro v11 h11
  refine relAsk_in (by rfl) ?_
  intro v12 h12
  refine relAsk_in (by rfl) ?_
  intro v3 h3
  refine relAsk_nil ?_
  have RA := Lib.hid (RA.out.below hb1)
  have RB := Lib.hid (RB.out.below hb1)
  have RM := Lib.hid (RM.out.below hb1)
  have HX := Lib.hid (HX.out.below hb1)
  have HW := Lib.hid (HW.out.trans (hb1.mono HW.out.size))
  have H3 : Hid (Num w1 (v3) (nv p) 4096) := h3
  clear h10 h11 h12 h3 hb1
  refine wpList_nil ?_
  go_simp
  go_upto_region 2 with (fail)
  refine wp_region_seq 5 [13, 14, 15, 16, 4] [(13, .is (.pointer (some ⟨w.heap.size, 1, none⟩))), (14, .byt (ys)), (15, .byt (q)), (16, .num (nv q) 4096), (4, .num (nv q) 4096)] (by kernel_rfl) (by rfl) ?_ ?_
  · refine seeOps_cons ?_ (seeOps_cons ?_ (seeOps_cons ?_ (seeOps_cons ?_ (seeOps_cons ?_ seeOps_nil))))
    · intro w2 hb2 fr hout hin
      have h1 : fr.tmps.getD 1 undef = .pointer (some ⟨w.heap.size, 0, none⟩) := hout 1 (by decide)
      exact op_fieldN (.tmp 1) rfl (by decide) h1 (wanted_none rfl) rfl
    · intro w2 hb2 fr hout hin
      have h13 : fr.tmps.getD 13 undef = .pointer (some ⟨w.heap.size, 1, none⟩) := hin 13 (by decide) (by decide)
      exact op_load1 (.tmp 13) rfl (fun _ => by kernel_rfl) h13 ((HX.out.below hb2).c1) (wanted_none rfl) (RB.out.below hb2)
    · intro w2 hb2 fr hout hin
      have h14 : Byt w2 (fr.tmps.getD 14 undef) (ys) := hin 14 (by decide) (by decide)
      exact op_call1 (.tmp 14) rfl en_few (wanted_none rfl) (FFq.out _ h14) (fun _ _ h => h)
    · intro w2 hb2 fr hout hin
      have h15 : Byt w2 (fr.tmps.getD 15 undef) (q) := hin 15 (by decide) (by decide)
      exact op_call1 (.tmp 15) rfl en_from2 (wanted_none rfl) (from2_v _ h15 (by have := HLq.out; omega)) (fun _ _ h => h)
    · intro w2 hb2 fr hout hin
      have h16 : Num w2 (fr.tmps.getD 16 undef) (nv q) 4096 := hin 16 (by decide) (by decide)
      exact relStep_assign (.tmp 16) rfl (wanted_none rfl) h16
  intro w2 hb2
  refine relAsk_in (by rfl) ?_
  intro v13 h13
  obtain rfl : v13 = .pointer (some ⟨w.heap.size, 1, none⟩) := h13
  refine relAsk_in (by rfl) ?_
  intro v14 h14
  refine relAsk_in (by rfl) ?_
  intro v15 h15
  refine relAsk_in (by rfl) ?_
  intro v16 h16
  refine relAsk_in (by rfl) ?_
  intro v4 h4
  refine relAsk_nil ?_
  have RA := Lib.hid (RA.out.below hb2)
  have RB := Lib.hid (RB.out.below hb2)
  have RM := Lib.hid (RM.out.below hb2)
  have HX := Lib.hid (HX.out.below hb2)
  have HW := Lib.hid (HW.out.trans (hb2.mono HW.out.size))
  have H3 := Lib.hid (H3.out.below hb2)
  have H4 : Hid (Num w2 (v4) (nv q) 4096) := h4
  clear h14 h15 h16 h4 hb2
  refine wpList_nil ?_
  go_simp
  go_upto_region 4 with (fail)
  refine wp_region_seq 8 [17, 18, 19, 20, 21, 22, 23, 24] [(17, .is (.pointer (some ⟨w.heap.size, 3, none⟩))), (18, .is (.int .i64 (j : Nat))), (19, .is (.bool true)), (20, .is (.bool true)), (21, .is (.pointer (some ⟨w.heap.size, 3, none⟩))), (22, .is (.int .i64 (j : Nat))), (23, .is (.bool false)), (24, .is (.bool false))] (by kernel_rfl) (by rfl) ?_ ?_
  · refine seeOps_cons ?_ (seeOps_cons ?_ (seeOps_cons ?_ (seeOps_cons ?_ (seeOps_cons ?_ (seeOps_cons ?_ (seeOps_cons ?_ (seeOps_cons ?_ seeOps_nil)))))))
    · intro w2 hb2 fr hout hin
      have h1 : fr.tmps.getD 1 undef = .pointer (some ⟨w.heap.size, 0, none⟩) := hout 1 (by decide)
      exact op_fieldN (.tmp 1) rfl (by decide) h1 (wanted_none rfl) rfl
    · intro w2 hb2 fr hout hin
      have h17 : fr.tmps.getD 17 undef = .pointer (some ⟨w.heap.size, 3, none⟩) := hin 17 (by decide) (by decide)
      exact op_load1 (.tmp 17) rfl (fun _ => by kernel_rfl) h17 ((HX.out.below hb2).c3) (wanted_none rfl) (rfl)
    · intro w2 hb2 fr hout hin
      have h18 : fr.tmps.getD 18 undef = .int .i64 (j : Nat) := hin 18 (by decide) (by decide)
      exact op_cmp .geq (.tmp 18) (.const (.int .i64 0)) _ rfl h18 rfl (K19.out) (wanted_none rfl) rfl
    · intro w2 hb2 fr hout hin
      have h19 : fr.tmps.getD 19 undef = .bool true := hin 19 (by decide) (by decide)
      exact relStep_move (.tmp 19) rfl (wanted_none rfl) h19
    · intro w2 hb2 fr hout hin
      have h20 : fr.tmps.getD 20 undef = .bool true := hin 20 (by decide) (by decide)
      have h1 : fr.tmps.getD 1 undef = .pointer (some ⟨w.heap.size, 0, none⟩) := hout 1 (by decide)
      exact op_fieldN (.tmp 1) rfl (by decide) h1 (wanted_some (g := 3) (t := 20) (b := true) rfl rfl h20) rfl
    · intro w2 hb2 fr hout hin
      have h20 : fr.tmps.getD 20 undef = .bool true := hin 20 (by decide) (by decide)
      have h21 : fr.tmps.getD 21 undef = .pointer (some ⟨w.heap.size, 3, none⟩) := hin 21 (by decide) (by decide)
      exact op_load1 (.tmp 21) rfl (fun _ => by kernel_rfl) h21 ((HX.out.below hb2).c3) (wanted_some (g := 3) (t := 20) (b := true) rfl rfl h20) (rfl)
    · intro w2 hb2 fr hout hin
      have h20 : fr.tmps.getD 20 undef = .bool true := hin 20 (by decide) (by decide)
      have h22 : fr.tmps.getD 22 undef = .int .i64 (j : Nat) := hin 22 (by decide) (by decide)
      exact op_cmp .lss (.tmp 22) (.const (.int .i64 4808)) _ rfl h22 rfl (K23.out) (wanted_some (g := 3) (t := 20) (b := true) rfl rfl h20) rfl
    · intro w2 hb2 fr hout hin
      have h20 : fr.tmps.getD 20 undef = .bool true := hin 20 (by decide) (by decide)
      have h23 : fr.tmps.getD 23 undef = .bool false := hin 23 (by decide) (by decide)
      exact relStep_pick (.tmp 20) (.tmp 23) (.const (.bool false)) rfl h20 (wanted_none rfl) h23
  intro w3 hb3
  refine relAsk_in (by rfl) ?_
  intro v17 h17
  obtain rfl : v17 = .pointer (some ⟨w.heap.size, 3, none⟩) := h17
  refine relAsk_in (by rfl) ?_
  intro v18 h18
  obtain rfl : v18 = .int .i64 (j : Nat) := h18
  refine relAsk_in (by rfl) ?_
  intro v19 h19
  obtain rfl : v19 = .bool true := h19
  refine relAsk_in (by rfl) ?_
  intro v20 h20
  obtain rfl : v20 = .bool true := h20
  refine relAsk_in (by rfl) ?_
  intro v21 h21
  obtain rfl : v21 = .pointer (some ⟨w.heap.size, 3, none⟩) := h21
  refine relAsk_in (by rfl) ?_
  intro v22 h22
  obtain rfl : v22 = .int .i64 (j : Nat) := h22
  refine relAsk_in (by rfl) ?_
  intro v23 h23
  obtain rfl : v23 = .bool false := h23
  refine relAsk_in (by rfl) ?_
  intro v24 h24
  obtain rfl : v24 = .bool false := h24
  refine relAsk_nil ?_
  have RA := Lib.hid (RA.out.below hb3)
  have RB := Lib.hid (RB.out.below hb3)
  have RM := Lib.hid (RM.out.below hb3)
  have HX := Lib.hid (HX.out.below hb3)
  have HW := Lib.hid (HW.out.trans (hb3.mono HW.out.size))
  have H3 := Lib.hid (H3.out.below hb3)
  have H4 := Lib.hid (H4.out.below hb3)
  clear hb3
  refine wpList_nil ?_
  go_simp
  go_upto_region 6 with (fail)
  refine wp_region_see 11 [31, 32, 33, 34, 35, 36, 30, 37, 38, 6, 7] [(31, .is (.pointer (some ⟨w.heap.size, 0, none⟩))), (32, .byt (xs)), (33, .byt (p)), (34, .is (.pointer (some ⟨w.heap.size, 4, none⟩))), (35, .is (.int .i64 (n : Nat))), (36, .okB (fillb (nv p) n)), (30, .okB (fillb (nv p) n)), (37, .byt (fillb (nv p) n)), (38, .is (.bool true)), (6, .byt (fillb (nv p) n)), (7, .is (.bool true))] (by kernel_rfl) (by kernel_rfl) (by rfl) ?_ ?_
  · refine seeOps_cons ?_ (seeOps_cons ?_ (seeOps_cons ?_ (seeOps_cons ?_ (seeOps_cons ?_ (seeOps_cons ?_ (seeOps_cons ?_ (seeOps_cons ?_ (seeOps_cons ?_ (seeOps_cons ?_ (seeOps_cons ?_ seeOps_nil))))))))))
    · intro w2 hb2 fr hout hin
      have h1 : fr.tmps.getD 1 undef = .pointer (some ⟨w.heap.size, 0, none⟩) := hout 1 (by decide)
      exact op_fieldN (.tmp 1) rfl (by decide) h1 (wanted_none rfl) rfl
    · intro w2 hb2 fr hout hin
      have h31 : fr.tmps.getD 31 undef = .pointer (some ⟨w.heap.size, 0, none⟩) := hin 31 (by decide) (by decide)
      exact op_load1 (.tmp 31) rfl (fun _ => by kernel_rfl) h31 ((HX.out.below hb2).c0) (wanted_none rfl) (RA.out.below hb2)
    · intro w2 hb2 fr hout hin
      have h32 : Byt w2 (fr.tmps.getD 32 undef) (xs) := hin 32 (by decide) (by decide)
      exact op_call1 (.tmp 32) rfl en_few (wanted_none rfl) (FFp.out _ h32) (fun _ _ h => h)
    · intro w2 hb2 fr hout hin
      have h1 : fr.tmps.getD 1 undef = .pointer (some ⟨w.heap.size, 0, none⟩) := hout 1 (by decide)
      exact op_fieldN (.tmp 1) rfl (by decide) h1 (wanted_none rfl) rfl
    · intro w2 hb2 fr hout hin
      have h34 : fr.tmps.getD 34 undef = .pointer (some ⟨w.heap.size, 4, none⟩) := hin 34 (by decide) (by decide)
      exact op_load1 (.tmp 34) rfl (fun _ => by kernel_rfl) h34 ((HX.out.below hb2).c4) (wanted_none rfl) (rfl)
    · intro w2 hb2 fr hout hin
      have h33 : Byt w2 (fr.tmps.getD 33 undef) (p) := hin 33 (by decide) (by decide)
      have h35 : fr.tmps.getD 35 undef = .int .i64 (n : Nat) := hin 35 (by decide) (by decide)
      exact op_call2 (.tmp 33) (.tmp 35) rfl en_fill (wanted_none rfl) (by
        show Calls _ _ #[fr.tmps.getD 33 undef, fr.tmps.getD 35 undef] _ _
        rw [h35]; exact (fill_v _ h33 (by have := HLp.out; omega) n HFIT.out HN6.out)) (fun _ _ h => h)
    · intro w2 hb2 fr hout hin
      have h36 : OkB w2 (fr.tmps.getD 36 undef) (fillb (nv p) n) := hin 36 (by decide) (by decide)
      exact relStep_move (.tmp 36) rfl (wanted_none rfl) h36
    · intro w2 hb2 fr hout hin
      have h30 : OkB w2 (fr.tmps.getD 30 undef) (fillb (nv p) n) := hin 30 (by decide) (by decide)
      obtain ⟨x, e, hx⟩ := h30
      exact op_ext (.tmp 30) 0 rfl e rfl (wanted_none rfl) hx
    · intro w2 hb2 fr hout hin
      have h30 : OkB w2 (fr.tmps.getD 30 undef) (fillb (nv p) n) := hin 30 (by decide) (by decide)
      obtain ⟨x, e, hx⟩ := h30
      exact op_ext (.tmp 30) 1 rfl e rfl (wanted_none rfl) rfl
    · intro w2 hb2 fr hout hin
      have h37 : Byt w2 (fr.tmps.getD 37 undef) (fillb (nv p) n) := hin 37 (by decide) (by decide)
      exact relStep_assign (.tmp 37) rfl (wanted_none rfl) h37
    · intro w2 hb2 fr hout hin
      have h38 : fr.tmps.getD 38 undef = .bool true := hin 38 (by decide) (by decide)
      exact relStep_assign (.tmp 38) rfl (wanted_none rfl) h38
  intro w4 hb4
  refine relAsk_in (by rfl) ?_
  intro v31 h31
  obtain rfl : v31 = .pointer (some ⟨w.heap.size, 0, none⟩) := h31
  refine relAsk_in (by rfl) ?_
  intro v32 h32
  refine relAsk_in (by rfl) ?_
  intro v33 h33
  refine relAsk_in (by rfl) ?_
  intro v34 h34
  obtain rfl : v34 = .pointer (some ⟨w.heap.size, 4, none⟩) := h34
  refine relAsk_in (by rfl) ?_
  intro v35 h35
  obtain rfl : v35 = .int .i64 (n : Nat) := h35
  refine relAsk_in (by rfl) ?_
  intro v36 h36
  refine relAsk_in (by rfl) ?_
  intro v30 h30
  refine relAsk_in (by rfl) ?_
  intro v37 h37
  refine relAsk_in (by rfl) ?_
  intro v38 h38
  obtain rfl : v38 = .bool true := h38
  refine relAsk_in (by rfl) ?_
  intro v6 h6
  refine relAsk_in (by rfl) ?_
  intro v7 h7
  obtain rfl : v7 = .bool true := h7
  refine relAsk_nil ?_
  have RA := Lib.hid (RA.out.below hb4)
  have RB := Lib.hid (RB.out.below hb4)
  have RM := Lib.hid (RM.out.below hb4)
  have HX := Lib.hid (HX.out.below hb4)
  have HW := Lib.hid (HW.out.trans (hb4.mono HW.out.size))
  have H3 := Lib.hid (H3.out.below hb4)
  have H4 := Lib.hid (H4.out.below hb4)
  have H6 : Hid (Byt w4 (v6) (fillb (nv p) n)) := h6
  clear h32 h33 h36 h30 h37 h6 hb4
  refine wpList_nil ?_
  go_simp
  go_upto_region 7 with (fail)
  refine wp_region_see 17 [39, 40, 41, 42, 43, 44, 45, 46, 47, 48, 49, 50, 51, 52, 53, 54, 8] [(39, .is (.pointer (some ⟨w.heap.size, 4, none⟩))), (40, .is (.int .i64 (n : Nat))), (41, .is (.bool true)), (42, .is (.bool true)), (43, .is (.pointer (some ⟨w.heap.size, 4, none⟩))), (44, .is (.int .i64 (n : Nat))), (45, .is (.bool true)), (46, .is (.bool true)), (47, .is (.bool true)), (48, .num (nv p) 4096), (49, .is (.int .i64 ((blen (nv p) : Nat) : Int))), (50, .is (.pointer (some ⟨w.heap.size, 4, none⟩))), (51, .is (.int .i64 (n : Nat))), (52, .is (.int .i64 (8 * (n : Nat)))), (53, .is (.bool true)), (54, .is (.bool true)), (8, .is (.bool true))] (by kernel_rfl) (by kernel_rfl) (by rfl) ?_ ?_
  · refine seeOps_cons ?_ (seeOps_cons ?_ (seeOps_cons ?_ (seeOps_cons ?_ (seeOps_cons ?_ (seeOps_cons ?_ (seeOps_cons ?_ (seeOps_cons ?_ (seeOps_cons ?_ (seeOps_cons ?_ (seeOps_cons ?_ (seeOps_cons ?_ (seeOps_cons ?_ (seeOps_cons ?_ (seeOps_cons ?_ (seeOps_cons ?_ (seeOps_cons ?_ seeOps_nil))))))))))))))))
    · intro w2 hb2 fr hout hin
      have h1 : fr.tmps.getD 1 undef = .pointer (some ⟨w.heap.size, 0, none⟩) := hout 1 (by decide)
      exact op_fieldN (.tmp 1) rfl (by decide) h1 (wanted_none rfl) rfl
    · intro w2 hb2 fr hout hin
      have h39 : fr.tmps.getD 39 undef = .pointer (some ⟨w.heap.size, 4, none⟩) := hin 39 (by decide) (by decide)
      exact op_load1 (.tmp 39) rfl (fun _ => by kernel_rfl) h39 ((HX.out.below hb2).c4) (wanted_none rfl) (rfl)
    · intro w2 hb2 fr hout hin
      have h40 : fr.tmps.getD 40 undef = .int .i64 (n : Nat) := hin 40 (by decide) (by decide)
      exact op_cmp .geq (.tmp 40) (.const (.int .i64 0)) _ rfl h40 rfl (K41.out) (wanted_none rfl) rfl
    · intro w2 hb2 fr hout hin
      have h41 : fr.tmps.getD 41 undef = .bool true := hin 41 (by decide) (by decide)
      exact relStep_move (.tmp 41) rfl (wanted_none rfl) h41
    · intro w2 hb2 fr hout hin
      have h42 : fr.tmps.getD 42 undef = .bool true := hin 42 (by decide) (by decide)
      have h1 : fr.tmps.getD 1 undef = .pointer (some ⟨w.heap.size, 0, none⟩) := hout 1 (by decide)
      exact op_fieldN (.tmp 1) rfl (by decide) h1 (wanted_some (g := 3) (t := 42) (b := true) rfl rfl h42) rfl
    · intro w2 hb2 fr hout hin
      have h42 : fr.tmps.getD 42 undef = .bool true := hin 42 (by decide) (by decide)
      have h43 : fr.tmps.getD 43 undef = .pointer (some ⟨w.heap.size, 4, none⟩) := hin 43 (by decide) (by decide)
      exact op_load1 (.tmp 43) rfl (fun _ => by kernel_rfl) h43 ((HX.out.below hb2).c4) (wanted_some (g := 3) (t := 42) (b := true) rfl rfl h42) (rfl)
    · intro w2 hb2 fr hout hin
      have h42 : fr.tmps.getD 42 undef = .bool true := hin 42 (by decide) (by decide)
      have h44 : fr.tmps.getD 44 undef = .int .i64 (n : Nat) := hin 44 (by decide) (by decide)
      exact op_cmp .leq (.tmp 44) (.const (.int .i64 65536)) _ rfl h44 rfl (K45.out) (wanted_some (g := 3) (t := 42) (b := true) rfl rfl h42) rfl
    · intro w2 hb2 fr hout hin
      have h42 : fr.tmps.getD 42 undef = .bool true := hin 42 (by decide) (by decide)
      have h45 : fr.tmps.getD 45 undef = .bool true := hin 45 (by decide) (by decide)
      exact relStep_pick (.tmp 42) (.tmp 45) (.const (.bool false)) rfl h42 (wanted_none rfl) h45
    · intro w2 hb2 fr hout hin
      have h46 : fr.tmps.getD 46 undef = .bool true := hin 46 (by decide) (by decide)
      exact relStep_move (.tmp 46) rfl (wanted_none rfl) h46
    · intro w2 hb2 fr hout hin
      have h47 : fr.tmps.getD 47 undef = .bool true := hin 47 (by decide) (by decide)
      have h3 : Num w2 (fr.tmps.getD 3 undef) (nv p) 4096 := by
        have e : fr.tmps.getD 3 undef = v3 := hout 3 (by decide)
        rw [e]; exact H3.out.below hb2
      exact relStep_move (.tmp 3) rfl (wanted_some (g := 8) (t := 47) (b := true) rfl rfl h47) h3
    · intro w2 hb2 fr hout hin
      have h47 : fr.tmps.getD 47 undef = .bool true := hin 47 (by decide) (by decide)
      have h48 : Num w2 (fr.tmps.getD 48 undef) (nv p) 4096 := hin 48 (by decide) (by decide)
      exact op_call1 (.tmp 48) rfl en_len2 (wanted_some (g := 8) (t := 47) (b := true) rfl rfl h47) (len2_v _ h48 (by decide)) (fun _ _ h => h)
    · intro w2 hb2 fr hout hin
      have h47 : fr.tmps.getD 47 undef = .bool true := hin 47 (by decide) (by decide)
      have h1 : fr.tmps.getD 1 undef = .pointer (some ⟨w.heap.size, 0, none⟩) := hout 1 (by decide)
      exact op_fieldN (.tmp 1) rfl (by decide) h1 (wanted_some (g := 8) (t := 47) (b := true) rfl rfl h47) rfl
    · intro w2 hb2 fr hout hin
      have h47 : fr.tmps.getD 47 undef = .bool true := hin 47 (by decide) (by decide)
      have h50 : fr.tmps.getD 50 undef = .pointer (some ⟨w.heap.size, 4, none⟩) := hin 50 (by decide) (by decide)
      exact op_load1 (.tmp 50) rfl (fun _ => by kernel_rfl) h50 ((HX.out.below hb2).c4) (wanted_some (g := 8) (t := 47) (b := true) rfl rfl h47) (rfl)
    · intro w2 hb2 fr hout hin
      have h47 : fr.tmps.getD 47 undef = .bool true := hin 47 (by decide) (by decide)
      have h51 : fr.tmps.getD 51 undef = .int .i64 (n : Nat) := hin 51 (by decide) (by decide)
      exact op_arith .mul (.const (.int .i64 8)) (.tmp 51) _ rfl rfl h51 (K52.out) (wanted_some (g := 8) (t := 47) (b := true) rfl rfl h47) rfl
    · intro w2 hb2 fr hout hin
      have h47 : fr.tmps.getD 47 undef = .bool true := hin 47 (by decide) (by decide)
      have h49 : fr.tmps.getD 49 undef = .int .i64 ((blen (nv p) : Nat) : Int) := hin 49 (by decide) (by decide)
      have h52 : fr.tmps.getD 52 undef = .int .i64 (8 * (n : Nat)) := hin 52 (by decide) (by decide)
      exact op_cmp .leq (.tmp 49) (.tmp 52) _ rfl h49 h52 (K53.out) (wanted_some (g := 8) (t := 47) (b := true) rfl rfl h47) rfl
    · intro w2 hb2 fr hout hin
      have h47 : fr.tmps.getD 47 undef = .bool true := hin 47 (by decide) (by decide)
      have h53 : fr.tmps.getD 53 undef = .bool true := hin 53 (by decide) (by decide)
      exact relStep_pick (.tmp 47) (.tmp 53) (.const (.bool false)) rfl h47 (wanted_none rfl) h53
    · intro w2 hb2 fr hout hin
      have h54 : fr.tmps.getD 54 undef = .bool true := hin 54 (by decide) (by decide)
      exact relStep_assign (.tmp 54) rfl (wanted_none rfl) h54
  intro w5 hb5
  refine relAsk_in (by rfl) ?_
  intro v39 h39
  obtain rfl : v39 = .pointer (some ⟨w.heap.size, 4, none⟩) := h39
  refine relAsk_in (by rfl) ?_
  intro v40 h40
  obtain rfl : v40 = .int .i64 (n : Nat) := h40
  refine relAsk_in (by rfl) ?_
  intro v41 h41
  obtain rfl : v41 = .bool true := h41
  refine relAsk_in (by rfl) ?_
  intro v42 h42
  obtain rfl : v42 = .bool true := h42
  refine relAsk_in (by rfl) ?_
  intro v43 h43
  obtain rfl : v43 = .pointer (some ⟨w.heap.size, 4, none⟩) := h43
  refine relAsk_in (by rfl) ?_
  intro v44 h44
  obtain rfl : v44 = .int .i64 (n : Nat) := h44
  refine relAsk_in (by rfl) ?_
  intro v45 h45
  obtain rfl : v45 = .bool true := h45
  refine relAsk_in (by rfl) ?_
  intro v46 h46
  obtain rfl : v46 = .bool true := h46
  refine relAsk_in (by rfl) ?_
  intro v47 h47
  obtain rfl : v47 = .bool true := h47
  refine relAsk_in (by rfl) ?_
  intro v48 h48
  refine relAsk_in (by rfl) ?_
  intro v49 h49
  obtain rfl : v49 = .int .i64 ((blen (nv p) : Nat) : Int) := h49
  refine relAsk_in (by rfl) ?_
  intro v50 h50
  obtain rfl : v50 = .pointer (some ⟨w.heap.size, 4, none⟩) := h50
  refine relAsk_in (by rfl) ?_
  intro v51 h51
  obtain rfl : v51 = .int .i64 (n : Nat) := h51
  refine relAsk_in (by rfl) ?_
  intro v52 h52
  obtain rfl : v52 = .int .i64 (8 * (n : Nat)) := h52
  refine relAsk_in (by rfl) ?_
  intro v53 h53
  obtain rfl : v53 = .bool true := h53
  refine relAsk_in (by rfl) ?_
  intro v54 h54
  obtain rfl : v54 = .bool true := h54
  refine relAsk_in (by rfl) ?_
  intro v8 h8
  obtain rfl : v8 = .bool true := h8
  refine relAsk_nil ?_
  have RA := Lib.hid (RA.out.below hb5)
  have RB := Lib.hid (RB.out.below hb5)
  have RM := Lib.hid (RM.out.below hb5)
  have HX := Lib.hid (HX.out.below hb5)
  have HW := Lib.hid (HW.out.trans (hb5.mono HW.out.size))
  have H3 := Lib.hid (H3.out.below hb5)
  have H4 := Lib.hid (H4.out.below hb5)
  have H6 := Lib.hid (H6.out.below hb5)
  clear h48 hb5
  refine wpList_nil ?_
  go_simp
  go_upto_region 8 with (fail)
  refine wp_region_see 25 [55, 56, 57, 58, 59, 60, 61, 62, 63, 64, 65, 66, 67, 68, 69, 70, 71, 72, 73, 74, 75, 76, 77, 78, 79] [(55, .is (.bool true)), (56, .is (.bool true)), (57, .is (.bool false)), (58, .is (.bool false)), (59, .is (.bool true)), (60, .is (.bool true)), (61, .byt (fillb (nv p) n)), (62, .is (.string (sOf (fillb (nv p) n)))), (63, .num (nv p) 4096), (64, .is (.pointer (some ⟨w.heap.size, 4, none⟩))), (65, .is (.int .i64 (n : Nat))), (66, .byt (fillb (nv p) n)), (67, .is (.string (sOf (fillb (nv p) n)))), (68, .is (.bool false)), (69, .is (.bool false)), (70, .is (.bool false)), (71, .is (.bool false)), (72, .is (.bool true)), (73, .is (.bool false)), (74, .is (.bool false)), (75, .any), (76, .any), (77, .any), (78, .is (.bool false)), (79, .is (.bool false))] (by kernel_rfl) (by kernel_rfl) (by rfl) ?_ ?_
  · refine seeOps_cons ?_ (seeOps_cons ?_ (seeOps_cons ?_ (seeOps_cons ?_ (seeOps_cons ?_ (seeOps_cons ?_ (seeOps_cons ?_ (seeOps_cons ?_ (seeOps_cons ?_ (seeOps_cons ?_ (seeOps_cons ?_ (seeOps_cons ?_ (seeOps_cons ?_ (seeOps_cons ?_ (seeOps_cons ?_ (seeOps_cons ?_ (seeOps_cons ?_ (seeOps_cons ?_ (seeOps_cons ?_ (seeOps_cons ?_ (seeOps_cons ?_ (seeOps_cons ?_ (seeOps_cons ?_ (seeOps_cons ?_ (seeOps_cons ?_ seeOps_nil))))))))))))))))))))))))
    · intro w2 hb2 fr hout hin
      have h7 : fr.tmps.getD 7 undef = .bool true := hout 7 (by decide)
      exact relStep_move (.tmp 7) rfl (wanted_none rfl) h7
    · intro w2 hb2 fr hout hin
      have h8 : fr.tmps.getD 8 undef = .bool true := hout 8 (by decide)
      exact relStep_move (.tmp 8) rfl (wanted_none rfl) h8
    · intro w2 hb2 fr hout hin
      have h55 : fr.tmps.getD 55 undef = .bool true := hin 55 (by decide) (by decide)
      have h56 : fr.tmps.getD 56 undef = .bool true := hin 56 (by decide) (by decide)
      exact op_neB (.tmp 55) (.tmp 56) _ rfl h55 h56 (wanted_none rfl) rfl
    · intro w2 hb2 fr hout hin
      have h57 : fr.tmps.getD 57 undef = .bool false := hin 57 (by decide) (by decide)
      exact relStep_move (.tmp 57) rfl (wanted_none rfl) h57
    · intro w2 hb2 fr hout hin
      have h58 : fr.tmps.getD 58 undef = .bool false := hin 58 (by decide) (by decide)
      have h8 : fr.tmps.getD 8 undef = .bool true := hout 8 (by decide)
      exact relStep_move (.tmp 8) rfl (wanted_some (g := 3) (t := 58) (b := false) rfl rfl h58) h8
    · intro w2 hb2 fr hout hin
      have h58 : fr.tmps.getD 58 undef = .bool false := hin 58 (by decide) (by decide)
      have h59 : fr.tmps.getD 59 undef = .bool true := hin 59 (by decide) (by decide)
      exact relStep_move (.tmp 59) rfl (wanted_some (g := 3) (t := 58) (b := false) rfl rfl h58) h59
    · intro w2 hb2 fr hout hin
      have h60 : fr.tmps.getD 60 undef = .bool true := hin 60 (by decide) (by decide)
      have h6 : Byt w2 (fr.tmps.getD 6 undef) (fillb (nv p) n) := by
        have e : fr.tmps.getD 6 undef = v6 := hout 6 (by decide)
        rw [e]; exact H6.out.below hb2
      exact relStep_move (.tmp 6) rfl (wanted_some (g := 5) (t := 60) (b := true) rfl rfl h60) h6
    · intro w2 hb2 fr hout hin
      have h60 : fr.tmps.getD 60 undef = .bool true := hin 60 (by decide) (by decide)
      have h61 : Byt w2 (fr.tmps.getD 61 undef) (fillb (nv p) n) := hin 61 (by decide) (by decide)
      exact op_str (.tmp 61) rfl h61 (wanted_some (g := 5) (t := 60) (b := true) rfl rfl h60) rfl
    · intro w2 hb2 fr hout hin
      have h60 : fr.tmps.getD 60 undef = .bool true := hin 60 (by decide) (by decide)
      have h3 : Num w2 (fr.tmps.getD 3 undef) (nv p) 4096 := by
        have e : fr.tmps.getD 3 undef = v3 := hout 3 (by decide)
        rw [e]; exact H3.out.below hb2
      exact relStep_move (.tmp 3) rfl (wanted_some (g := 5) (t := 60) (b := true) rfl rfl h60) h3
    · intro w2 hb2 fr hout hin
      have h60 : fr.tmps.getD 60 undef = .bool true := hin 60 (by decide) (by decide)
      have h1 : fr.tmps.getD 1 undef = .pointer (some ⟨w.heap.size, 0, none⟩) := hout 1 (by decide)
      exact op_fieldN (.tmp 1) rfl (by decide) h1 (wanted_some (g := 5) (t := 60) (b := true) rfl rfl h60) rfl
    · intro w2 hb2 fr hout hin
      have h60 : fr.tmps.getD 60 undef = .bool true := hin 60 (by decide) (by decide)
      have h64 : fr.tmps.getD 64 undef = .pointer (some ⟨w.heap.size, 4, none⟩) := hin 64 (by decide) (by decide)
      exact op_load1 (.tmp 64) rfl (fun _ => by kernel_rfl) h64 ((HX.out.below hb2).c4) (wanted_some (g := 5) (t := 60) (b := true) rfl rfl h60) (rfl)
    · intro w2 hb2 fr hout hin
      have h60 : fr.tmps.getD 60 undef = .bool true := hin 60 (by decide) (by decide)
      have h63 : Num w2 (fr.tmps.getD 63 undef) (nv p) 4096 := hin 63 (by decide) (by decide)
      have h65 : fr.tmps.getD 65 undef = .int .i64 (n : Nat) := hin 65 (by decide) (by decide)
      exact op_call2 (.tmp 63) (.tmp 65) rfl en_fill2 (wanted_some (g := 5) (t := 60) (b := true) rfl rfl h60) (by
        show Calls _ _ #[fr.tmps.getD 63 undef, fr.tmps.getD 65 undef] _ _
        rw [h65]; exact (fill2_v _ h63 (by decide) n HN6.out HFIT.out)) (fun _ _ h => h)
    · intro w2 hb2 fr hout hin
      have h60 : fr.tmps.getD 60 undef = .bool true := hin 60 (by decide) (by decide)
      have h66 : Byt w2 (fr.tmps.getD 66 undef) (fillb (nv p) n) := hin 66 (by decide) (by decide)
      exact op_str (.tmp 66) rfl h66 (wanted_some (g := 5) (t := 60) (b := true) rfl rfl h60) rfl
    · intro w2 hb2 fr hout hin
      have h60 : fr.tmps.getD 60 undef = .bool true := hin 60 (by decide) (by decide)
      have h62 : fr.tmps.getD 62 undef = .string (sOf (fillb (nv p) n)) := hin 62 (by decide) (by decide)
      have h67 : fr.tmps.getD 67 undef = .string (sOf (fillb (nv p) n)) := hin 67 (by decide) (by decide)
      exact op_neS (.tmp 62) (.tmp 67) _ rfl h62 h67 (wanted_some (g := 5) (t := 60) (b := true) rfl rfl h60) rfl
    · intro w2 hb2 fr hout hin
      have h58 : fr.tmps.getD 58 undef = .bool false := hin 58 (by decide) (by decide)
      have h60 : fr.tmps.getD 60 undef = .bool true := hin 60 (by decide) (by decide)
      have h68 : fr.tmps.getD 68 undef = .bool false := hin 68 (by decide) (by decide)
      exact relStep_pick (.tmp 60) (.tmp 68) (.const (.bool false)) rfl h60 (wanted_some (g := 3) (t := 58) (b := false) rfl rfl h58) h68
    · intro w2 hb2 fr hout hin
      have h58 : fr.tmps.getD 58 undef = .bool false := hin 58 (by decide) (by decide)
      have h69 : fr.tmps.getD 69 undef = .bool false := hin 69 (by decide) (by decide)
      exact relStep_pickF (.tmp 58) (.const (.bool true)) (.tmp 69) rfl h58 (wanted_none rfl) h69
    · intro w2 hb2 fr hout hin
      have h70 : fr.tmps.getD 70 undef = .bool false := hin 70 (by decide) (by decide)
      exact relStep_move (.tmp 70) rfl (wanted_none rfl) h70
    · intro w2 hb2 fr hout hin
      have h71 : fr.tmps.getD 71 undef = .bool false := hin 71 (by decide) (by decide)
      have h8 : fr.tmps.getD 8 undef = .bool true := hout 8 (by decide)
      exact relStep_move (.tmp 8) rfl (wanted_some (g := 16) (t := 71) (b := false) rfl rfl h71) h8
    · intro w2 hb2 fr hout hin
      have h71 : fr.tmps.getD 71 undef = .bool false := hin 71 (by decide) (by decide)
      have h72 : fr.tmps.getD 72 undef = .bool true := hin 72 (by decide) (by decide)
      exact op_not (.tmp 72) _ rfl h72 (wanted_some (g := 16) (t := 71) (b := false) rfl rfl h71) rfl
    · intro w2 hb2 fr hout hin
      have h71 : fr.tmps.getD 71 undef = .bool false := hin 71 (by decide) (by decide)
      have h73 : fr.tmps.getD 73 undef = .bool false := hin 73 (by decide) (by decide)
      exact relStep_move (.tmp 73) rfl (wanted_some (g := 16) (t := 71) (b := false) rfl rfl h71) h73
    · intro w2 hb2 fr hout hin
      have h74 : fr.tmps.getD 74 undef = .bool false := hin 74 (by decide) (by decide)
      exact relStep_skip (wanted_not rfl rfl h74 rfl) trivial
    · intro w2 hb2 fr hout hin
      have h74 : fr.tmps.getD 74 undef = .bool false := hin 74 (by decide) (by decide)
      exact relStep_skip (wanted_not rfl rfl h74 rfl) trivial
    · intro w2 hb2 fr hout hin
      have h74 : fr.tmps.getD 74 undef = .bool false := hin 74 (by decide) (by decide)
      exact relStep_skip (wanted_not rfl rfl h74 rfl) trivial
    · intro w2 hb2 fr hout hin
      have h71 : fr.tmps.getD 71 undef = .bool false := hin 71 (by decide) (by decide)
      have h74 : fr.tmps.getD 74 undef = .bool false := hin 74 (by decide) (by decide)
      exact relStep_pickF (.tmp 74) (.tmp 77) (.const (.bool false)) rfl h74 (wanted_some (g := 16) (t := 71) (b := false) rfl rfl h71) rfl
    · intro w2 hb2 fr hout hin
      have h71 : fr.tmps.getD 71 undef = .bool false := hin 71 (by decide) (by decide)
      have h78 : fr.tmps.getD 78 undef = .bool false := hin 78 (by decide) (by decide)
      exact relStep_pickF (.tmp 71) (.const (.bool true)) (.tmp 78) rfl h71 (wanted_none rfl) h78
  intro w6 hb6
  refine relAsk_in (by rfl) ?_
  intro v55 h55
  obtain rfl : v55 = .bool true := h55
  refine relAsk_in (by rfl) ?_
  intro v56 h56
  obtain rfl : v56 = .bool true := h56
  refine relAsk_in (by rfl) ?_
  intro v57 h57
  obtain rfl : v57 = .bool false := h57
  refine relAsk_in (by rfl) ?_
  intro v58 h58
  obtain rfl : v58 = .bool false := h58
  refine relAsk_in (by rfl) ?_
  intro v59 h59
  obtain rfl : v59 = .bool true := h59
  refine relAsk_in (by rfl) ?_
  intro v60 h60
  obtain rfl : v60 = .bool true := h60
  refine relAsk_in (by rfl) ?_
  intro v61 h61
  refine relAsk_in (by rfl) ?_
  intro v62 h62
  obtain rfl : v62 = .string (sOf (fillb (nv p) n)) := h62
  refine relAsk_in (by rfl) ?_
  intro v63 h63
  refine relAsk_in (by rfl) ?_
  intro v64 h64
  obtain rfl : v64 = .pointer (some ⟨w.heap.size, 4, none⟩) := h64
  refine relAsk_in (by rfl) ?_
  intro v65 h65
  obtain rfl : v65 = .int .i64 (n : Nat) := h65
  refine relAsk_in (by rfl) ?_
  intro v66 h66
  refine relAsk_in (by rfl) ?_
  intro v67 h67
  obtain rfl : v67 = .string (sOf (fillb (nv p) n)) := h67
  refine relAsk_in (by rfl) ?_
  intro v68 h68
  obtain rfl : v68 = .bool false := h68
  refine relAsk_in (by rfl) ?_
  intro v69 h69
  obtain rfl : v69 = .bool false := h69
  refine relAsk_in (by rfl) ?_
  intro v70 h70
  obtain rfl : v70 = .bool false := h70
  refine relAsk_in (by rfl) ?_
  intro v71 h71
  obtain rfl : v71 = .bool false := h71
  refine relAsk_in (by rfl) ?_
  intro v72 h72
  obtain rfl : v72 = .bool true := h72
  refine relAsk_in (by rfl) ?_
  intro v73 h73
  obtain rfl : v73 = .bool false := h73
  refine relAsk_in (by rfl) ?_
  intro v74 h74
  obtain rfl : v74 = .bool false := h74
  refine relAsk_in (by rfl) ?_
  intro v75 h75
  clear h75
  refine relAsk_in (by rfl) ?_
  intro v76 h76
  clear h76
  refine relAsk_in (by rfl) ?_
  intro v77 h77
  clear h77
  refine relAsk_in (by rfl) ?_
  intro v78 h78
  obtain rfl : v78 = .bool false := h78
  refine relAsk_in (by rfl) ?_
  intro v79 h79
  obtain rfl : v79 = .bool false := h79
  refine relAsk_nil ?_
  have RA := Lib.hid (RA.out.below hb6)
  have RB := Lib.hid (RB.out.below hb6)
  have RM := Lib.hid (RM.out.below hb6)
  have HX := Lib.hid (HX.out.below hb6)
  have HW := Lib.hid (HW.out.trans (hb6.mono HW.out.size))
  have H3 := Lib.hid (H3.out.below hb6)
  have H4 := Lib.hid (H4.out.below hb6)
  have H6 := Lib.hid (H6.out.below hb6)
  clear h61 h63 h66 hb6
  refine wpList_nil ?_
  go_simp
  go_upto_region 10 with (fail)
  refine wp_region_see 45 [80, 81, 82, 83, 84, 85, 86, 87, 88, 89, 90, 91, 92, 93, 94, 95, 96, 97, 98, 99, 100, 101, 102, 103, 104, 105, 106, 107, 108, 109, 110, 111, 112, 113, 114, 115, 116, 117, 118, 119, 120, 121, 122, 123, 2] [(80, .is (.pointer (some ⟨w.heap.size, 0, none⟩))), (81, .byt (xs)), (82, .byt (p)), (83, .byt (nb (nv p))), (84, .is (.string (sOf (nb (nv p))))), (85, .num (nv p) 4096), (86, .byt (nb (nv p))), (87, .is (.string (sOf (nb (nv p))))), (88, .is (.bool true)), (89, .is (.bool true)), (90, .is (.pointer (some ⟨w.heap.size, 0, none⟩))), (91, .byt (xs)), (92, .byt (p)), (93, .is (.pointer (some ⟨w.heap.size, 1, none⟩))), (94, .byt (ys)), (95, .byt (q)), (96, .is (.int .i64 (ordI (nv p) (nv q)))), (97, .num (nv p) 4096), (98, .num (nv q) 4096), (99, .is (.int .i64 (ordI (nv p) (nv q)))), (100, .is (.bool true)), (101, .is (.bool true)), (102, .is (.bool true)), (103, .is (.pointer (some ⟨w.heap.size, 0, none⟩))), (104, .byt (xs)), (105, .byt (p)), (106, .is (.int .i64 ((blen (nv p) : Nat) : Int))), (107, .num (nv p) 4096), (108, .is (.int .i64 ((blen (nv p) : Nat) : Int))), (109, .is (.bool true)), (110, .is (.bool true)), (111, .is (.bool true)), (112, .is (.pointer (some ⟨w.heap.size, 0, none⟩))), (113, .byt (xs)), (114, .byt (p)), (115, .is (.pointer (some ⟨w.heap.size, 3, none⟩))), (116, .is (.int .i64 (j : Nat))), (117, .is (.int .i64 0)), (118, .is (.int .i64 0)), (119, .is (.bool true)), (120, .is (.bool true)), (121, .is (.bool true)), (122, .is (.bool true)), (123, .is (.bool true)), (2, .is (.bool true))] (by kernel_rfl) (by kernel_rfl) (by rfl) ?_ ?_
  · refine seeOps_cons ?_ (seeOps_cons ?_ (seeOps_cons ?_ (seeOps_cons ?_ (seeOps_cons ?_ (seeOps_cons ?_ (seeOps_cons ?_ (seeOps_cons ?_ (seeOps_cons ?_ (seeOps_cons ?_ (seeOps_cons ?_ (seeOps_cons ?_ (seeOps_cons ?_ (seeOps_cons ?_ (seeOps_cons ?_ (seeOps_cons ?_ (seeOps_cons ?_ (seeOps_cons ?_ (seeOps_cons ?_ (seeOps_cons ?_ (seeOps_cons ?_ (seeOps_cons ?_ (seeOps_cons ?_ (seeOps_cons ?_ (seeOps_cons ?_ (seeOps_cons ?_ (seeOps_cons ?_ (seeOps_cons ?_ (seeOps_cons ?_ (seeOps_cons ?_ (seeOps_cons ?_ (seeOps_cons ?_ (seeOps_cons ?_ (seeOps_cons ?_ (seeOps_cons ?_ (seeOps_cons ?_ (seeOps_cons ?_ (seeOps_cons ?_ (seeOps_cons ?_ (seeOps_cons ?_ (seeOps_cons ?_ (seeOps_cons ?_ (seeOps_cons ?_ (seeOps_cons ?_ (seeOps_cons ?_ seeOps_nil))))))))))))))))))))))))))))))))))))))))))))
    · intro w2 hb2 fr hout hin
      have h1 : fr.tmps.getD 1 undef = .pointer (some ⟨w.heap.size, 0, none⟩) := hout 1 (by decide)
      exact op_fieldN (.tmp 1) rfl (by decide) h1 (wanted_none rfl) rfl
    · intro w2 hb2 fr hout hin
      have h80 : fr.tmps.getD 80 undef = .pointer (some ⟨w.heap.size, 0, none⟩) := hin 80 (by decide) (by decide)
      exact op_load1 (.tmp 80) rfl (fun _ => by kernel_rfl) h80 ((HX.out.below hb2).c0) (wanted_none rfl) (RA.out.below hb2)
    · intro w2 hb2 fr hout hin
      have h81 : Byt w2 (fr.tmps.getD 81 undef) (xs) := hin 81 (by decide) (by decide)
      exact op_call1 (.tmp 81) rfl en_few (wanted_none rfl) (FFp.out _ h81) (fun _ _ h => h)
    · intro w2 hb2 fr hout hin
      have h82 : Byt w2 (fr.tmps.getD 82 undef) (p) := hin 82 (by decide) (by decide)
      exact op_call1 (.tmp 82) rfl en_trim (wanted_none rfl) (trim_v _ h82 (by have := HLp.out; omega)) (fun _ _ h => h)
    · intro w2 hb2 fr hout hin
      have h83 : Byt w2 (fr.tmps.getD 83 undef) (nb (nv p)) := hin 83 (by decide) (by decide)
      exact op_str (.tmp 83) rfl h83 (wanted_none rfl) rfl
    · intro w2 hb2 fr hout hin
      have h3 : Num w2 (fr.tmps.getD 3 undef) (nv p) 4096 := by
        have e : fr.tmps.getD 3 undef = v3 := hout 3 (by decide)
        rw [e]; exact H3.out.below hb2
      exact relStep_move (.tmp 3) rfl (wanted_none rfl) h3
    · intro w2 hb2 fr hout hin
      have h85 : Num w2 (fr.tmps.getD 85 undef) (nv p) 4096 := hin 85 (by decide) (by decide)
      exact op_call1 (.tmp 85) rfl en_bytes2 (wanted_none rfl) (bytes2_v _ h85 (by decide)) (fun _ _ h => h)
    · intro w2 hb2 fr hout hin
      have h86 : Byt w2 (fr.tmps.getD 86 undef) (nb (nv p)) := hin 86 (by decide) (by decide)
      exact op_str (.tmp 86) rfl h86 (wanted_none rfl) rfl
    · intro w2 hb2 fr hout hin
      have h84 : fr.tmps.getD 84 undef = .string (sOf (nb (nv p))) := hin 84 (by decide) (by decide)
      have h87 : fr.tmps.getD 87 undef = .string (sOf (nb (nv p))) := hin 87 (by decide) (by decide)
      exact op_eqS (.tmp 84) (.tmp 87) _ rfl h84 h87 (wanted_none rfl) rfl
    · intro w2 hb2 fr hout hin
      have h88 : fr.tmps.getD 88 undef = .bool true := hin 88 (by decide) (by decide)
      exact relStep_move (.tmp 88) rfl (wanted_none rfl) h88
    · intro w2 hb2 fr hout hin
      have h89 : fr.tmps.getD 89 undef = .bool true := hin 89 (by decide) (by decide)
      have h1 : fr.tmps.getD 1 undef = .pointer (some ⟨w.heap.size, 0, none⟩) := hout 1 (by decide)
      exact op_fieldN (.tmp 1) rfl (by decide) h1 (wanted_some (g := 9) (t := 89) (b := true) rfl rfl h89) rfl
    · intro w2 hb2 fr hout hin
      have h89 : fr.tmps.getD 89 undef = .bool true := hin 89 (by decide) (by decide)
      have h90 : fr.tmps.getD 90 undef = .pointer (some ⟨w.heap.size, 0, none⟩) := hin 90 (by decide) (by decide)
      exact op_load1 (.tmp 90) rfl (fun _ => by kernel_rfl) h90 ((HX.out.below hb2).c0) (wanted_some (g := 9) (t := 89) (b := true) rfl rfl h89) (RA.out.below hb2)
    · intro w2 hb2 fr hout hin
      have h89 : fr.tmps.getD 89 undef = .bool true := hin 89 (by decide) (by decide)
      have h91 : Byt w2 (fr.tmps.getD 91 undef) (xs) := hin 91 (by decide) (by decide)
      exact op_call1 (.tmp 91) rfl en_few (wanted_some (g := 9) (t := 89) (b := true) rfl rfl h89) (FFp.out _ h91) (fun _ _ h => h)
    · intro w2 hb2 fr hout hin
      have h89 : fr.tmps.getD 89 undef = .bool true := hin 89 (by decide) (by decide)
      have h1 : fr.tmps.getD 1 undef = .pointer (some ⟨w.heap.size, 0, none⟩) := hout 1 (by decide)
      exact op_fieldN (.tmp 1) rfl (by decide) h1 (wanted_some (g := 9) (t := 89) (b := true) rfl rfl h89) rfl
    · intro w2 hb2 fr hout hin
      have h89 : fr.tmps.getD 89 undef = .bool true := hin 89 (by decide) (by decide)
      have h93 : fr.tmps.getD 93 undef = .pointer (some ⟨w.heap.size, 1, none⟩) := hin 93 (by decide) (by decide)
      exact op_load1 (.tmp 93) rfl (fun _ => by kernel_rfl) h93 ((HX.out.below hb2).c1) (wanted_some (g := 9) (t := 89) (b := true) rfl rfl h89) (RB.out.below hb2)
    · intro w2 hb2 fr hout hin
      have h89 : fr.tmps.getD 89 undef = .bool true := hin 89 (by decide) (by decide)
      have h94 : Byt w2 (fr.tmps.getD 94 undef) (ys) := hin 94 (by decide) (by decide)
      exact op_call1 (.tmp 94) rfl en_few (wanted_some (g := 9) (t := 89) (b := true) rfl rfl h89) (FFq.out _ h94) (fun _ _ h => h)
    · intro w2 hb2 fr hout hin
      have h89 : fr.tmps.getD 89 undef = .bool true := hin 89 (by decide) (by decide)
      have h92 : Byt w2 (fr.tmps.getD 92 undef) (p) := hin 92 (by decide) (by decide)
      have h95 : Byt w2 (fr.tmps.getD 95 undef) (q) := hin 95 (by decide) (by decide)
      exact op_call2 (.tmp 92) (.tmp 95) rfl en_cmp (wanted_some (g := 9) (t := 89) (b := true) rfl rfl h89) (cmp_v _ h92 h95 (by have := HLp.out; omega) (by have := HLq.out; omega)) (fun _ _ h => h)
    · intro w2 hb2 fr hout hin
      have h89 : fr.tmps.getD 89 undef = .bool true := hin 89 (by decide) (by decide)
      have h3 : Num w2 (fr.tmps.getD 3 undef) (nv p) 4096 := by
        have e : fr.tmps.getD 3 undef = v3 := hout 3 (by decide)
        rw [e]; exact H3.out.below hb2
      exact relStep_move (.tmp 3) rfl (wanted_some (g := 9) (t := 89) (b := true) rfl rfl h89) h3
    · intro w2 hb2 fr hout hin
      have h89 : fr.tmps.getD 89 undef = .bool true := hin 89 (by decide) (by decide)
      have h4 : Num w2 (fr.tmps.getD 4 undef) (nv q) 4096 := by
        have e : fr.tmps.getD 4 undef = v4 := hout 4 (by decide)
        rw [e]; exact H4.out.below hb2
      exact relStep_move (.tmp 4) rfl (wanted_some (g := 9) (t := 89) (b := true) rfl rfl h89) h4
    · intro w2 hb2 fr hout hin
      have h89 : fr.tmps.getD 89 undef = .bool true := hin 89 (by decide) (by decide)
      have h97 : Num w2 (fr.tmps.getD 97 undef) (nv p) 4096 := hin 97 (by decide) (by decide)
      have h98 : Num w2 (fr.tmps.getD 98 undef) (nv q) 4096 := hin 98 (by decide) (by decide)
      exact op_call2 (.tmp 97) (.tmp 98) rfl en_cmp2 (wanted_some (g := 9) (t := 89) (b := true) rfl rfl h89) (cmp2_v _ h97 h98 (by decide)) (fun _ _ h => h)
    · intro w2 hb2 fr hout hin
      have h89 : fr.tmps.getD 89 undef = .bool true := hin 89 (by decide) (by decide)
      have h96 : fr.tmps.getD 96 undef = .int .i64 (ordI (nv p) (nv q)) := hin 96 (by decide) (by decide)
      have h99 : fr.tmps.getD 99 undef = .int .i64 (ordI (nv p) (nv q)) := hin 99 (by decide) (by decide)
      exact op_eqI (.tmp 96) (.tmp 99) _ rfl h96 h99 (wanted_some (g := 9) (t := 89) (b := true) rfl rfl h89) rfl
    · intro w2 hb2 fr hout hin
      have h89 : fr.tmps.getD 89 undef = .bool true := hin 89 (by decide) (by decide)
      have h100 : fr.tmps.getD 100 undef = .bool true := hin 100 (by decide) (by decide)
      exact relStep_pick (.tmp 89) (.tmp 100) (.const (.bool false)) rfl h89 (wanted_none rfl) h100
    · intro w2 hb2 fr hout hin
      have h101 : fr.tmps.getD 101 undef = .bool true := hin 101 (by decide) (by decide)
      exact relStep_move (.tmp 101) rfl (wanted_none rfl) h101
    · intro w2 hb2 fr hout hin
      have h102 : fr.tmps.getD 102 undef = .bool true := hin 102 (by decide) (by decide)
      have h1 : fr.tmps.getD 1 undef = .pointer (some ⟨w.heap.size, 0, none⟩) := hout 1 (by decide)
      exact op_fieldN (.tmp 1) rfl (by decide) h1 (wanted_some (g := 22) (t := 102) (b := true) rfl rfl h102) rfl
    · intro w2 hb2 fr hout hin
      have h102 : fr.tmps.getD 102 undef = .bool true := hin 102 (by decide) (by decide)
      have h103 : fr.tmps.getD 103 undef = .pointer (some ⟨w.heap.size, 0, none⟩) := hin 103 (by decide) (by decide)
      exact op_load1 (.tmp 103) rfl (fun _ => by kernel_rfl) h103 ((HX.out.below hb2).c0) (wanted_some (g := 22) (t := 102) (b := true) rfl rfl h102) (RA.out.below hb2)
    · intro w2 hb2 fr hout hin
      have h102 : fr.tmps.getD 102 undef = .bool true := hin 102 (by decide) (by decide)
      have h104 : Byt w2 (fr.tmps.getD 104 undef) (xs) := hin 104 (by decide) (by decide)
      exact op_call1 (.tmp 104) rfl en_few (wanted_some (g := 22) (t := 102) (b := true) rfl rfl h102) (FFp.out _ h104) (fun _ _ h => h)
    · intro w2 hb2 fr hout hin
      have h102 : fr.tmps.getD 102 undef = .bool true := hin 102 (by decide) (by decide)
      have h105 : Byt w2 (fr.tmps.getD 105 undef) (p) := hin 105 (by decide) (by decide)
      exact op_call1 (.tmp 105) rfl en_bits (wanted_some (g := 22) (t := 102) (b := true) rfl rfl h102) (bits_v _ h105 (by have := HLp.out; omega)) (fun _ _ h => h)
    · intro w2 hb2 fr hout hin
      have h102 : fr.tmps.getD 102 undef = .bool true := hin 102 (by decide) (by decide)
      have h3 : Num w2 (fr.tmps.getD 3 undef) (nv p) 4096 := by
        have e : fr.tmps.getD 3 undef = v3 := hout 3 (by decide)
        rw [e]; exact H3.out.below hb2
      exact relStep_move (.tmp 3) rfl (wanted_some (g := 22) (t := 102) (b := true) rfl rfl h102) h3
    · intro w2 hb2 fr hout hin
      have h102 : fr.tmps.getD 102 undef = .bool true := hin 102 (by decide) (by decide)
      have h107 : Num w2 (fr.tmps.getD 107 undef) (nv p) 4096 := hin 107 (by decide) (by decide)
      exact op_call1 (.tmp 107) rfl en_len2 (wanted_some (g := 22) (t := 102) (b := true) rfl rfl h102) (len2_v _ h107 (by decide)) (fun _ _ h => h)
    · intro w2 hb2 fr hout hin
      have h102 : fr.tmps.getD 102 undef = .bool true := hin 102 (by decide) (by decide)
      have h106 : fr.tmps.getD 106 undef = .int .i64 ((blen (nv p) : Nat) : Int) := hin 106 (by decide) (by decide)
      have h108 : fr.tmps.getD 108 undef = .int .i64 ((blen (nv p) : Nat) : Int) := hin 108 (by decide) (by decide)
      exact op_eqI (.tmp 106) (.tmp 108) _ rfl h106 h108 (wanted_some (g := 22) (t := 102) (b := true) rfl rfl h102) rfl
    · intro w2 hb2 fr hout hin
      have h102 : fr.tmps.getD 102 undef = .bool true := hin 102 (by decide) (by decide)
      have h109 : fr.tmps.getD 109 undef = .bool true := hin 109 (by decide) (by decide)
      exact relStep_pick (.tmp 102) (.tmp 109) (.const (.bool false)) rfl h102 (wanted_none rfl) h109
    · intro w2 hb2 fr hout hin
      have h110 : fr.tmps.getD 110 undef = .bool true := hin 110 (by decide) (by decide)
      exact relStep_move (.tmp 110) rfl (wanted_none rfl) h110
    · intro w2 hb2 fr hout hin
      have h111 : fr.tmps.getD 111 undef = .bool true := hin 111 (by decide) (by decide)
      have h1 : fr.tmps.getD 1 undef = .pointer (some ⟨w.heap.size, 0, none⟩) := hout 1 (by decide)
      exact op_fieldN (.tmp 1) rfl (by decide) h1 (wanted_some (g := 31) (t := 111) (b := true) rfl rfl h111) rfl
    · intro w2 hb2 fr hout hin
      have h111 : fr.tmps.getD 111 undef = .bool true := hin 111 (by decide) (by decide)
      have h112 : fr.tmps.getD 112 undef = .pointer (some ⟨w.heap.size, 0, none⟩) := hin 112 (by decide) (by decide)
      exact op_load1 (.tmp 112) rfl (fun _ => by kernel_rfl) h112 ((HX.out.below hb2).c0) (wanted_some (g := 31) (t := 111) (b := true) rfl rfl h111) (RA.out.below hb2)
    · intro w2 hb2 fr hout hin
      have h111 : fr.tmps.getD 111 undef = .bool true := hin 111 (by decide) (by decide)
      have h113 : Byt w2 (fr.tmps.getD 113 undef) (xs) := hin 113 (by decide) (by decide)
      exact op_call1 (.tmp 113) rfl en_few (wanted_some (g := 31) (t := 111) (b := true) rfl rfl h111) (FFp.out _ h113) (fun _ _ h => h)
    · intro w2 hb2 fr hout hin
      have h111 : fr.tmps.getD 111 undef = .bool true := hin 111 (by decide) (by decide)
      have h1 : fr.tmps.getD 1 undef = .pointer (some ⟨w.heap.size, 0, none⟩) := hout 1 (by decide)
      exact op_fieldN (.tmp 1) rfl (by decide) h1 (wanted_some (g := 31) (t := 111) (b := true) rfl rfl h111) rfl
    · intro w2 hb2 fr hout hin
      have h111 : fr.tmps.getD 111 undef = .bool true := hin 111 (by decide) (by decide)
      have h115 : fr.tmps.getD 115 undef = .pointer (some ⟨w.heap.size, 3, none⟩) := hin 115 (by decide) (by decide)
      exact op_load1 (.tmp 115) rfl (fun _ => by kernel_rfl) h115 ((HX.out.below hb2).c3) (wanted_some (g := 31) (t := 111) (b := true) rfl rfl h111) (rfl)
    · intro w2 hb2 fr hout hin
      have h111 : fr.tmps.getD 111 undef = .bool true := hin 111 (by decide) (by decide)
      have h114 : Byt w2 (fr.tmps.getD 114 undef) (p) := hin 114 (by decide) (by decide)
      have h116 : fr.tmps.getD 116 undef = .int .i64 (j : Nat) := hin 116 (by decide) (by decide)
      exact op_call2 (.tmp 114) (.tmp 116) rfl en_bit (wanted_some (g := 31) (t := 111) (b := true) rfl rfl h111) (by
        show Calls _ _ #[fr.tmps.getD 114 undef, fr.tmps.getD 116 undef] _ _
        rw [h116]; exact (bitf_v _ h114 HLp.out j HJ.out HJ8.out)) (fun _ _ h => h)
    · intro w2 hb2 fr hout hin
      have h111 : fr.tmps.getD 111 undef = .bool true := hin 111 (by decide) (by decide)
      have h5 : fr.tmps.getD 5 undef = .int .i64 0 := hout 5 (by decide)
      exact relStep_move (.tmp 5) rfl (wanted_some (g := 31) (t := 111) (b := true) rfl rfl h111) h5
    · intro w2 hb2 fr hout hin
      have h111 : fr.tmps.getD 111 undef = .bool true := hin 111 (by decide) (by decide)
      have h117 : fr.tmps.getD 117 undef = .int .i64 0 := hin 117 (by decide) (by decide)
      have h118 : fr.tmps.getD 118 undef = .int .i64 0 := hin 118 (by decide) (by decide)
      exact op_eqI (.tmp 117) (.tmp 118) _ rfl h117 h118 (wanted_some (g := 31) (t := 111) (b := true) rfl rfl h111) rfl
    · intro w2 hb2 fr hout hin
      have h111 : fr.tmps.getD 111 undef = .bool true := hin 111 (by decide) (by decide)
      have h119 : fr.tmps.getD 119 undef = .bool true := hin 119 (by decide) (by decide)
      exact relStep_pick (.tmp 111) (.tmp 119) (.const (.bool false)) rfl h111 (wanted_none rfl) h119
    · intro w2 hb2 fr hout hin
      have h120 : fr.tmps.getD 120 undef = .bool true := hin 120 (by decide) (by decide)
      exact relStep_move (.tmp 120) rfl (wanted_none rfl) h120
    · intro w2 hb2 fr hout hin
      have h121 : fr.tmps.getD 121 undef = .bool true := hin 121 (by decide) (by decide)
      exact op_call0 rfl en_wakes (wanted_some (g := 41) (t := 121) (b := true) rfl rfl h121) (nwakes_v _) (fun _ _ h => h)
    · intro w2 hb2 fr hout hin
      have h121 : fr.tmps.getD 121 undef = .bool true := hin 121 (by decide) (by decide)
      have h122 : fr.tmps.getD 122 undef = .bool true := hin 122 (by decide) (by decide)
      exact relStep_pick (.tmp 121) (.tmp 122) (.const (.bool false)) rfl h121 (wanted_none rfl) h122
    · intro w2 hb2 fr hout hin
      have h123 : fr.tmps.getD 123 undef = .bool true := hin 123 (by decide) (by decide)
      exact relStep_assign (.tmp 123) rfl (wanted_none rfl) h123
  intro w7 hb7
  refine relAsk_in (by rfl) ?_
  intro v80 h80
  obtain rfl : v80 = .pointer (some ⟨w.heap.size, 0, none⟩) := h80
  refine relAsk_in (by rfl) ?_
  intro v81 h81
  refine relAsk_in (by rfl) ?_
  intro v82 h82
  refine relAsk_in (by rfl) ?_
  intro v83 h83
  refine relAsk_in (by rfl) ?_
  intro v84 h84
  obtain rfl : v84 = .string (sOf (nb (nv p))) := h84
  refine relAsk_in (by rfl) ?_
  intro v85 h85
  refine relAsk_in (by rfl) ?_
  intro v86 h86
  refine relAsk_in (by rfl) ?_
  intro v87 h87
  obtain rfl : v87 = .string (sOf (nb (nv p))) := h87
  refine relAsk_in (by rfl) ?_
  intro v88 h88
  obtain rfl : v88 = .bool true := h88
  refine relAsk_in (by rfl) ?_
  intro v89 h89
  obtain rfl : v89 = .bool true := h89
  refine relAsk_in (by rfl) ?_
  intro v90 h90
  obtain rfl : v90 = .pointer (some ⟨w.heap.size, 0, none⟩) := h90
  refine relAsk_in (by rfl) ?_
  intro v91 h91
  refine relAsk_in (by rfl) ?_
  intro v92 h92
  refine relAsk_in (by rfl) ?_
  intro v93 h93
  obtain rfl : v93 = .pointer (some ⟨w.heap.size, 1, none⟩) := h93
  refine relAsk_in (by rfl) ?_
  intro v94 h94
  refine relAsk_in (by rfl) ?_
  intro v95 h95
  refine relAsk_in (by rfl) ?_
  intro v96 h96
  obtain rfl : v96 = .int .i64 (ordI (nv p) (nv q)) := h96
  refine relAsk_in (by rfl) ?_
  intro v97 h97
  refine relAsk_in (by rfl) ?_
  intro v98 h98
  refine relAsk_in (by rfl) ?_
  intro v99 h99
  obtain rfl : v99 = .int .i64 (ordI (nv p) (nv q)) := h99
  refine relAsk_in (by rfl) ?_
  intro v100 h100
  obtain rfl : v100 = .bool true := h100
  refine relAsk_in (by rfl) ?_
  intro v101 h101
  obtain rfl : v101 = .bool true := h101
  refine relAsk_in (by rfl) ?_
  intro v102 h102
  obtain rfl : v102 = .bool true := h102
  refine relAsk_in (by rfl) ?_
  intro v103 h103
  obtain rfl : v103 = .pointer (some ⟨w.heap.size, 0, none⟩) := h103
  refine relAsk_in (by rfl) ?_
  intro v104 h104
  refine relAsk_in (by rfl) ?_
  intro v105 h105
  refine relAsk_in (by rfl) ?_
  intro v106 h106
  obtain rfl : v106 = .int .i64 ((blen (nv p) : Nat) : Int) := h106
  refine relAsk_in (by rfl) ?_
  intro v107 h107
  refine relAsk_in (by rfl) ?_
  intro v108 h108
  obtain rfl : v108 = .int .i64 ((blen (nv p) : Nat) : Int) := h108
  refine relAsk_in (by rfl) ?_
  intro v109 h109
  obtain rfl : v109 = .bool true := h109
  refine relAsk_in (by rfl) ?_
  intro v110 h110
  obtain rfl : v110 = .bool true := h110
  refine relAsk_in (by rfl) ?_
  intro v111 h111
  obtain rfl : v111 = .bool true := h111
  refine relAsk_in (by rfl) ?_
  intro v112 h112
  obtain rfl : v112 = .pointer (some ⟨w.heap.size, 0, none⟩) := h112
  refine relAsk_in (by rfl) ?_
  intro v113 h113
  refine relAsk_in (by rfl) ?_
  intro v114 h114
  refine relAsk_in (by rfl) ?_
  intro v115 h115
  obtain rfl : v115 = .pointer (some ⟨w.heap.size, 3, none⟩) := h115
  refine relAsk_in (by rfl) ?_
  intro v116 h116
  obtain rfl : v116 = .int .i64 (j : Nat) := h116
  refine relAsk_in (by rfl) ?_
  intro v117 h117
  obtain rfl : v117 = .int .i64 0 := h117
  refine relAsk_in (by rfl) ?_
  intro v118 h118
  obtain rfl : v118 = .int .i64 0 := h118
  refine relAsk_in (by rfl) ?_
  intro v119 h119
  obtain rfl : v119 = .bool true := h119
  refine relAsk_in (by rfl) ?_
  intro v120 h120
  obtain rfl : v120 = .bool true := h120
  refine relAsk_in (by rfl) ?_
  intro v121 h121
  obtain rfl : v121 = .bool true := h121
  refine relAsk_in (by rfl) ?_
  intro v122 h122
  obtain rfl : v122 = .bool true := h122
  refine relAsk_in (by rfl) ?_
  intro v123 h123
  obtain rfl : v123 = .bool true := h123
  refine relAsk_in (by rfl) ?_
  intro v2 h2
  obtain rfl : v2 = .bool true := h2
  refine relAsk_nil ?_
  have RA := Lib.hid (RA.out.below hb7)
  have RB := Lib.hid (RB.out.below hb7)
  have RM := Lib.hid (RM.out.below hb7)
  have HX := Lib.hid (HX.out.below hb7)
  have HW := Lib.hid (HW.out.trans (hb7.mono HW.out.size))
  have H3 := Lib.hid (H3.out.below hb7)
  have H4 := Lib.hid (H4.out.below hb7)
  have H6 := Lib.hid (H6.out.below hb7)
  clear h81 h82 h83 h85 h86 h91 h92 h94 h95 h97 h98 h104 h105 h107 h113 h114 hb7
  refine wpList_nil ?_
  go_simp
  go_wp2_with fail
  go_ret
  exact ⟨rfl, HW.out⟩

set_option maxRecDepth 100000 in
set_option maxHeartbeats 12800000 in
theorem forms_far_short {A B M : Option Addr} {ca cb cm : Nat} {j : Nat} {n : Nat} {xs ys zs : List Nat} (w : World) (hA : Rd .u8 w A ca xs) (dA : Ds 256 xs) (hB : Rd .u8 w B cb ys) (dB : Ds 256 ys) (hM : Rd .u8 w M cm zs) (dM : Ds 256 zs) (hj : 4808 ≤ j) (hj2 : j ≤ 9223372036854775807) (hn : n ≤ 65536) (hf : ¬ nv (xs.take 600) < 256 ^ n) :
    Calls Try.prog 11 #[.agg #[.slice A xs.length ca, .slice B ys.length cb, .slice M zs.length cm, .int .i64 (j : Nat), .int .i64 (n : Nat)]] w (RetV (.bool true) w) := by
  obtain ⟨p, hp⟩ : ∃ zz, zz = xs.take 600 := ⟨_, rfl⟩
  have hlp : p.length ≤ 600 := by rw [hp, List.length_take]; omega
  have ffp : ∀ (w : World) {u : Value}, Byt w u xs → Calls Try.prog 75 #[u] w (RetR (fun w' v => Byt w' v p) w) := fun w u h => by rw [hp]; exact few_v w h
  have HLp := Lib.hid hlp
  have FFp := Lib.hid ffp
  have Hp := Lib.hid hp
  clear hlp ffp hp
  obtain ⟨q, hq⟩ : ∃ zz, zz = ys.take 600 := ⟨_, rfl⟩
  have hlq : q.length ≤ 600 := by rw [hq, List.length_take]; omega
  have ffq : ∀ (w : World) {u : Value}, Byt w u ys → Calls Try.prog 75 #[u] w (RetR (fun w' v => Byt w' v q) w) := fun w u h => by rw [hq]; exact few_v w h
  have HLq := Lib.hid hlq
  have FFq := Lib.hid ffq
  have Hq := Lib.hid hq
  clear hlq ffq hq
  have HJ := Lib.hid hj2
  have HJ8 := Lib.hid hj
  have K19 : Hid (∀ w, (binOp .geq 3 (.int .i64 (j : Nat)) (.int .i64 0)).run Try.prog w = .ok (.bool true) w) := fun w => by
    have h : (0 : Int) ≤ (j : Int) := by omega
    go_simp
  have K23 : Hid (∀ w, (binOp .lss 3 (.int .i64 (j : Nat)) (.int .i64 4808)).run Try.prog w = .ok (.bool false) w) := fun w => by
    have h : ¬ ((j : Int) < 4808) := by omega
    go_simp
  rw [← Hp.out] at hf
  have HN6 := Lib.hid hn
  have HNO : Hid ((n : Int) < 0 ∨ 65536 < (n : Int) ∨ ∃ k : Nat, (n : Int) = k ∧ ¬ nv p < 256 ^ k) := .inr (.inr ⟨n, rfl, hf⟩)
  have K41 : Hid (∀ w, (binOp .geq 3 (.int .i64 (n : Nat)) (.int .i64 0)).run Try.prog w = .ok (.bool true) w) := fun w => by
    have h : (0 : Int) ≤ (n : Int) := by omega
    go_simp
  have K45 : Hid (∀ w, (binOp .leq 3 (.int .i64 (n : Nat)) (.int .i64 65536)).run Try.prog w = .ok (.bool true) w) := fun w => by
    have h : (n : Int) ≤ 65536 := by omega
    go_simp
  have K52 : Hid (∀ w, (binOp .mul 3 (.int .i64 8) (.int .i64 (n : Nat))).run Try.prog w = .ok (.int .i64 (8 * (n : Nat))) w) := fun w => by
    have h1 : (n : Int) ≤ 65536 := by omega
    have h2 : IntKind.i64.wrap (8 * (n : Int)) = 8 * (n : Int) := IntWalk.i64_in _ (by omega)
    go_simp
  have K53 : Hid (∀ w, (binOp .leq 3 (.int .i64 ((blen (nv p) : Nat) : Int)) (.int .i64 (8 * (n : Nat)))).run Try.prog w = .ok (.bool false) w) := fun w => by
    have h : ¬ (((blen (nv p) : Nat) : Int) ≤ 8 * (n : Int)) := by have := mt blen_fits.1 hf; omega
    go_simp
  clear hj hj2 hn hf
  obtain ⟨L, hL⟩ : ∃ L, L = xs.length := ⟨_, rfl⟩
  obtain ⟨K, hK⟩ : ∃ K, K = ys.length := ⟨_, rfl⟩
  obtain ⟨J, hJ⟩ : ∃ J, J = zs.length := ⟨_, rfl⟩
  have rA : Byt w (.slice A L ca) xs := ⟨A, ca, by rw [hL], hA, dA⟩
  have rB : Byt w (.slice B K cb) ys := ⟨B, cb, by rw [hK], hB, dB⟩
  have rM : Byt w (.slice M J cm) zs := ⟨M, cm, by rw [hJ], hM, dM⟩
  rw [← hL, ← hK, ← hJ]
  have hW := (Below.refl w.heap.size w).alloc (Nat.le_refl _) (.cells #[.slice A L ca, .slice B K cb, .slice M J cm, .int .i64 (j : Nat), .int .i64 (n : Nat)] 51)
  have hx := Box5.new w (.slice A L ca) (.slice B K cb) (.slice M J cm) (.int .i64 (j : Nat)) (.int .i64 (n : Nat)) 51
  have RA := Lib.hid (rA.below hW)
  have RB := Lib.hid (rB.below hW)
  have RM := Lib.hid (rM.below hW)
  have HX := Lib.hid hx
  have HW := Lib.hid hW
  clear hA dA hB dB hM dM hL hK hJ rA rB rM hW hx
  go_enter Try.func11, Try.ntmps11
  go_upto_region 1 with (fail)
  generalize hX : w.alloc (.cells #[.slice A L ca, .slice B K cb, .slice M J cm, .int .i64 (j : Nat), .int .i64 (n : Nat)] 51) = X at *
  clear hX
  refine wp_region_seq 5 [9, 10, 11, 12, 3] [(9, .is (.pointer (some ⟨w.heap.size, 0, none⟩))), (10, .byt (xs)), (11, .byt (p)), (12, .num (nv p) 4096), (3, .num (nv p) 4096)] (by kernel_rfl) (by rfl) ?_ ?_
  · refine seeOps_cons ?_ (seeOps_cons ?_ (seeOps_cons ?_ (seeOps_cons ?_ (seeOps_cons ?_ seeOps_nil))))
    · intro w2 hb2 fr hout hin
      have h1 : fr.tmps.getD 1 undef = .pointer (some ⟨w.heap.size, 0, none⟩) := hout 1 (by decide)
      exact op_fieldN (.tmp 1) rfl (by decide) h1 (wanted_none rfl) rfl
    · intro w2 hb2 fr hout hin
      have h9 : fr.tmps.getD 9 undef = .pointer (some ⟨w.heap.size, 0, none⟩) := hin 9 (by decide) (by decide)
      exact op_load1 (.tmp 9) rfl (fun _ => by kernel_rfl) h9 ((HX.out.below hb2).c0) (wanted_none rfl) (RA.out.below hb2)
    · intro w2 hb2 fr hout hin
      have h10 : Byt w2 (fr.tmps.getD 10 undef) (xs) := hin 10 (by decide) (by decide)
      exact op_call1 (.tmp 10) rfl en_few (wanted_none rfl) (FFp.out _ h10) (fun _ _ h => h)
    · intro w2 hb2 fr hout hin
      have h11 : Byt w2 (fr.tmps.getD 11 undef) (p) := hin 11 (by decide) (by decide)
      exact op_call1 (.tmp 11) rfl en_from2 (wanted_none rfl) (from2_v _ h11 (by have := HLp.out; omega)) (fun _ _ h => h)
    · intro w2 hb2 fr hout hin
      have h12 : Num w2 (fr.tmps.getD 12 undef) (nv p) 4096 := hin 12 (by decide) (by decide)
      exact relStep_assign (.tmp 12) rfl (wanted_none rfl) h12
  intro w1 hb1
  refine relAsk_in (by rfl) ?_
  intro v9 h9
  obtain rfl : v9 = .pointer (some ⟨w.heap.size, 0, none⟩) := h9
  refine relAsk_in (by rfl) ?_
  intro v10 h10
  refine relAsk_in (by rfl) ?_
  intro v11 h11
  refine relAsk_in (by rfl) ?_
  intro v12 h12
  refine relAsk_in (by rfl) ?_
  intro v3 h3
  refine relAsk_nil ?_
  have RA := Lib.hid (RA.out.below hb1)
  have RB := Lib.hid (RB.out.below hb1)
  have RM := Lib.hid (RM.out.below hb1)
  have HX := Lib.hid (HX.out.below hb1)
  have HW := Lib.hid (HW.out.trans (hb1.mono HW.out.size))
  have H3 : Hid (Num w1 (v3) (nv p) 4096) := h3
  clear h10 h11 h12 h3 hb1
  refine wpList_nil ?_
  go_simp
  go_upto_region 2 with (fail)
  refine wp_region_seq 5 [13, 14, 15, 16, 4] [(13, .is (.pointer (some ⟨w.heap.size, 1, none⟩))), (14, .byt (ys)), (15, .byt (q)), (16, .num (nv q) 4096), (4, .num (nv q) 4096)] (by kernel_rfl) (by rfl) ?_ ?_
  · refine seeOps_cons ?_ (seeOps_cons ?_ (seeOps_cons ?_ (seeOps_cons ?_ (seeOps_cons ?_ seeOps_nil))))
    · intro w2 hb2 fr hout hin
      have h1 : fr.tmps.getD 1 undef = .pointer (some ⟨w.heap.size, 0, none⟩) := hout 1 (by decide)
      exact op_fieldN (.tmp 1) rfl (by decide) h1 (wanted_none rfl) rfl
    · intro w2 hb2 fr hout hin
      have h13 : fr.tmps.getD 13 undef = .pointer (some ⟨w.heap.size, 1, none⟩) := hin 13 (by decide) (by decide)
      exact op_load1 (.tmp 13) rfl (fun _ => by kernel_rfl) h13 ((HX.out.below hb2).c1) (wanted_none rfl) (RB.out.below hb2)
    · intro w2 hb2 fr hout hin
      have h14 : Byt w2 (fr.tmps.getD 14 undef) (ys) := hin 14 (by decide) (by decide)
      exact op_call1 (.tmp 14) rfl en_few (wanted_none rfl) (FFq.out _ h14) (fun _ _ h => h)
    · intro w2 hb2 fr hout hin
      have h15 : Byt w2 (fr.tmps.getD 15 undef) (q) := hin 15 (by decide) (by decide)
      exact op_call1 (.tmp 15) rfl en_from2 (wanted_none rfl) (from2_v _ h15 (by have := HLq.out; omega)) (fun _ _ h => h)
    · intro w2 hb2 fr hout hin
      have h16 : Num w2 (fr.tmps.getD 16 undef) (nv q) 4096 := hin 16 (by decide) (by decide)
      exact relStep_assign (.tmp 16) rfl (wanted_none rfl) h16
  intro w2 hb2
  refine relAsk_in (by rfl) ?_
  intro v13 h13
  obtain rfl : v13 = .pointer (some ⟨w.heap.size, 1, none⟩) := h13
  refine relAsk_in (by rfl) ?_
  intro v14 h14
  refine relAsk_in (by rfl) ?_
  intro v15 h15
  refine relAsk_in (by rfl) ?_
  intro v16 h16
  refine relAsk_in (by rfl) ?_
  intro v4 h4
  refine relAsk_nil ?_
  have RA := Lib.hid (RA.out.below hb2)
  have RB := Lib.hid (RB.out.below hb2)
  have RM := Lib.hid (RM.out.below hb2)
  have HX := Lib.hid (HX.out.below hb2)
  have HW := Lib.hid (HW.out.trans (hb2.mono HW.out.size))
  have H3 := Lib.hid (H3.out.below hb2)
  have H4 : Hid (Num w2 (v4) (nv q) 4096) := h4
  clear h14 h15 h16 h4 hb2
  refine wpList_nil ?_
  go_simp
  go_upto_region 4 with (fail)
  refine wp_region_seq 8 [17, 18, 19, 20, 21, 22, 23, 24] [(17, .is (.pointer (some ⟨w.heap.size, 3, none⟩))), (18, .is (.int .i64 (j : Nat))), (19, .is (.bool true)), (20, .is (.bool true)), (21, .is (.pointer (some ⟨w.heap.size, 3, none⟩))), (22, .is (.int .i64 (j : Nat))), (23, .is (.bool false)), (24, .is (.bool false))] (by kernel_rfl) (by rfl) ?_ ?_
  · refine seeOps_cons ?_ (seeOps_cons ?_ (seeOps_cons ?_ (seeOps_cons ?_ (seeOps_cons ?_ (seeOps_cons ?_ (seeOps_cons ?_ (seeOps_cons ?_ seeOps_nil)))))))
    · intro w2 hb2 fr hout hin
      have h1 : fr.tmps.getD 1 undef = .pointer (some ⟨w.heap.size, 0, none⟩) := hout 1 (by decide)
      exact op_fieldN (.tmp 1) rfl (by decide) h1 (wanted_none rfl) rfl
    · intro w2 hb2 fr hout hin
      have h17 : fr.tmps.getD 17 undef = .pointer (some ⟨w.heap.size, 3, none⟩) := hin 17 (by decide) (by decide)
      exact op_load1 (.tmp 17) rfl (fun _ => by kernel_rfl) h17 ((HX.out.below hb2).c3) (wanted_none rfl) (rfl)
    · intro w2 hb2 fr hout hin
      have h18 : fr.tmps.getD 18 undef = .int .i64 (j : Nat) := hin 18 (by decide) (by decide)
      exact op_cmp .geq (.tmp 18) (.const (.int .i64 0)) _ rfl h18 rfl (K19.out) (wanted_none rfl) rfl
    · intro w2 hb2 fr hout hin
      have h19 : fr.tmps.getD 19 undef = .bool true := hin 19 (by decide) (by decide)
      exact relStep_move (.tmp 19) rfl (wanted_none rfl) h19
    · intro w2 hb2 fr hout hin
      have h20 : fr.tmps.getD 20 undef = .bool true := hin 20 (by decide) (by decide)
      have h1 : fr.tmps.getD 1 undef = .pointer (some ⟨w.heap.size, 0, none⟩) := hout 1 (by decide)
      exact op_fieldN (.tmp 1) rfl (by decide) h1 (wanted_some (g := 3) (t := 20) (b := true) rfl rfl h20) rfl
    · intro w2 hb2 fr hout hin
      have h20 : fr.tmps.getD 20 undef = .bool true := hin 20 (by decide) (by decide)
      have h21 : fr.tmps.getD 21 undef = .pointer (some ⟨w.heap.size, 3, none⟩) := hin 21 (by decide) (by decide)
      exact op_load1 (.tmp 21) rfl (fun _ => by kernel_rfl) h21 ((HX.out.below hb2).c3) (wanted_some (g := 3) (t := 20) (b := true) rfl rfl h20) (rfl)
    · intro w2 hb2 fr hout hin
      have h20 : fr.tmps.getD 20 undef = .bool true := hin 20 (by decide) (by decide)
      have h22 : fr.tmps.getD 22 undef = .int .i64 (j : Nat) := hin 22 (by decide) (by decide)
      exact op_cmp .lss (.tmp 22) (.const (.int .i64 4808)) _ rfl h22 rfl (K23.out) (wanted_some (g := 3) (t := 20) (b := true) rfl rfl h20) rfl
    · intro w2 hb2 fr hout hin
      have h20 : fr.tmps.getD 20 undef = .bool true := hin 20 (by decide) (by decide)
      have h23 : fr.tmps.getD 23 undef = .bool false := hin 23 (by decide) (by decide)
      exact relStep_pick (.tmp 20) (.tmp 23) (.const (.bool false)) rfl h20 (wanted_none rfl) h23
  intro w3 hb3
  refine relAsk_in (by rfl) ?_
  intro v17 h17
  obtain rfl : v17 = .pointer (some ⟨w.heap.size, 3, none⟩) := h17
  refine relAsk_in (by rfl) ?_
  intro v18 h18
  obtain rfl : v18 = .int .i64 (j : Nat) := h18
  refine relAsk_in (by rfl) ?_
  intro v19 h19
  obtain rfl : v19 = .bool true := h19
  refine relAsk_in (by rfl) ?_
  intro v20 h20
  obtain rfl : v20 = .bool true := h20
  refine relAsk_in (by rfl) ?_
  intro v21 h21
  obtain rfl : v21 = .pointer (some ⟨w.heap.size, 3, none⟩) := h21
  refine relAsk_in (by rfl) ?_
  intro v22 h22
  obtain rfl : v22 = .int .i64 (j : Nat) := h22
  refine relAsk_in (by rfl) ?_
  intro v23 h23
  obtain rfl : v23 = .bool false := h23
  refine relAsk_in (by rfl) ?_
  intro v24 h24
  obtain rfl : v24 = .bool false := h24
  refine relAsk_nil ?_
  have RA := Lib.hid (RA.out.below hb3)
  have RB := Lib.hid (RB.out.below hb3)
  have RM := Lib.hid (RM.out.below hb3)
  have HX := Lib.hid (HX.out.below hb3)
  have HW := Lib.hid (HW.out.trans (hb3.mono HW.out.size))
  have H3 := Lib.hid (H3.out.below hb3)
  have H4 := Lib.hid (H4.out.below hb3)
  clear hb3
  refine wpList_nil ?_
  go_simp
  go_upto_region 6 with (fail)
  refine wp_region_see 11 [31, 32, 33, 34, 35, 36, 30, 37, 38, 6, 7] [(31, .is (.pointer (some ⟨w.heap.size, 0, none⟩))), (32, .byt (xs)), (33, .byt (p)), (34, .is (.pointer (some ⟨w.heap.size, 4, none⟩))), (35, .is (.int .i64 (n : Nat))), (36, .is (.tuple #[.slice none 0 0, .bool false])), (30, .is (.tuple #[.slice none 0 0, .bool false])), (37, .is (.slice none 0 0)), (38, .is (.bool false)), (6, .is (.slice none 0 0)), (7, .is (.bool false))] (by kernel_rfl) (by kernel_rfl) (by rfl) ?_ ?_
  · refine seeOps_cons ?_ (seeOps_cons ?_ (seeOps_cons ?_ (seeOps_cons ?_ (seeOps_cons ?_ (seeOps_cons ?_ (seeOps_cons ?_ (seeOps_cons ?_ (seeOps_cons ?_ (seeOps_cons ?_ (seeOps_cons ?_ seeOps_nil))))))))))
    · intro w2 hb2 fr hout hin
      have h1 : fr.tmps.getD 1 undef = .pointer (some ⟨w.heap.size, 0, none⟩) := hout 1 (by decide)
      exact op_fieldN (.tmp 1) rfl (by decide) h1 (wanted_none rfl) rfl
    · intro w2 hb2 fr hout hin
      have h31 : fr.tmps.getD 31 undef = .pointer (some ⟨w.heap.size, 0, none⟩) := hin 31 (by decide) (by decide)
      exact op_load1 (.tmp 31) rfl (fun _ => by kernel_rfl) h31 ((HX.out.below hb2).c0) (wanted_none rfl) (RA.out.below hb2)
    · intro w2 hb2 fr hout hin
      have h32 : Byt w2 (fr.tmps.getD 32 undef) (xs) := hin 32 (by decide) (by decide)
      exact op_call1 (.tmp 32) rfl en_few (wanted_none rfl) (FFp.out _ h32) (fun _ _ h => h)
    · intro w2 hb2 fr hout hin
      have h1 : fr.tmps.getD 1 undef = .pointer (some ⟨w.heap.size, 0, none⟩) := hout 1 (by decide)
      exact op_fieldN (.tmp 1) rfl (by decide) h1 (wanted_none rfl) rfl
    · intro w2 hb2 fr hout hin
      have h34 : fr.tmps.getD 34 undef = .pointer (some ⟨w.heap.size, 4, none⟩) := hin 34 (by decide) (by decide)
      exact op_load1 (.tmp 34) rfl (fun _ => by kernel_rfl) h34 ((HX.out.below hb2).c4) (wanted_none rfl) (rfl)
    · intro w2 hb2 fr hout hin
      have h33 : Byt w2 (fr.tmps.getD 33 undef) (p) := hin 33 (by decide) (by decide)
      have h35 : fr.tmps.getD 35 undef = .int .i64 (n : Nat) := hin 35 (by decide) (by decide)
      exact op_call2 (.tmp 33) (.tmp 35) rfl en_fill (wanted_none rfl) (by
        show Calls _ _ #[fr.tmps.getD 33 undef, fr.tmps.getD 35 undef] _ _
        rw [h35]; exact (fillno_v _ h33 (by have := HLp.out; omega) _ HNO.out)) (fun _ _ h => h)
    · intro w2 hb2 fr hout hin
      have h36 : fr.tmps.getD 36 undef = .tuple #[.slice none 0 0, .bool false] := hin 36 (by decide) (by decide)
      exact relStep_move (.tmp 36) rfl (wanted_none rfl) h36
    · intro w2 hb2 fr hout hin
      have h30 : fr.tmps.getD 30 undef = .tuple #[.slice none 0 0, .bool false] := hin 30 (by decide) (by decide)
      exact op_ext (.tmp 30) 0 rfl h30 rfl (wanted_none rfl) rfl
    · intro w2 hb2 fr hout hin
      have h30 : fr.tmps.getD 30 undef = .tuple #[.slice none 0 0, .bool false] := hin 30 (by decide) (by decide)
      exact op_ext (.tmp 30) 1 rfl h30 rfl (wanted_none rfl) rfl
    · intro w2 hb2 fr hout hin
      have h37 : fr.tmps.getD 37 undef = .slice none 0 0 := hin 37 (by decide) (by decide)
      exact relStep_assign (.tmp 37) rfl (wanted_none rfl) h37
    · intro w2 hb2 fr hout hin
      have h38 : fr.tmps.getD 38 undef = .bool false := hin 38 (by decide) (by decide)
      exact relStep_assign (.tmp 38) rfl (wanted_none rfl) h38
  intro w4 hb4
  refine relAsk_in (by rfl) ?_
  intro v31 h31
  obtain rfl : v31 = .pointer (some ⟨w.heap.size, 0, none⟩) := h31
  refine relAsk_in (by rfl) ?_
  intro v32 h32
  refine relAsk_in (by rfl) ?_
  intro v33 h33
  refine relAsk_in (by rfl) ?_
  intro v34 h34
  obtain rfl : v34 = .pointer (some ⟨w.heap.size, 4, none⟩) := h34
  refine relAsk_in (by rfl) ?_
  intro v35 h35
  obtain rfl : v35 = .int .i64 (n : Nat) := h35
  refine relAsk_in (by rfl) ?_
  intro v36 h36
  obtain rfl : v36 = .tuple #[.slice none 0 0, .bool false] := h36
  refine relAsk_in (by rfl) ?_
  intro v30 h30
  obtain rfl : v30 = .tuple #[.slice none 0 0, .bool false] := h30
  refine relAsk_in (by rfl) ?_
  intro v37 h37
  obtain rfl : v37 = .slice none 0 0 := h37
  refine relAsk_in (by rfl) ?_
  intro v38 h38
  obtain rfl : v38 = .bool false := h38
  refine relAsk_in (by rfl) ?_
  intro v6 h6
  obtain rfl : v6 = .slice none 0 0 := h6
  refine relAsk_in (by rfl) ?_
  intro v7 h7
  obtain rfl : v7 = .bool false := h7
  refine relAsk_nil ?_
  have RA := Lib.hid (RA.out.below hb4)
  have RB := Lib.hid (RB.out.below hb4)
  have RM := Lib.hid (RM.out.below hb4)
  have HX := Lib.hid (HX.out.below hb4)
  have HW := Lib.hid (HW.out.trans (hb4.mono HW.out.size))
  have H3 := Lib.hid (H3.out.below hb4)
  have H4 := Lib.hid (H4.out.below hb4)
  clear h32 h33 hb4
  refine wpList_nil ?_
  go_simp
  go_upto_region 7 with (fail)
  refine wp_region_see 17 [39, 40, 41, 42, 43, 44, 45, 46, 47, 48, 49, 50, 51, 52, 53, 54, 8] [(39, .is (.pointer (some ⟨w.heap.size, 4, none⟩))), (40, .is (.int .i64 (n : Nat))), (41, .is (.bool true)), (42, .is (.bool true)), (43, .is (.pointer (some ⟨w.heap.size, 4, none⟩))), (44, .is (.int .i64 (n : Nat))), (45, .is (.bool true)), (46, .is (.bool true)), (47, .is (.bool true)), (48, .num (nv p) 4096), (49, .is (.int .i64 ((blen (nv p) : Nat) : Int))), (50, .is (.pointer (some ⟨w.heap.size, 4, none⟩))), (51, .is (.int .i64 (n : Nat))), (52, .is (.int .i64 (8 * (n : Nat)))), (53, .is (.bool false)), (54, .is (.bool false)), (8, .is (.bool false))] (by kernel_rfl) (by kernel_rfl) (by rfl) ?_ ?_
  · refine seeOps_cons ?_ (seeOps_cons ?_ (seeOps_cons ?_ (seeOps_cons ?_ (seeOps_cons ?_ (seeOps_cons ?_ (seeOps_cons ?_ (seeOps_cons ?_ (seeOps_cons ?_ (seeOps_cons ?_ (seeOps_cons ?_ (seeOps_cons ?_ (seeOps_cons ?_ (seeOps_cons ?_ (seeOps_cons ?_ (seeOps_cons ?_ (seeOps_cons ?_ seeOps_nil))))))))))))))))
    · intro w2 hb2 fr hout hin
      have h1 : fr.tmps.getD 1 undef = .pointer (some ⟨w.heap.size, 0, none⟩) := hout 1 (by decide)
      exact op_fieldN (.tmp 1) rfl (by decide) h1 (wanted_none rfl) rfl
    · intro w2 hb2 fr hout hin
      have h39 : fr.tmps.getD 39 undef = .pointer (some ⟨w.heap.size, 4, none⟩) := hin 39 (by decide) (by decide)
      exact op_load1 (.tmp 39) rfl (fun _ => by kernel_rfl) h39 ((HX.out.below hb2).c4) (wanted_none rfl) (rfl)
    · intro w2 hb2 fr hout hin
      have h40 : fr.tmps.getD 40 undef = .int .i64 (n : Nat) := hin 40 (by decide) (by decide)
      exact op_cmp .geq (.tmp 40) (.const (.int .i64 0)) _ rfl h40 rfl (K41.out) (wanted_none rfl) rfl
    · intro w2 hb2 fr hout hin
      have h41 : fr.tmps.getD 41 undef = .bool true := hin 41 (by decide) (by decide)
      exact relStep_move (.tmp 41) rfl (wanted_none rfl) h41
    · intro w2 hb2 fr hout hin
      have h42 : fr.tmps.getD 42 undef = .bool true := hin 42 (by decide) (by decide)
      have h1 : fr.tmps.getD 1 undef = .pointer (some ⟨w.heap.size, 0, none⟩) := hout 1 (by decide)
      exact op_fieldN (.tmp 1) rfl (by decide) h1 (wanted_some (g := 3) (t := 42) (b := true) rfl rfl h42) rfl
    · intro w2 hb2 fr hout hin
      have h42 : fr.tmps.getD 42 undef = .bool true := hin 42 (by decide) (by decide)
      have h43 : fr.tmps.getD 43 undef = .pointer (some ⟨w.heap.size, 4, none⟩) := hin 43 (by decide) (by decide)
      exact op_load1 (.tmp 43) rfl (fun _ => by kernel_rfl) h43 ((HX.out.below hb2).c4) (wanted_some (g := 3) (t := 42) (b := true) rfl rfl h42) (rfl)
    · intro w2 hb2 fr hout hin
      have h42 : fr.tmps.getD 42 undef = .bool true := hin 42 (by decide) (by decide)
      have h44 : fr.tmps.getD 44 undef = .int .i64 (n : Nat) := hin 44 (by decide) (by decide)
      exact op_cmp .leq (.tmp 44) (.const (.int .i64 65536)) _ rfl h44 rfl (K45.out) (wanted_some (g := 3) (t := 42) (b := true) rfl rfl h42) rfl
    · intro w2 hb2 fr hout hin
      have h42 : fr.tmps.getD 42 undef = .bool true := hin 42 (by decide) (by decide)
      have h45 : fr.tmps.getD 45 undef = .bool true := hin 45 (by decide) (by decide)
      exact relStep_pick (.tmp 42) (.tmp 45) (.const (.bool false)) rfl h42 (wanted_none rfl) h45
    · intro w2 hb2 fr hout hin
      have h46 : fr.tmps.getD 46 undef = .bool true := hin 46 (by decide) (by decide)
      exact relStep_move (.tmp 46) rfl (wanted_none rfl) h46
    · intro w2 hb2 fr hout hin
      have h47 : fr.tmps.getD 47 undef = .bool true := hin 47 (by decide) (by decide)
      have h3 : Num w2 (fr.tmps.getD 3 undef) (nv p) 4096 := by
        have e : fr.tmps.getD 3 undef = v3 := hout 3 (by decide)
        rw [e]; exact H3.out.below hb2
      exact relStep_move (.tmp 3) rfl (wanted_some (g := 8) (t := 47) (b := true) rfl rfl h47) h3
    · intro w2 hb2 fr hout hin
      have h47 : fr.tmps.getD 47 undef = .bool true := hin 47 (by decide) (by decide)
      have h48 : Num w2 (fr.tmps.getD 48 undef) (nv p) 4096 := hin 48 (by decide) (by decide)
      exact op_call1 (.tmp 48) rfl en_len2 (wanted_some (g := 8) (t := 47) (b := true) rfl rfl h47) (len2_v _ h48 (by decide)) (fun _ _ h => h)
    · intro w2 hb2 fr hout hin
      have h47 : fr.tmps.getD 47 undef = .bool true := hin 47 (by decide) (by decide)
      have h1 : fr.tmps.getD 1 undef = .pointer (some ⟨w.heap.size, 0, none⟩) := hout 1 (by decide)
      exact op_fieldN (.tmp 1) rfl (by decide) h1 (wanted_some (g := 8) (t := 47) (b := true) rfl rfl h47) rfl
    · intro w2 hb2 fr hout hin
      have h47 : fr.tmps.getD 47 undef = .bool true := hin 47 (by decide) (by decide)
      have h50 : fr.tmps.getD 50 undef = .pointer (some ⟨w.heap.size, 4, none⟩) := hin 50 (by decide) (by decide)
      exact op_load1 (.tmp 50) rfl (fun _ => by kernel_rfl) h50 ((HX.out.below hb2).c4) (wanted_some (g := 8) (t := 47) (b := true) rfl rfl h47) (rfl)
    · intro w2 hb2 fr hout hin
      have h47 : fr.tmps.getD 47 undef = .bool true := hin 47 (by decide) (by decide)
      have h51 : fr.tmps.getD 51 undef = .int .i64 (n : Nat) := hin 51 (by decide) (by decide)
      exact op_arith .mul (.const (.int .i64 8)) (.tmp 51) _ rfl rfl h51 (K52.out) (wanted_some (g := 8) (t := 47) (b := true) rfl rfl h47) rfl
    · intro w2 hb2 fr hout hin
      have h47 : fr.tmps.getD 47 undef = .bool true := hin 47 (by decide) (by decide)
      have h49 : fr.tmps.getD 49 undef = .int .i64 ((blen (nv p) : Nat) : Int) := hin 49 (by decide) (by decide)
      have h52 : fr.tmps.getD 52 undef = .int .i64 (8 * (n : Nat)) := hin 52 (by decide) (by decide)
      exact op_cmp .leq (.tmp 49) (.tmp 52) _ rfl h49 h52 (K53.out) (wanted_some (g := 8) (t := 47) (b := true) rfl rfl h47) rfl
    · intro w2 hb2 fr hout hin
      have h47 : fr.tmps.getD 47 undef = .bool true := hin 47 (by decide) (by decide)
      have h53 : fr.tmps.getD 53 undef = .bool false := hin 53 (by decide) (by decide)
      exact relStep_pick (.tmp 47) (.tmp 53) (.const (.bool false)) rfl h47 (wanted_none rfl) h53
    · intro w2 hb2 fr hout hin
      have h54 : fr.tmps.getD 54 undef = .bool false := hin 54 (by decide) (by decide)
      exact relStep_assign (.tmp 54) rfl (wanted_none rfl) h54
  intro w5 hb5
  refine relAsk_in (by rfl) ?_
  intro v39 h39
  obtain rfl : v39 = .pointer (some ⟨w.heap.size, 4, none⟩) := h39
  refine relAsk_in (by rfl) ?_
  intro v40 h40
  obtain rfl : v40 = .int .i64 (n : Nat) := h40
  refine relAsk_in (by rfl) ?_
  intro v41 h41
  obtain rfl : v41 = .bool true := h41
  refine relAsk_in (by rfl) ?_
  intro v42 h42
  obtain rfl : v42 = .bool true := h42
  refine relAsk_in (by rfl) ?_
  intro v43 h43
  obtain rfl : v43 = .pointer (some ⟨w.heap.size, 4, none⟩) := h43
  refine relAsk_in (by rfl) ?_
  intro v44 h44
  obtain rfl : v44 = .int .i64 (n : Nat) := h44
  refine relAsk_in (by rfl) ?_
  intro v45 h45
  obtain rfl : v45 = .bool true := h45
  refine relAsk_in (by rfl) ?_
  intro v46 h46
  obtain rfl : v46 = .bool true := h46
  refine relAsk_in (by rfl) ?_
  intro v47 h47
  obtain rfl : v47 = .bool true := h47
  refine relAsk_in (by rfl) ?_
  intro v48 h48
  refine relAsk_in (by rfl) ?_
  intro v49 h49
  obtain rfl : v49 = .int .i64 ((blen (nv p) : Nat) : Int) := h49
  refine relAsk_in (by rfl) ?_
  intro v50 h50
  obtain rfl : v50 = .pointer (some ⟨w.heap.size, 4, none⟩) := h50
  refine relAsk_in (by rfl) ?_
  intro v51 h51
  obtain rfl : v51 = .int .i64 (n : Nat) := h51
  refine relAsk_in (by rfl) ?_
  intro v52 h52
  obtain rfl : v52 = .int .i64 (8 * (n : Nat)) := h52
  refine relAsk_in (by rfl) ?_
  intro v53 h53
  obtain rfl : v53 = .bool false := h53
  refine relAsk_in (by rfl) ?_
  intro v54 h54
  obtain rfl : v54 = .bool false := h54
  refine relAsk_in (by rfl) ?_
  intro v8 h8
  obtain rfl : v8 = .bool false := h8
  refine relAsk_nil ?_
  have RA := Lib.hid (RA.out.below hb5)
  have RB := Lib.hid (RB.out.below hb5)
  have RM := Lib.hid (RM.out.below hb5)
  have HX := Lib.hid (HX.out.below hb5)
  have HW := Lib.hid (HW.out.trans (hb5.mono HW.out.size))
  have H3 := Lib.hid (H3.out.below hb5)
  have H4 := Lib.hid (H4.out.below hb5)
  clear h48 hb5
  refine wpList_nil ?_
  go_simp
  go_upto_region 8 with (fail)
  refine wp_region_see 25 [55, 56, 57, 58, 59, 60, 61, 62, 63, 64, 65, 66, 67, 68, 69, 70, 71, 72, 73, 74, 75, 76, 77, 78, 79] [(55, .is (.bool false)), (56, .is (.bool false)), (57, .is (.bool false)), (58, .is (.bool false)), (59, .is (.bool false)), (60, .is (.bool false)), (61, .any), (62, .any), (63, .any), (64, .any), (65, .any), (66, .any), (67, .any), (68, .any), (69, .is (.bool false)), (70, .is (.bool false)), (71, .is (.bool false)), (72, .is (.bool false)), (73, .is (.bool true)), (74, .is (.bool true)), (75, .is (.slice none 0 0)), (76, .is (.int .i64 0)), (77, .is (.bool false)), (78, .is (.bool false)), (79, .is (.bool false))] (by kernel_rfl) (by kernel_rfl) (by rfl) ?_ ?_
  · refine seeOps_cons ?_ (seeOps_cons ?_ (seeOps_cons ?_ (seeOps_cons ?_ (seeOps_cons ?_ (seeOps_cons ?_ (seeOps_cons ?_ (seeOps_cons ?_ (seeOps_cons ?_ (seeOps_cons ?_ (seeOps_cons ?_ (seeOps_cons ?_ (seeOps_cons ?_ (seeOps_cons ?_ (seeOps_cons ?_ (seeOps_cons ?_ (seeOps_cons ?_ (seeOps_cons ?_ (seeOps_cons ?_ (seeOps_cons ?_ (seeOps_cons ?_ (seeOps_cons ?_ (seeOps_cons ?_ (seeOps_cons ?_ (seeOps_cons ?_ seeOps_nil))))))))))))))))))))))))
    · intro w2 hb2 fr hout hin
      have h7 : fr.tmps.getD 7 undef = .bool false := hout 7 (by decide)
      exact relStep_move (.tmp 7) rfl (wanted_none rfl) h7
    · intro w2 hb2 fr hout hin
      have h8 : fr.tmps.getD 8 undef = .bool false := hout 8 (by decide)
      exact relStep_move (.tmp 8) rfl (wanted_none rfl) h8
    · intro w2 hb2 fr hout hin
      have h55 : fr.tmps.getD 55 undef = .bool false := hin 55 (by decide) (by decide)
      have h56 : fr.tmps.getD 56 undef = .bool false := hin 56 (by decide) (by decide)
      exact op_neB (.tmp 55) (.tmp 56) _ rfl h55 h56 (wanted_none rfl) rfl
    · intro w2 hb2 fr hout hin
      have h57 : fr.tmps.getD 57 undef = .bool false := hin 57 (by decide) (by decide)
      exact relStep_move (.tmp 57) rfl (wanted_none rfl) h57
    · intro w2 hb2 fr hout hin
      have h58 : fr.tmps.getD 58 undef = .bool false := hin 58 (by decide) (by decide)
      have h8 : fr.tmps.getD 8 undef = .bool false := hout 8 (by decide)
      exact relStep_move (.tmp 8) rfl (wanted_some (g := 3) (t := 58) (b := false) rfl rfl h58) h8
    · intro w2 hb2 fr hout hin
      have h58 : fr.tmps.getD 58 undef = .bool false := hin 58 (by decide) (by decide)
      have h59 : fr.tmps.getD 59 undef = .bool false := hin 59 (by decide) (by decide)
      exact relStep_move (.tmp 59) rfl (wanted_some (g := 3) (t := 58) (b := false) rfl rfl h58) h59
    · intro w2 hb2 fr hout hin
      have h60 : fr.tmps.getD 60 undef = .bool false := hin 60 (by decide) (by decide)
      exact relStep_skip (wanted_not rfl rfl h60 rfl) trivial
    · intro w2 hb2 fr hout hin
      have h60 : fr.tmps.getD 60 undef = .bool false := hin 60 (by decide) (by decide)
      exact relStep_skip (wanted_not rfl rfl h60 rfl) trivial
    · intro w2 hb2 fr hout hin
      have h60 : fr.tmps.getD 60 undef = .bool false := hin 60 (by decide) (by decide)
      exact relStep_skip (wanted_not rfl rfl h60 rfl) trivial
    · intro w2 hb2 fr hout hin
      have h60 : fr.tmps.getD 60 undef = .bool false := hin 60 (by decide) (by decide)
      exact relStep_skip (wanted_not rfl rfl h60 rfl) trivial
    · intro w2 hb2 fr hout hin
      have h60 : fr.tmps.getD 60 undef = .bool false := hin 60 (by decide) (by decide)
      exact relStep_skip (wanted_not rfl rfl h60 rfl) trivial
    · intro w2 hb2 fr hout hin
      have h60 : fr.tmps.getD 60 undef = .bool false := hin 60 (by decide) (by decide)
      exact relStep_skip (wanted_not rfl rfl h60 rfl) trivial
    · intro w2 hb2 fr hout hin
      have h60 : fr.tmps.getD 60 undef = .bool false := hin 60 (by decide) (by decide)
      exact relStep_skip (wanted_not rfl rfl h60 rfl) trivial
    · intro w2 hb2 fr hout hin
      have h60 : fr.tmps.getD 60 undef = .bool false := hin 60 (by decide) (by decide)
      exact relStep_skip (wanted_not rfl rfl h60 rfl) trivial
    · intro w2 hb2 fr hout hin
      have h58 : fr.tmps.getD 58 undef = .bool false := hin 58 (by decide) (by decide)
      have h60 : fr.tmps.getD 60 undef = .bool false := hin 60 (by decide) (by decide)
      exact relStep_pickF (.tmp 60) (.tmp 68) (.const (.bool false)) rfl h60 (wanted_some (g := 3) (t := 58) (b := false) rfl rfl h58) rfl
    · intro w2 hb2 fr hout hin
      have h58 : fr.tmps.getD 58 undef = .bool false := hin 58 (by decide) (by decide)
      have h69 : fr.tmps.getD 69 undef = .bool false := hin 69 (by decide) (by decide)
      exact relStep_pickF (.tmp 58) (.const (.bool true)) (.tmp 69) rfl h58 (wanted_none rfl) h69
    · intro w2 hb2 fr hout hin
      have h70 : fr.tmps.getD 70 undef = .bool false := hin 70 (by decide) (by decide)
      exact relStep_move (.tmp 70) rfl (wanted_none rfl) h70
    · intro w2 hb2 fr hout hin
      have h71 : fr.tmps.getD 71 undef = .bool false := hin 71 (by decide) (by decide)
      have h8 : fr.tmps.getD 8 undef = .bool false := hout 8 (by decide)
      exact relStep_move (.tmp 8) rfl (wanted_some (g := 16) (t := 71) (b := false) rfl rfl h71) h8
    · intro w2 hb2 fr hout hin
      have h71 : fr.tmps.getD 71 undef = .bool false := hin 71 (by decide) (by decide)
      have h72 : fr.tmps.getD 72 undef = .bool false := hin 72 (by decide) (by decide)
      exact op_not (.tmp 72) _ rfl h72 (wanted_some (g := 16) (t := 71) (b := false) rfl rfl h71) rfl
    · intro w2 hb2 fr hout hin
      have h71 : fr.tmps.getD 71 undef = .bool false := hin 71 (by decide) (by decide)
      have h73 : fr.tmps.getD 73 undef = .bool true := hin 73 (by decide) (by decide)
      exact relStep_move (.tmp 73) rfl (wanted_some (g := 16) (t := 71) (b := false) rfl rfl h71) h73
    · intro w2 hb2 fr hout hin
      have h74 : fr.tmps.getD 74 undef = .bool true := hin 74 (by decide) (by decide)
      have h6 : fr.tmps.getD 6 undef = .slice none 0 0 := hout 6 (by decide)
      exact relStep_move (.tmp 6) rfl (wanted_some (g := 19) (t := 74) (b := true) rfl rfl h74) h6
    · intro w2 hb2 fr hout hin
      have h74 : fr.tmps.getD 74 undef = .bool true := hin 74 (by decide) (by decide)
      have h75 : fr.tmps.getD 75 undef = .slice none 0 0 := hin 75 (by decide) (by decide)
      exact op_len (bs := (([] : List Nat))) (.tmp 75) rfl (by show Byt _ (fr.tmps.getD 75 undef) []; rw [h75]; exact Byt.nil _) (wanted_some (g := 19) (t := 74) (b := true) rfl rfl h74) rfl
    · intro w2 hb2 fr hout hin
      have h74 : fr.tmps.getD 74 undef = .bool true := hin 74 (by decide) (by decide)
      have h76 : fr.tmps.getD 76 undef = .int .i64 0 := hin 76 (by decide) (by decide)
      exact op_cmp .neq (.tmp 76) (.const (.int .i64 0)) _ rfl h76 rfl (fun w => by go_simp) (wanted_some (g := 19) (t := 74) (b := true) rfl rfl h74) rfl
    · intro w2 hb2 fr hout hin
      have h71 : fr.tmps.getD 71 undef = .bool false := hin 71 (by decide) (by decide)
      have h74 : fr.tmps.getD 74 undef = .bool true := hin 74 (by decide) (by decide)
      have h77 : fr.tmps.getD 77 undef = .bool false := hin 77 (by decide) (by decide)
      exact relStep_pick (.tmp 74) (.tmp 77) (.const (.bool false)) rfl h74 (wanted_some (g := 16) (t := 71) (b := false) rfl rfl h71) h77
    · intro w2 hb2 fr hout hin
      have h71 : fr.tmps.getD 71 undef = .bool false := hin 71 (by decide) (by decide)
      have h78 : fr.tmps.getD 78 undef = .bool false := hin 78 (by decide) (by decide)
      exact relStep_pickF (.tmp 71) (.const (.bool true)) (.tmp 78) rfl h71 (wanted_none rfl) h78
  intro w6 hb6
  refine relAsk_in (by rfl) ?_
  intro v55 h55
  obtain rfl : v55 = .bool false := h55
  refine relAsk_in (by rfl) ?_
  intro v56 h56
  obtain rfl : v56 = .bool false := h56
  refine relAsk_in (by rfl) ?_
  intro v57 h57
  obtain rfl : v57 = .bool false := h57
  refine relAsk_in (by rfl) ?_
  intro v58 h58
  obtain rfl : v58 = .bool false := h58
  refine relAsk_in (by rfl) ?_
  intro v59 h59
  obtain rfl : v59 = .bool false := h59
  refine relAsk_in (by rfl) ?_
  intro v60 h60
  obtain rfl : v60 = .bool false := h60
  refine relAsk_in (by rfl) ?_
  intro v61 h61
  clear h61
  refine relAsk_in (by rfl) ?_
  intro v62 h62
  clear h62
  refine relAsk_in (by rfl) ?_
  intro v63 h63
  clear h63
  refine relAsk_in (by rfl) ?_
  intro v64 h64
  clear h64
  refine relAsk_in (by rfl) ?_
  intro v65 h65
  clear h65
  refine relAsk_in (by rfl) ?_
  intro v66 h66
  clear h66
  refine relAsk_in (by rfl) ?_
  intro v67 h67
  clear h67
  refine relAsk_in (by rfl) ?_
  intro v68 h68
  clear h68
  refine relAsk_in (by rfl) ?_
  intro v69 h69
  obtain rfl : v69 = .bool false := h69
  refine relAsk_in (by rfl) ?_
  intro v70 h70
  obtain rfl : v70 = .bool false := h70
  refine relAsk_in (by rfl) ?_
  intro v71 h71
  obtain rfl : v71 = .bool false := h71
  refine relAsk_in (by rfl) ?_
  intro v72 h72
  obtain rfl : v72 = .bool false := h72
  refine relAsk_in (by rfl) ?_
  intro v73 h73
  obtain rfl : v73 = .bool true := h73
  refine relAsk_in (by rfl) ?_
  intro v74 h74
  obtain rfl : v74 = .bool true := h74
  refine relAsk_in (by rfl) ?_
  intro v75 h75
  obtain rfl : v75 = .slice none 0 0 := h75
  refine relAsk_in (by rfl) ?_
  intro v76 h76
  obtain rfl : v76 = .int .i64 0 := h76
  refine relAsk_in (by rfl) ?_
  intro v77 h77
  obtain rfl : v77 = .bool false := h77
  refine relAsk_in (by rfl) ?_
  intro v78 h78
  obtain rfl : v78 = .bool false := h78
  refine relAsk_in (by rfl) ?_
  intro v79 h79
  obtain rfl : v79 = .bool false := h79
  refine relAsk_nil ?_
  have RA := Lib.hid (RA.out.below hb6)
  have RB := Lib.hid (RB.out.below hb6)
  have RM := Lib.hid (RM.out.below hb6)
  have HX := Lib.hid (HX.out.below hb6)
  have HW := Lib.hid (HW.out.trans (hb6.mono HW.out.size))
  have H3 := Lib.hid (H3.out.below hb6)
  have H4 := Lib.hid (H4.out.below hb6)
  clear hb6
  refine wpList_nil ?_
  go_simp
  go_upto_region 10 with (fail)
  refine wp_region_see 45 [80, 81, 82, 83, 84, 85, 86, 87, 88, 89, 90, 91, 92, 93, 94, 95, 96, 97, 98, 99, 100, 101, 102, 103, 104, 105, 106, 107, 108, 109, 110, 111, 112, 113, 114, 115, 116, 117, 118, 119, 120, 121, 122, 123, 2] [(80, .is (.pointer (some ⟨w.heap.size, 0, none⟩))), (81, .byt (xs)), (82, .byt (p)), (83, .byt (nb (nv p))), (84, .is (.string (sOf (nb (nv p))))), (85, .num (nv p) 4096), (86, .byt (nb (nv p))), (87, .is (.string (sOf (nb (nv p))))), (88, .is (.bool true)), (89, .is (.bool true)), (90, .is (.pointer (some ⟨w.heap.size, 0, none⟩))), (91, .byt (xs)), (92, .byt (p)), (93, .is (.pointer (some ⟨w.heap.size, 1, none⟩))), (94, .byt (ys)), (95, .byt (q)), (96, .is (.int .i64 (ordI (nv p) (nv q)))), (97, .num (nv p) 4096), (98, .num (nv q) 4096), (99, .is (.int .i64 (ordI (nv p) (nv q)))), (100, .is (.bool true)), (101, .is (.bool true)), (102, .is (.bool true)), (103, .is (.pointer (some ⟨w.heap.size, 0, none⟩))), (104, .byt (xs)), (105, .byt (p)), (106, .is (.int .i64 ((blen (nv p) : Nat) : Int))), (107, .num (nv p) 4096), (108, .is (.int .i64 ((blen (nv p) : Nat) : Int))), (109, .is (.bool true)), (110, .is (.bool true)), (111, .is (.bool true)), (112, .is (.pointer (some ⟨w.heap.size, 0, none⟩))), (113, .byt (xs)), (114, .byt (p)), (115, .is (.pointer (some ⟨w.heap.size, 3, none⟩))), (116, .is (.int .i64 (j : Nat))), (117, .is (.int .i64 0)), (118, .is (.int .i64 0)), (119, .is (.bool true)), (120, .is (.bool true)), (121, .is (.bool true)), (122, .is (.bool true)), (123, .is (.bool true)), (2, .is (.bool true))] (by kernel_rfl) (by kernel_rfl) (by rfl) ?_ ?_
  · refine seeOps_cons ?_ (seeOps_cons ?_ (seeOps_cons ?_ (seeOps_cons ?_ (seeOps_cons ?_ (seeOps_cons ?_ (seeOps_cons ?_ (seeOps_cons ?_ (seeOps_cons ?_ (seeOps_cons ?_ (seeOps_cons ?_ (seeOps_cons ?_ (seeOps_cons ?_ (seeOps_cons ?_ (seeOps_cons ?_ (seeOps_cons ?_ (seeOps_cons ?_ (seeOps_cons ?_ (seeOps_cons ?_ (seeOps_cons ?_ (seeOps_cons ?_ (seeOps_cons ?_ (seeOps_cons ?_ (seeOps_cons ?_ (seeOps_cons ?_ (seeOps_cons ?_ (seeOps_cons ?_ (seeOps_cons ?_ (seeOps_cons ?_ (seeOps_cons ?_ (seeOps_cons ?_ (seeOps_cons ?_ (seeOps_cons ?_ (seeOps_cons ?_ (seeOps_cons ?_ (seeOps_cons ?_ (seeOps_cons ?_ (seeOps_cons ?_ (seeOps_cons ?_ (seeOps_cons ?_ (seeOps_cons ?_ (seeOps_cons ?_ (seeOps_cons ?_ (seeOps_cons ?_ (seeOps_cons ?_ seeOps_nil))))))))))))))))))))))))))))))))))))))))))))
    · intro w2 hb2 fr hout hin
      have h1 : fr.tmps.getD 1 undef = .pointer (some ⟨w.heap.size, 0, none⟩) := hout 1 (by decide)
      exact op_fieldN (.tmp 1) rfl (by decide) h1 (wanted_none rfl) rfl
    · intro w2 hb2 fr hout hin
      have h80 : fr.tmps.getD 80 undef = .pointer (some ⟨w.heap.size, 0, none⟩) := hin 80 (by decide) (by decide)
      exact op_load1 (.tmp 80) rfl (fun _ => by kernel_rfl) h80 ((HX.out.below hb2).c0) (wanted_none rfl) (RA.out.below hb2)
    · intro w2 hb2 fr hout hin
      have h81 : Byt w2 (fr.tmps.getD 81 undef) (xs) := hin 81 (by decide) (by decide)
      exact op_call1 (.tmp 81) rfl en_few (wanted_none rfl) (FFp.out _ h81) (fun _ _ h => h)
    · intro w2 hb2 fr hout hin
      have h82 : Byt w2 (fr.tmps.getD 82 undef) (p) := hin 82 (by decide) (by decide)
      exact op_call1 (.tmp 82) rfl en_trim (wanted_none rfl) (trim_v _ h82 (by have := HLp.out; omega)) (fun _ _ h => h)
    · intro w2 hb2 fr hout hin
      have h83 : Byt w2 (fr.tmps.getD 83 undef) (nb (nv p)) := hin 83 (by decide) (by decide)
      exact op_str (.tmp 83) rfl h83 (wanted_none rfl) rfl
    · intro w2 hb2 fr hout hin
      have h3 : Num w2 (fr.tmps.getD 3 undef) (nv p) 4096 := by
        have e : fr.tmps.getD 3 undef = v3 := hout 3 (by decide)
        rw [e]; exact H3.out.below hb2
      exact relStep_move (.tmp 3) rfl (wanted_none rfl) h3
    · intro w2 hb2 fr hout hin
      have h85 : Num w2 (fr.tmps.getD 85 undef) (nv p) 4096 := hin 85 (by decide) (by decide)
      exact op_call1 (.tmp 85) rfl en_bytes2 (wanted_none rfl) (bytes2_v _ h85 (by decide)) (fun _ _ h => h)
    · intro w2 hb2 fr hout hin
      have h86 : Byt w2 (fr.tmps.getD 86 undef) (nb (nv p)) := hin 86 (by decide) (by decide)
      exact op_str (.tmp 86) rfl h86 (wanted_none rfl) rfl
    · intro w2 hb2 fr hout hin
      have h84 : fr.tmps.getD 84 undef = .string (sOf (nb (nv p))) := hin 84 (by decide) (by decide)
      have h87 : fr.tmps.getD 87 undef = .string (sOf (nb (nv p))) := hin 87 (by decide) (by decide)
      exact op_eqS (.tmp 84) (.tmp 87) _ rfl h84 h87 (wanted_none rfl) rfl
    · intro w2 hb2 fr hout hin
      have h88 : fr.tmps.getD 88 undef = .bool true := hin 88 (by decide) (by decide)
      exact relStep_move (.tmp 88) rfl (wanted_none rfl) h88
    · intro w2 hb2 fr hout hin
      have h89 : fr.tmps.getD 89 undef = .bool true := hin 89 (by decide) (by decide)
      have h1 : fr.tmps.getD 1 undef = .pointer (some ⟨w.heap.size, 0, none⟩) := hout 1 (by decide)
      exact op_fieldN (.tmp 1) rfl (by decide) h1 (wanted_some (g := 9) (t := 89) (b := true) rfl rfl h89) rfl
    · intro w2 hb2 fr hout hin
      have h89 : fr.tmps.getD 89 undef = .bool true := hin 89 (by decide) (by decide)
      have h90 : fr.tmps.getD 90 undef = .pointer (some ⟨w.heap.size, 0, none⟩) := hin 90 (by decide) (by decide)
      exact op_load1 (.tmp 90) rfl (fun _ => by kernel_rfl) h90 ((HX.out.below hb2).c0) (wanted_some (g := 9) (t := 89) (b := true) rfl rfl h89) (RA.out.below hb2)
    · intro w2 hb2 fr hout hin
      have h89 : fr.tmps.getD 89 undef = .bool true := hin 89 (by decide) (by decide)
      have h91 : Byt w2 (fr.tmps.getD 91 undef) (xs) := hin 91 (by decide) (by decide)
      exact op_call1 (.tmp 91) rfl en_few (wanted_some (g := 9) (t := 89) (b := true) rfl rfl h89) (FFp.out _ h91) (fun _ _ h => h)
    · intro w2 hb2 fr hout hin
      have h89 : fr.tmps.getD 89 undef = .bool true := hin 89 (by decide) (by decide)
      have h1 : fr.tmps.getD 1 undef = .pointer (some ⟨w.heap.size, 0, none⟩) := hout 1 (by decide)
      exact op_fieldN (.tmp 1) rfl (by decide) h1 (wanted_some (g := 9) (t := 89) (b := true) rfl rfl h89) rfl
    · intro w2 hb2 fr hout hin
      have h89 : fr.tmps.getD 89 undef = .bool true := hin 89 (by decide) (by decide)
      have h93 : fr.tmps.getD 93 undef = .pointer (some ⟨w.heap.size, 1, none⟩) := hin 93 (by decide) (by decide)
      exact op_load1 (.tmp 93) rfl (fun _ => by kernel_rfl) h93 ((HX.out.below hb2).c1) (wanted_some (g := 9) (t := 89) (b := true) rfl rfl h89) (RB.out.below hb2)
    · intro w2 hb2 fr hout hin
      have h89 : fr.tmps.getD 89 undef = .bool true := hin 89 (by decide) (by decide)
      have h94 : Byt w2 (fr.tmps.getD 94 undef) (ys) := hin 94 (by decide) (by decide)
      exact op_call1 (.tmp 94) rfl en_few (wanted_some (g := 9) (t := 89) (b := true) rfl rfl h89) (FFq.out _ h94) (fun _ _ h => h)
    · intro w2 hb2 fr hout hin
      have h89 : fr.tmps.getD 89 undef = .bool true := hin 89 (by decide) (by decide)
      have h92 : Byt w2 (fr.tmps.getD 92 undef) (p) := hin 92 (by decide) (by decide)
      have h95 : Byt w2 (fr.tmps.getD 95 undef) (q) := hin 95 (by decide) (by decide)
      exact op_call2 (.tmp 92) (.tmp 95) rfl en_cmp (wanted_some (g := 9) (t := 89) (b := true) rfl rfl h89) (cmp_v _ h92 h95 (by have := HLp.out; omega) (by have := HLq.out; omega)) (fun _ _ h => h)
    · intro w2 hb2 fr hout hin
      have h89 : fr.tmps.getD 89 undef = .bool true := hin 89 (by decide) (by decide)
      have h3 : Num w2 (fr.tmps.getD 3 undef) (nv p) 4096 := by
        have e : fr.tmps.getD 3 undef = v3 := hout 3 (by decide)
        rw [e]; exact H3.out.below hb2
      exact relStep_move (.tmp 3) rfl (wanted_some (g := 9) (t := 89) (b := true) rfl rfl h89) h3
    · intro w2 hb2 fr hout hin
      have h89 : fr.tmps.getD 89 undef = .bool true := hin 89 (by decide) (by decide)
      have h4 : Num w2 (fr.tmps.getD 4 undef) (nv q) 4096 := by
        have e : fr.tmps.getD 4 undef = v4 := hout 4 (by decide)
        rw [e]; exact H4.out.below hb2
      exact relStep_move (.tmp 4) rfl (wanted_some (g := 9) (t := 89) (b := true) rfl rfl h89) h4
    · intro w2 hb2 fr hout hin
      have h89 : fr.tmps.getD 89 undef = .bool true := hin 89 (by decide) (by decide)
      have h97 : Num w2 (fr.tmps.getD 97 undef) (nv p) 4096 := hin 97 (by decide) (by decide)
      have h98 : Num w2 (fr.tmps.getD 98 undef) (nv q) 4096 := hin 98 (by decide) (by decide)
      exact op_call2 (.tmp 97) (.tmp 98) rfl en_cmp2 (wanted_some (g := 9) (t := 89) (b := true) rfl rfl h89) (cmp2_v _ h97 h98 (by decide)) (fun _ _ h => h)
    · intro w2 hb2 fr hout hin
      have h89 : fr.tmps.getD 89 undef = .bool true := hin 89 (by decide) (by decide)
      have h96 : fr.tmps.getD 96 undef = .int .i64 (ordI (nv p) (nv q)) := hin 96 (by decide) (by decide)
      have h99 : fr.tmps.getD 99 undef = .int .i64 (ordI (nv p) (nv q)) := hin 99 (by decide) (by decide)
      exact op_eqI (.tmp 96) (.tmp 99) _ rfl h96 h99 (wanted_some (g := 9) (t := 89) (b := true) rfl rfl h89) rfl
    · intro w2 hb2 fr hout hin
      have h89 : fr.tmps.getD 89 undef = .bool true := hin 89 (by decide) (by decide)
      have h100 : fr.tmps.getD 100 undef = .bool true := hin 100 (by decide) (by decide)
      exact relStep_pick (.tmp 89) (.tmp 100) (.const (.bool false)) rfl h89 (wanted_none rfl) h100
    · intro w2 hb2 fr hout hin
      have h101 : fr.tmps.getD 101 undef = .bool true := hin 101 (by decide) (by decide)
      exact relStep_move (.tmp 101) rfl (wanted_none rfl) h101
    · intro w2 hb2 fr hout hin
      have h102 : fr.tmps.getD 102 undef = .bool true := hin 102 (by decide) (by decide)
      have h1 : fr.tmps.getD 1 undef = .pointer (some ⟨w.heap.size, 0, none⟩) := hout 1 (by decide)
      exact op_fieldN (.tmp 1) rfl (by decide) h1 (wanted_some (g := 22) (t := 102) (b := true) rfl rfl h102) rfl
    · intro w2 hb2 fr hout hin
      have h102 : fr.tmps.getD 102 undef = .bool true := hin 102 (by decide) (by decide)
      have h103 : fr.tmps.getD 103 undef = .pointer (some ⟨w.heap.size, 0, none⟩) := hin 103 (by decide) (by decide)
      exact op_load1 (.tmp 103) rfl (fun _ => by kernel_rfl) h103 ((HX.out.below hb2).c0) (wanted_some (g := 22) (t := 102) (b := true) rfl rfl h102) (RA.out.below hb2)
    · intro w2 hb2 fr hout hin
      have h102 : fr.tmps.getD 102 undef = .bool true := hin 102 (by decide) (by decide)
      have h104 : Byt w2 (fr.tmps.getD 104 undef) (xs) := hin 104 (by decide) (by decide)
      exact op_call1 (.tmp 104) rfl en_few (wanted_some (g := 22) (t := 102) (b := true) rfl rfl h102) (FFp.out _ h104) (fun _ _ h => h)
    · intro w2 hb2 fr hout hin
      have h102 : fr.tmps.getD 102 undef = .bool true := hin 102 (by decide) (by decide)
      have h105 : Byt w2 (fr.tmps.getD 105 undef) (p) := hin 105 (by decide) (by decide)
      exact op_call1 (.tmp 105) rfl en_bits (wanted_some (g := 22) (t := 102) (b := true) rfl rfl h102) (bits_v _ h105 (by have := HLp.out; omega)) (fun _ _ h => h)
    · intro w2 hb2 fr hout hin
      have h102 : fr.tmps.getD 102 undef = .bool true := hin 102 (by decide) (by decide)
      have h3 : Num w2 (fr.tmps.getD 3 undef) (nv p) 4096 := by
        have e : fr.tmps.getD 3 undef = v3 := hout 3 (by decide)
        rw [e]; exact H3.out.below hb2
      exact relStep_move (.tmp 3) rfl (wanted_some (g := 22) (t := 102) (b := true) rfl rfl h102) h3
    · intro w2 hb2 fr hout hin
      have h102 : fr.tmps.getD 102 undef = .bool true := hin 102 (by decide) (by decide)
      have h107 : Num w2 (fr.tmps.getD 107 undef) (nv p) 4096 := hin 107 (by decide) (by decide)
      exact op_call1 (.tmp 107) rfl en_len2 (wanted_some (g := 22) (t := 102) (b := true) rfl rfl h102) (len2_v _ h107 (by decide)) (fun _ _ h => h)
    · intro w2 hb2 fr hout hin
      have h102 : fr.tmps.getD 102 undef = .bool true := hin 102 (by decide) (by decide)
      have h106 : fr.tmps.getD 106 undef = .int .i64 ((blen (nv p) : Nat) : Int) := hin 106 (by decide) (by decide)
      have h108 : fr.tmps.getD 108 undef = .int .i64 ((blen (nv p) : Nat) : Int) := hin 108 (by decide) (by decide)
      exact op_eqI (.tmp 106) (.tmp 108) _ rfl h106 h108 (wanted_some (g := 22) (t := 102) (b := true) rfl rfl h102) rfl
    · intro w2 hb2 fr hout hin
      have h102 : fr.tmps.getD 102 undef = .bool true := hin 102 (by decide) (by decide)
      have h109 : fr.tmps.getD 109 undef = .bool true := hin 109 (by decide) (by decide)
      exact relStep_pick (.tmp 102) (.tmp 109) (.const (.bool false)) rfl h102 (wanted_none rfl) h109
    · intro w2 hb2 fr hout hin
      have h110 : fr.tmps.getD 110 undef = .bool true := hin 110 (by decide) (by decide)
      exact relStep_move (.tmp 110) rfl (wanted_none rfl) h110
    · intro w2 hb2 fr hout hin
      have h111 : fr.tmps.getD 111 undef = .bool true := hin 111 (by decide) (by decide)
      have h1 : fr.tmps.getD 1 undef = .pointer (some ⟨w.heap.size, 0, none⟩) := hout 1 (by decide)
      exact op_fieldN (.tmp 1) rfl (by decide) h1 (wanted_some (g := 31) (t := 111) (b := true) rfl rfl h111) rfl
    · intro w2 hb2 fr hout hin
      have h111 : fr.tmps.getD 111 undef = .bool true := hin 111 (by decide) (by decide)
      have h112 : fr.tmps.getD 112 undef = .pointer (some ⟨w.heap.size, 0, none⟩) := hin 112 (by decide) (by decide)
      exact op_load1 (.tmp 112) rfl (fun _ => by kernel_rfl) h112 ((HX.out.below hb2).c0) (wanted_some (g := 31) (t := 111) (b := true) rfl rfl h111) (RA.out.below hb2)
    · intro w2 hb2 fr hout hin
      have h111 : fr.tmps.getD 111 undef = .bool true := hin 111 (by decide) (by decide)
      have h113 : Byt w2 (fr.tmps.getD 113 undef) (xs) := hin 113 (by decide) (by decide)
      exact op_call1 (.tmp 113) rfl en_few (wanted_some (g := 31) (t := 111) (b := true) rfl rfl h111) (FFp.out _ h113) (fun _ _ h => h)
    · intro w2 hb2 fr hout hin
      have h111 : fr.tmps.getD 111 undef = .bool true := hin 111 (by decide) (by decide)
      have h1 : fr.tmps.getD 1 undef = .pointer (some ⟨w.heap.size, 0, none⟩) := hout 1 (by decide)
      exact op_fieldN (.tmp 1) rfl (by decide) h1 (wanted_some (g := 31) (t := 111) (b := true) rfl rfl h111) rfl
    · intro w2 hb2 fr hout hin
      have h111 : fr.tmps.getD 111 undef = .bool true := hin 111 (by decide) (by decide)
      have h115 : fr.tmps.getD 115 undef = .pointer (some ⟨w.heap.size, 3, none⟩) := hin 115 (by decide) (by decide)
      exact op_load1 (.tmp 115) rfl (fun _ => by kernel_rfl) h115 ((HX.out.below hb2).c3) (wanted_some (g := 31) (t := 111) (b := true) rfl rfl h111) (rfl)
    · intro w2 hb2 fr hout hin
      have h111 : fr.tmps.getD 111 undef = .bool true := hin 111 (by decide) (by decide)
      have h114 : Byt w2 (fr.tmps.getD 114 undef) (p) := hin 114 (by decide) (by decide)
      have h116 : fr.tmps.getD 116 undef = .int .i64 (j : Nat) := hin 116 (by decide) (by decide)
      exact op_call2 (.tmp 114) (.tmp 116) rfl en_bit (wanted_some (g := 31) (t := 111) (b := true) rfl rfl h111) (by
        show Calls _ _ #[fr.tmps.getD 114 undef, fr.tmps.getD 116 undef] _ _
        rw [h116]; exact (bitf_v _ h114 HLp.out j HJ.out HJ8.out)) (fun _ _ h => h)
    · intro w2 hb2 fr hout hin
      have h111 : fr.tmps.getD 111 undef = .bool true := hin 111 (by decide) (by decide)
      have h5 : fr.tmps.getD 5 undef = .int .i64 0 := hout 5 (by decide)
      exact relStep_move (.tmp 5) rfl (wanted_some (g := 31) (t := 111) (b := true) rfl rfl h111) h5
    · intro w2 hb2 fr hout hin
      have h111 : fr.tmps.getD 111 undef = .bool true := hin 111 (by decide) (by decide)
      have h117 : fr.tmps.getD 117 undef = .int .i64 0 := hin 117 (by decide) (by decide)
      have h118 : fr.tmps.getD 118 undef = .int .i64 0 := hin 118 (by decide) (by decide)
      exact op_eqI (.tmp 117) (.tmp 118) _ rfl h117 h118 (wanted_some (g := 31) (t := 111) (b := true) rfl rfl h111) rfl
    · intro w2 hb2 fr hout hin
      have h111 : fr.tmps.getD 111 undef = .bool true := hin 111 (by decide) (by decide)
      have h119 : fr.tmps.getD 119 undef = .bool true := hin 119 (by decide) (by decide)
      exact relStep_pick (.tmp 111) (.tmp 119) (.const (.bool false)) rfl h111 (wanted_none rfl) h119
    · intro w2 hb2 fr hout hin
      have h120 : fr.tmps.getD 120 undef = .bool true := hin 120 (by decide) (by decide)
      exact relStep_move (.tmp 120) rfl (wanted_none rfl) h120
    · intro w2 hb2 fr hout hin
      have h121 : fr.tmps.getD 121 undef = .bool true := hin 121 (by decide) (by decide)
      exact op_call0 rfl en_wakes (wanted_some (g := 41) (t := 121) (b := true) rfl rfl h121) (nwakes_v _) (fun _ _ h => h)
    · intro w2 hb2 fr hout hin
      have h121 : fr.tmps.getD 121 undef = .bool true := hin 121 (by decide) (by decide)
      have h122 : fr.tmps.getD 122 undef = .bool true := hin 122 (by decide) (by decide)
      exact relStep_pick (.tmp 121) (.tmp 122) (.const (.bool false)) rfl h121 (wanted_none rfl) h122
    · intro w2 hb2 fr hout hin
      have h123 : fr.tmps.getD 123 undef = .bool true := hin 123 (by decide) (by decide)
      exact relStep_assign (.tmp 123) rfl (wanted_none rfl) h123
  intro w7 hb7
  refine relAsk_in (by rfl) ?_
  intro v80 h80
  obtain rfl : v80 = .pointer (some ⟨w.heap.size, 0, none⟩) := h80
  refine relAsk_in (by rfl) ?_
  intro v81 h81
  refine relAsk_in (by rfl) ?_
  intro v82 h82
  refine relAsk_in (by rfl) ?_
  intro v83 h83
  refine relAsk_in (by rfl) ?_
  intro v84 h84
  obtain rfl : v84 = .string (sOf (nb (nv p))) := h84
  refine relAsk_in (by rfl) ?_
  intro v85 h85
  refine relAsk_in (by rfl) ?_
  intro v86 h86
  refine relAsk_in (by rfl) ?_
  intro v87 h87
  obtain rfl : v87 = .string (sOf (nb (nv p))) := h87
  refine relAsk_in (by rfl) ?_
  intro v88 h88
  obtain rfl : v88 = .bool true := h88
  refine relAsk_in (by rfl) ?_
  intro v89 h89
  obtain rfl : v89 = .bool true := h89
  refine relAsk_in (by rfl) ?_
  intro v90 h90
  obtain rfl : v90 = .pointer (some ⟨w.heap.size, 0, none⟩) := h90
  refine relAsk_in (by rfl) ?_
  intro v91 h91
  refine relAsk_in (by rfl) ?_
  intro v92 h92
  refine relAsk_in (by rfl) ?_
  intro v93 h93
  obtain rfl : v93 = .pointer (some ⟨w.heap.size, 1, none⟩) := h93
  refine relAsk_in (by rfl) ?_
  intro v94 h94
  refine relAsk_in (by rfl) ?_
  intro v95 h95
  refine relAsk_in (by rfl) ?_
  intro v96 h96
  obtain rfl : v96 = .int .i64 (ordI (nv p) (nv q)) := h96
  refine relAsk_in (by rfl) ?_
  intro v97 h97
  refine relAsk_in (by rfl) ?_
  intro v98 h98
  refine relAsk_in (by rfl) ?_
  intro v99 h99
  obtain rfl : v99 = .int .i64 (ordI (nv p) (nv q)) := h99
  refine relAsk_in (by rfl) ?_
  intro v100 h100
  obtain rfl : v100 = .bool true := h100
  refine relAsk_in (by rfl) ?_
  intro v101 h101
  obtain rfl : v101 = .bool true := h101
  refine relAsk_in (by rfl) ?_
  intro v102 h102
  obtain rfl : v102 = .bool true := h102
  refine relAsk_in (by rfl) ?_
  intro v103 h103
  obtain rfl : v103 = .pointer (some ⟨w.heap.size, 0, none⟩) := h103
  refine relAsk_in (by rfl) ?_
  intro v104 h104
  refine relAsk_in (by rfl) ?_
  intro v105 h105
  refine relAsk_in (by rfl) ?_
  intro v106 h106
  obtain rfl : v106 = .int .i64 ((blen (nv p) : Nat) : Int) := h106
  refine relAsk_in (by rfl) ?_
  intro v107 h107
  refine relAsk_in (by rfl) ?_
  intro v108 h108
  obtain rfl : v108 = .int .i64 ((blen (nv p) : Nat) : Int) := h108
  refine relAsk_in (by rfl) ?_
  intro v109 h109
  obtain rfl : v109 = .bool true := h109
  refine relAsk_in (by rfl) ?_
  intro v110 h110
  obtain rfl : v110 = .bool true := h110
  refine relAsk_in (by rfl) ?_
  intro v111 h111
  obtain rfl : v111 = .bool true := h111
  refine relAsk_in (by rfl) ?_
  intro v112 h112
  obtain rfl : v112 = .pointer (some ⟨w.heap.size, 0, none⟩) := h112
  refine relAsk_in (by rfl) ?_
  intro v113 h113
  refine relAsk_in (by rfl) ?_
  intro v114 h114
  refine relAsk_in (by rfl) ?_
  intro v115 h115
  obtain rfl : v115 = .pointer (some ⟨w.heap.size, 3, none⟩) := h115
  refine relAsk_in (by rfl) ?_
  intro v116 h116
  obtain rfl : v116 = .int .i64 (j : Nat) := h116
  refine relAsk_in (by rfl) ?_
  intro v117 h117
  obtain rfl : v117 = .int .i64 0 := h117
  refine relAsk_in (by rfl) ?_
  intro v118 h118
  obtain rfl : v118 = .int .i64 0 := h118
  refine relAsk_in (by rfl) ?_
  intro v119 h119
  obtain rfl : v119 = .bool true := h119
  refine relAsk_in (by rfl) ?_
  intro v120 h120
  obtain rfl : v120 = .bool true := h120
  refine relAsk_in (by rfl) ?_
  intro v121 h121
  obtain rfl : v121 = .bool true := h121
  refine relAsk_in (by rfl) ?_
  intro v122 h122
  obtain rfl : v122 = .bool true := h122
  refine relAsk_in (by rfl) ?_
  intro v123 h123
  obtain rfl : v123 = .bool true := h123
  refine relAsk_in (by rfl) ?_
  intro v2 h2
  obtain rfl : v2 = .bool true := h2
  refine relAsk_nil ?_
  have RA := Lib.hid (RA.out.below hb7)
  have RB := Lib.hid (RB.out.below hb7)
  have RM := Lib.hid (RM.out.below hb7)
  have HX := Lib.hid (HX.out.below hb7)
  have HW := Lib.hid (HW.out.trans (hb7.mono HW.out.size))
  have H3 := Lib.hid (H3.out.below hb7)
  have H4 := Lib.hid (H4.out.below hb7)
  clear h81 h82 h83 h85 h86 h91 h92 h94 h95 h97 h98 h104 h105 h107 h113 h114 hb7
  refine wpList_nil ?_
  go_simp
  go_wp2_with fail
  go_ret
  exact ⟨rfl, HW.out⟩

set_option maxRecDepth 100000 in
set_option maxHeartbeats 12800000 in
theorem forms_far_far {A B M : Option Addr} {ca cb cm : Nat} {j : Nat} {wide : Int} {xs ys zs : List Nat} (w : World) (hA : Rd .u8 w A ca xs) (dA : Ds 256 xs) (hB : Rd .u8 w B cb ys) (dB : Ds 256 ys) (hM : Rd .u8 w M cm zs) (dM : Ds 256 zs) (hj : 4808 ≤ j) (hj2 : j ≤ 9223372036854775807) (hn : 65536 < wide) :
    Calls Try.prog 11 #[.agg #[.slice A xs.length ca, .slice B ys.length cb, .slice M zs.length cm, .int .i64 (j : Nat), .int .i64 wide]] w (RetV (.bool true) w) := by
  obtain ⟨p, hp⟩ : ∃ zz, zz = xs.take 600 := ⟨_, rfl⟩
  have hlp : p.length ≤ 600 := by rw [hp, List.length_take]; omega
  have ffp : ∀ (w : World) {u : Value}, Byt w u xs → Calls Try.prog 75 #[u] w (RetR (fun w' v => Byt w' v p) w) := fun w u h => by rw [hp]; exact few_v w h
  have HLp := Lib.hid hlp
  have FFp := Lib.hid ffp
  have Hp := Lib.hid hp
  clear hlp ffp hp
  obtain ⟨q, hq⟩ : ∃ zz, zz = ys.take 600 := ⟨_, rfl⟩
  have hlq : q.length ≤ 600 := by rw [hq, List.length_take]; omega
  have ffq : ∀ (w : World) {u : Value}, Byt w u ys → Calls Try.prog 75 #[u] w (RetR (fun w' v => Byt w' v q) w) := fun w u h => by rw [hq]; exact few_v w h
  have HLq := Lib.hid hlq
  have FFq := Lib.hid ffq
  have Hq := Lib.hid hq
  clear hlq ffq hq
  have HJ := Lib.hid hj2
  have HJ8 := Lib.hid hj
  have K19 : Hid (∀ w, (binOp .geq 3 (.int .i64 (j : Nat)) (.int .i64 0)).run Try.prog w = .ok (.bool true) w) := fun w => by
    have h : (0 : Int) ≤ (j : Int) := by omega
    go_simp
  have K23 : Hid (∀ w, (binOp .lss 3 (.int .i64 (j : Nat)) (.int .i64 4808)).run Try.prog w = .ok (.bool false) w) := fun w => by
    have h : ¬ ((j : Int) < 4808) := by omega
    go_simp
  have HNO : Hid (wide < 0 ∨ 65536 < wide ∨ ∃ n : Nat, wide = n ∧ ¬ nv p < 256 ^ n) := .inr (.inl hn)
  have K41 : Hid (∀ w, (binOp .geq 3 (.int .i64 wide) (.int .i64 0)).run Try.prog w = .ok (.bool true) w) := fun w => by
    have h : (0 : Int) ≤ wide := by omega
    go_simp
  have K45 : Hid (∀ w, (binOp .leq 3 (.int .i64 wide) (.int .i64 65536)).run Try.prog w = .ok (.bool false) w) := fun w => by
    have h : ¬ (wide ≤ 65536) := by omega
    go_simp
  clear hj hj2 hn
  obtain ⟨L, hL⟩ : ∃ L, L = xs.length := ⟨_, rfl⟩
  obtain ⟨K, hK⟩ : ∃ K, K = ys.length := ⟨_, rfl⟩
  obtain ⟨J, hJ⟩ : ∃ J, J = zs.length := ⟨_, rfl⟩
  have rA : Byt w (.slice A L ca) xs := ⟨A, ca, by rw [hL], hA, dA⟩
  have rB : Byt w (.slice B K cb) ys := ⟨B, cb, by rw [hK], hB, dB⟩
  have rM : Byt w (.slice M J cm) zs := ⟨M, cm, by rw [hJ], hM, dM⟩
  rw [← hL, ← hK, ← hJ]
  have hW := (Below.refl w.heap.size w).alloc (Nat.le_refl _) (.cells #[.slice A L ca, .slice B K cb, .slice M J cm, .int .i64 (j : Nat), .int .i64 wide] 51)
  have hx := Box5.new w (.slice A L ca) (.slice B K cb) (.slice M J cm) (.int .i64 (j : Nat)) (.int .i64 wide) 51
  have RA := Lib.hid (rA.below hW)
  have RB := Lib.hid (rB.below hW)
  have RM := Lib.hid (rM.below hW)
  have HX := Lib.hid hx
  have HW := Lib.hid hW
  clear hA dA hB dB hM dM hL hK hJ rA rB rM hW hx
  go_enter Try.func11, Try.ntmps11
  go_upto_region 1 with (fail)
  generalize hX : w.alloc (.cells #[.slice A L ca, .slice B K cb, .slice M J cm, .int .i64 (j : Nat), .int .i64 wide] 51) = X at *
  clear hX
  refine wp_region_seq 5 [9, 10, 11, 12, 3] [(9, .is (.pointer (some ⟨w.heap.size, 0, none⟩))), (10, .byt (xs)), (11, .byt (p)), (12, .num (nv p) 4096), (3, .num (nv p) 4096)] (by kernel_rfl) (by rfl) ?_ ?_
  · refine seeOps_cons ?_ (seeOps_cons ?_ (seeOps_cons ?_ (seeOps_cons ?_ (seeOps_cons ?_ seeOps_nil))))
    · intro w2 hb2 fr hout hin
      have h1 : fr.tmps.getD 1 undef = .pointer (some ⟨w.heap.size, 0, none⟩) := hout 1 (by decide)
      exact op_fieldN (.tmp 1) rfl (by decide) h1 (wanted_none rfl) rfl
    · intro w2 hb2 fr hout hin
      have h9 : fr.tmps.getD 9 undef = .pointer (some ⟨w.heap.size, 0, none⟩) := hin 9 (by decide) (by decide)
      exact op_load1 (.tmp 9) rfl (fun _ => by kernel_rfl) h9 ((HX.out.below hb2).c0) (wanted_none rfl) (RA.out.below hb2)
    · intro w2 hb2 fr hout hin
      have h10 : Byt w2 (fr.tmps.getD 10 undef) (xs) := hin 10 (by decide) (by decide)
      exact op_call1 (.tmp 10) rfl en_few (wanted_none rfl) (FFp.out _ h10) (fun _ _ h => h)
    · intro w2 hb2 fr hout hin
      have h11 : Byt w2 (fr.tmps.getD 11 undef) (p) := hin 11 (by decide) (by decide)
      exact op_call1 (.tmp 11) rfl en_from2 (wanted_none rfl) (from2_v _ h11 (by have := HLp.out; omega)) (fun _ _ h => h)
    · intro w2 hb2 fr hout hin
      have h12 : Num w2 (fr.tmps.getD 12 undef) (nv p) 4096 := hin 12 (by decide) (by decide)
      exact relStep_assign (.tmp 12) rfl (wanted_none rfl) h12
  intro w1 hb1
  refine relAsk_in (by rfl) ?_
  intro v9 h9
  obtain rfl : v9 = .pointer (some ⟨w.heap.size, 0, none⟩) := h9
  refine relAsk_in (by rfl) ?_
  intro v10 h10
  refine relAsk_in (by rfl) ?_
  intro v11 h11
  refine relAsk_in (by rfl) ?_
  intro v12 h12
  refine relAsk_in (by rfl) ?_
  intro v3 h3
  refine relAsk_nil ?_
  have RA := Lib.hid (RA.out.below hb1)
  have RB := Lib.hid (RB.out.below hb1)
  have RM := Lib.hid (RM.out.below hb1)
  have HX := Lib.hid (HX.out.below hb1)
  have HW := Lib.hid (HW.out.trans (hb1.mono HW.out.size))
  have H3 : Hid (Num w1 (v3) (nv p) 4096) := h3
  clear h10 h11 h12 h3 hb1
  refine wpList_nil ?_
  go_simp
  go_upto_region 2 with (fail)
  refine wp_region_seq 5 [13, 14, 15, 16, 4] [(13, .is (.pointer (some ⟨w.heap.size, 1, none⟩))), (14, .byt (ys)), (15, .byt (q)), (16, .num (nv q) 4096), (4, .num (nv q) 4096)] (by kernel_rfl) (by rfl) ?_ ?_
  · refine seeOps_cons ?_ (seeOps_cons ?_ (seeOps_cons ?_ (seeOps_cons ?_ (seeOps_cons ?_ seeOps_nil))))
    · intro w2 hb2 fr hout hin
      have h1 : fr.tmps.getD 1 undef = .pointer (some ⟨w.heap.size, 0, none⟩) := hout 1 (by decide)
      exact op_fieldN (.tmp 1) rfl (by decide) h1 (wanted_none rfl) rfl
    · intro w2 hb2 fr hout hin
      have h13 : fr.tmps.getD 13 undef = .pointer (some ⟨w.heap.size, 1, none⟩) := hin 13 (by decide) (by decide)
      exact op_load1 (.tmp 13) rfl (fun _ => by kernel_rfl) h13 ((HX.out.below hb2).c1) (wanted_none rfl) (RB.out.below hb2)
    · intro w2 hb2 fr hout hin
      have h14 : Byt w2 (fr.tmps.getD 14 undef) (ys) := hin 14 (by decide) (by decide)
      exact op_call1 (.tmp 14) rfl en_few (wanted_none rfl) (FFq.out _ h14) (fun _ _ h => h)
    · intro w2 hb2 fr hout hin
      have h15 : Byt w2 (fr.tmps.getD 15 undef) (q) := hin 15 (by decide) (by decide)
      exact op_call1 (.tmp 15) rfl en_from2 (wanted_none rfl) (from2_v _ h15 (by have := HLq.out; omega)) (fun _ _ h => h)
    · intro w2 hb2 fr hout hin
      have h16 : Num w2 (fr.tmps.getD 16 undef) (nv q) 4096 := hin 16 (by decide) (by decide)
      exact relStep_assign (.tmp 16) rfl (wanted_none rfl) h16
  intro w2 hb2
  refine relAsk_in (by rfl) ?_
  intro v13 h13
  obtain rfl : v13 = .pointer (some ⟨w.heap.size, 1, none⟩) := h13
  refine relAsk_in (by rfl) ?_
  intro v14 h14
  refine relAsk_in (by rfl) ?_
  intro v15 h15
  refine relAsk_in (by rfl) ?_
  intro v16 h16
  refine relAsk_in (by rfl) ?_
  intro v4 h4
  refine relAsk_nil ?_
  have RA := Lib.hid (RA.out.below hb2)
  have RB := Lib.hid (RB.out.below hb2)
  have RM := Lib.hid (RM.out.below hb2)
  have HX := Lib.hid (HX.out.below hb2)
  have HW := Lib.hid (HW.out.trans (hb2.mono HW.out.size))
  have H3 := Lib.hid (H3.out.below hb2)
  have H4 : Hid (Num w2 (v4) (nv q) 4096) := h4
  clear h14 h15 h16 h4 hb2
  refine wpList_nil ?_
  go_simp
  go_upto_region 4 with (fail)
  refine wp_region_seq 8 [17, 18, 19, 20, 21, 22, 23, 24] [(17, .is (.pointer (some ⟨w.heap.size, 3, none⟩))), (18, .is (.int .i64 (j : Nat))), (19, .is (.bool true)), (20, .is (.bool true)), (21, .is (.pointer (some ⟨w.heap.size, 3, none⟩))), (22, .is (.int .i64 (j : Nat))), (23, .is (.bool false)), (24, .is (.bool false))] (by kernel_rfl) (by rfl) ?_ ?_
  · refine seeOps_cons ?_ (seeOps_cons ?_ (seeOps_cons ?_ (seeOps_cons ?_ (seeOps_cons ?_ (seeOps_cons ?_ (seeOps_cons ?_ (seeOps_cons ?_ seeOps_nil)))))))
    · intro w2 hb2 fr hout hin
      have h1 : fr.tmps.getD 1 undef = .pointer (some ⟨w.heap.size, 0, none⟩) := hout 1 (by decide)
      exact op_fieldN (.tmp 1) rfl (by decide) h1 (wanted_none rfl) rfl
    · intro w2 hb2 fr hout hin
      have h17 : fr.tmps.getD 17 undef = .pointer (some ⟨w.heap.size, 3, none⟩) := hin 17 (by decide) (by decide)
      exact op_load1 (.tmp 17) rfl (fun _ => by kernel_rfl) h17 ((HX.out.below hb2).c3) (wanted_none rfl) (rfl)
    · intro w2 hb2 fr hout hin
      have h18 : fr.tmps.getD 18 undef = .int .i64 (j : Nat) := hin 18 (by decide) (by decide)
      exact op_cmp .geq (.tmp 18) (.const (.int .i64 0)) _ rfl h18 rfl (K19.out) (wanted_none rfl) rfl
    · intro w2 hb2 fr hout hin
      have h19 : fr.tmps.getD 19 undef = .bool true := hin 19 (by decide) (by decide)
      exact relStep_move (.tmp 19) rfl (wanted_none rfl) h19
    · intro w2 hb2 fr hout hin
      have h20 : fr.tmps.getD 20 undef = .bool true := hin 20 (by decide) (by decide)
      have h1 : fr.tmps.getD 1 undef = .pointer (some ⟨w.heap.size, 0, none⟩) := hout 1 (by decide)
      exact op_fieldN (.tmp 1) rfl (by decide) h1 (wanted_some (g := 3) (t := 20) (b := true) rfl rfl h20) rfl
    · intro w2 hb2 fr hout hin
      have h20 : fr.tmps.getD 20 undef = .bool true := hin 20 (by decide) (by decide)
      have h21 : fr.tmps.getD 21 undef = .pointer (some ⟨w.heap.size, 3, none⟩) := hin 21 (by decide) (by decide)
      exact op_load1 (.tmp 21) rfl (fun _ => by kernel_rfl) h21 ((HX.out.below hb2).c3) (wanted_some (g := 3) (t := 20) (b := true) rfl rfl h20) (rfl)
    · intro w2 hb2 fr hout hin
      have h20 : fr.tmps.getD 20 undef = .bool true := hin 20 (by decide) (by decide)
      have h22 : fr.tmps.getD 22 undef = .int .i64 (j : Nat) := hin 22 (by decide) (by decide)
      exact op_cmp .lss (.tmp 22) (.const (.int .i64 4808)) _ rfl h22 rfl (K23.out) (wanted_some (g := 3) (t := 20) (b := true) rfl rfl h20) rfl
    · intro w2 hb2 fr hout hin
      have h20 : fr.tmps.getD 20 undef = .bool true := hin 20 (by decide) (by decide)
      have h23 : fr.tmps.getD 23 undef = .bool false := hin 23 (by decide) (by decide)
      exact relStep_pick (.tmp 20) (.tmp 23) (.const (.bool false)) rfl h20 (wanted_none rfl) h23
  intro w3 hb3
  refine relAsk_in (by rfl) ?_
  intro v17 h17
  obtain rfl : v17 = .pointer (some ⟨w.heap.size, 3, none⟩) := h17
  refine relAsk_in (by rfl) ?_
  intro v18 h18
  obtain rfl : v18 = .int .i64 (j : Nat) := h18
  refine relAsk_in (by rfl) ?_
  intro v19 h19
  obtain rfl : v19 = .bool true := h19
  refine relAsk_in (by rfl) ?_
  intro v20 h20
  obtain rfl : v20 = .bool true := h20
  refine relAsk_in (by rfl) ?_
  intro v21 h21
  obtain rfl : v21 = .pointer (some ⟨w.heap.size, 3, none⟩) := h21
  refine relAsk_in (by rfl) ?_
  intro v22 h22
  obtain rfl : v22 = .int .i64 (j : Nat) := h22
  refine relAsk_in (by rfl) ?_
  intro v23 h23
  obtain rfl : v23 = .bool false := h23
  refine relAsk_in (by rfl) ?_
  intro v24 h24
  obtain rfl : v24 = .bool false := h24
  refine relAsk_nil ?_
  have RA := Lib.hid (RA.out.below hb3)
  have RB := Lib.hid (RB.out.below hb3)
  have RM := Lib.hid (RM.out.below hb3)
  have HX := Lib.hid (HX.out.below hb3)
  have HW := Lib.hid (HW.out.trans (hb3.mono HW.out.size))
  have H3 := Lib.hid (H3.out.below hb3)
  have H4 := Lib.hid (H4.out.below hb3)
  clear hb3
  refine wpList_nil ?_
  go_simp
  go_upto_region 6 with (fail)
  refine wp_region_see 11 [31, 32, 33, 34, 35, 36, 30, 37, 38, 6, 7] [(31, .is (.pointer (some ⟨w.heap.size, 0, none⟩))), (32, .byt (xs)), (33, .byt (p)), (34, .is (.pointer (some ⟨w.heap.size, 4, none⟩))), (35, .is (.int .i64 wide)), (36, .is (.tuple #[.slice none 0 0, .bool false])), (30, .is (.tuple #[.slice none 0 0, .bool false])), (37, .is (.slice none 0 0)), (38, .is (.bool false)), (6, .is (.slice none 0 0)), (7, .is (.bool false))] (by kernel_rfl) (by kernel_rfl) (by rfl) ?_ ?_
  · refine seeOps_cons ?_ (seeOps_cons ?_ (seeOps_cons ?_ (seeOps_cons ?_ (seeOps_cons ?_ (seeOps_cons ?_ (seeOps_cons ?_ (seeOps_cons ?_ (seeOps_cons ?_ (seeOps_cons ?_ (seeOps_cons ?_ seeOps_nil))))))))))
    · intro w2 hb2 fr hout hin
      have h1 : fr.tmps.getD 1 undef = .pointer (some ⟨w.heap.size, 0, none⟩) := hout 1 (by decide)
      exact op_fieldN (.tmp 1) rfl (by decide) h1 (wanted_none rfl) rfl
    · intro w2 hb2 fr hout hin
      have h31 : fr.tmps.getD 31 undef = .pointer (some ⟨w.heap.size, 0, none⟩) := hin 31 (by decide) (by decide)
      exact op_load1 (.tmp 31) rfl (fun _ => by kernel_rfl) h31 ((HX.out.below hb2).c0) (wanted_none rfl) (RA.out.below hb2)
    · intro w2 hb2 fr hout hin
      have h32 : Byt w2 (fr.tmps.getD 32 undef) (xs) := hin 32 (by decide) (by decide)
      exact op_call1 (.tmp 32) rfl en_few (wanted_none rfl) (FFp.out _ h32) (fun _ _ h => h)
    · intro w2 hb2 fr hout hin
      have h1 : fr.tmps.getD 1 undef = .pointer (some ⟨w.heap.size, 0, none⟩) := hout 1 (by decide)
      exact op_fieldN (.tmp 1) rfl (by decide) h1 (wanted_none rfl) rfl
    · intro w2 hb2 fr hout hin
      have h34 : fr.tmps.getD 34 undef = .pointer (some ⟨w.heap.size, 4, none⟩) := hin 34 (by decide) (by decide)
      exact op_load1 (.tmp 34) rfl (fun _ => by kernel_rfl) h34 ((HX.out.below hb2).c4) (wanted_none rfl) (rfl)
    · intro w2 hb2 fr hout hin
      have h33 : Byt w2 (fr.tmps.getD 33 undef) (p) := hin 33 (by decide) (by decide)
      have h35 : fr.tmps.getD 35 undef = .int .i64 wide := hin 35 (by decide) (by decide)
      exact op_call2 (.tmp 33) (.tmp 35) rfl en_fill (wanted_none rfl) (by
        show Calls _ _ #[fr.tmps.getD 33 undef, fr.tmps.getD 35 undef] _ _
        rw [h35]; exact (fillno_v _ h33 (by have := HLp.out; omega) _ HNO.out)) (fun _ _ h => h)
    · intro w2 hb2 fr hout hin
      have h36 : fr.tmps.getD 36 undef = .tuple #[.slice none 0 0, .bool false] := hin 36 (by decide) (by decide)
      exact relStep_move (.tmp 36) rfl (wanted_none rfl) h36
    · intro w2 hb2 fr hout hin
      have h30 : fr.tmps.getD 30 undef = .tuple #[.slice none 0 0, .bool false] := hin 30 (by decide) (by decide)
      exact op_ext (.tmp 30) 0 rfl h30 rfl (wanted_none rfl) rfl
    · intro w2 hb2 fr hout hin
      have h30 : fr.tmps.getD 30 undef = .tuple #[.slice none 0 0, .bool false] := hin 30 (by decide) (by decide)
      exact op_ext (.tmp 30) 1 rfl h30 rfl (wanted_none rfl) rfl
    · intro w2 hb2 fr hout hin
      have h37 : fr.tmps.getD 37 undef = .slice none 0 0 := hin 37 (by decide) (by decide)
      exact relStep_assign (.tmp 37) rfl (wanted_none rfl) h37
    · intro w2 hb2 fr hout hin
      have h38 : fr.tmps.getD 38 undef = .bool false := hin 38 (by decide) (by decide)
      exact relStep_assign (.tmp 38) rfl (wanted_none rfl) h38
  intro w4 hb4
  refine relAsk_in (by rfl) ?_
  intro v31 h31
  obtain rfl : v31 = .pointer (some ⟨w.heap.size, 0, none⟩) := h31
  refine relAsk_in (by rfl) ?_
  intro v32 h32
  refine relAsk_in (by rfl) ?_
  intro v33 h33
  refine relAsk_in (by rfl) ?_
  intro v34 h34
  obtain rfl : v34 = .pointer (some ⟨w.heap.size, 4, none⟩) := h34
  refine relAsk_in (by rfl) ?_
  intro v35 h35
  obtain rfl : v35 = .int .i64 wide := h35
  refine relAsk_in (by rfl) ?_
  intro v36 h36
  obtain rfl : v36 = .tuple #[.slice none 0 0, .bool false] := h36
  refine relAsk_in (by rfl) ?_
  intro v30 h30
  obtain rfl : v30 = .tuple #[.slice none 0 0, .bool false] := h30
  refine relAsk_in (by rfl) ?_
  intro v37 h37
  obtain rfl : v37 = .slice none 0 0 := h37
  refine relAsk_in (by rfl) ?_
  intro v38 h38
  obtain rfl : v38 = .bool false := h38
  refine relAsk_in (by rfl) ?_
  intro v6 h6
  obtain rfl : v6 = .slice none 0 0 := h6
  refine relAsk_in (by rfl) ?_
  intro v7 h7
  obtain rfl : v7 = .bool false := h7
  refine relAsk_nil ?_
  have RA := Lib.hid (RA.out.below hb4)
  have RB := Lib.hid (RB.out.below hb4)
  have RM := Lib.hid (RM.out.below hb4)
  have HX := Lib.hid (HX.out.below hb4)
  have HW := Lib.hid (HW.out.trans (hb4.mono HW.out.size))
  have H3 := Lib.hid (H3.out.below hb4)
  have H4 := Lib.hid (H4.out.below hb4)
  clear h32 h33 hb4
  refine wpList_nil ?_
  go_simp
  go_upto_region 7 with (fail)
  refine wp_region_see 17 [39, 40, 41, 42, 43, 44, 45, 46, 47, 48, 49, 50, 51, 52, 53, 54, 8] [(39, .is (.pointer (some ⟨w.heap.size, 4, none⟩))), (40, .is (.int .i64 wide)), (41, .is (.bool true)), (42, .is (.bool true)), (43, .is (.pointer (some ⟨w.heap.size, 4, none⟩))), (44, .is (.int .i64 wide)), (45, .is (.bool false)), (46, .is (.bool false)), (47, .is (.bool false)), (48, .any), (49, .any), (50, .any), (51, .any), (52, .any), (53, .any), (54, .is (.bool false)), (8, .is (.bool false))] (by kernel_rfl) (by kernel_rfl) (by rfl) ?_ ?_
  · refine seeOps_cons ?_ (seeOps_cons ?_ (seeOps_cons ?_ (seeOps_cons ?_ (seeOps_cons ?_ (seeOps_cons ?_ (seeOps_cons ?_ (seeOps_cons ?_ (seeOps_cons ?_ (seeOps_cons ?_ (seeOps_cons ?_ (seeOps_cons ?_ (seeOps_cons ?_ (seeOps_cons ?_ (seeOps_cons ?_ (seeOps_cons ?_ (seeOps_cons ?_ seeOps_nil))))))))))))))))
    · intro w2 hb2 fr hout hin
      have h1 : fr.tmps.getD 1 undef = .pointer (some ⟨w.heap.size, 0, none⟩) := hout 1 (by decide)
      exact op_fieldN (.tmp 1) rfl (by decide) h1 (wanted_none rfl) rfl
    · intro w2 hb2 fr hout hin
      have h39 : fr.tmps.getD 39 undef = .pointer (some ⟨w.heap.size, 4, none⟩) := hin 39 (by decide) (by decide)
      exact op_load1 (.tmp 39) rfl (fun _ => by kernel_rfl) h39 ((HX.out.below hb2).c4) (wanted_none rfl) (rfl)
    · intro w2 hb2 fr hout hin
      have h40 : fr.tmps.getD 40 undef = .int .i64 wide := hin 40 (by decide) (by decide)
      exact op_cmp .geq (.tmp 40) (.const (.int .i64 0)) _ rfl h40 rfl (K41.out) (wanted_none rfl) rfl
    · intro w2 hb2 fr hout hin
      have h41 : fr.tmps.getD 41 undef = .bool true := hin 41 (by decide) (by decide)
      exact relStep_move (.tmp 41) rfl (wanted_none rfl) h41
    · intro w2 hb2 fr hout hin
      have h42 : fr.tmps.getD 42 undef = .bool true := hin 42 (by decide) (by decide)
      have h1 : fr.tmps.getD 1 undef = .pointer (some ⟨w.heap.size, 0, none⟩) := hout 1 (by decide)
      exact op_fieldN (.tmp 1) rfl (by decide) h1 (wanted_some (g := 3) (t := 42) (b := true) rfl rfl h42) rfl
    · intro w2 hb2 fr hout hin
      have h42 : fr.tmps.getD 42 undef = .bool true := hin 42 (by decide) (by decide)
      have h43 : fr.tmps.getD 43 undef = .pointer (some ⟨w.heap.size, 4, none⟩) := hin 43 (by decide) (by decide)
      exact op_load1 (.tmp 43) rfl (fun _ => by kernel_rfl) h43 ((HX.out.below hb2).c4) (wanted_some (g := 3) (t := 42) (b := true) rfl rfl h42) (rfl)
    · intro w2 hb2 fr hout hin
      have h42 : fr.tmps.getD 42 undef = .bool true := hin 42 (by decide) (by decide)
      have h44 : fr.tmps.getD 44 undef = .int .i64 wide := hin 44 (by decide) (by decide)
      exact op_cmp .leq (.tmp 44) (.const (.int .i64 65536)) _ rfl h44 rfl (K45.out) (wanted_some (g := 3) (t := 42) (b := true) rfl rfl h42) rfl
    · intro w2 hb2 fr hout hin
      have h42 : fr.tmps.getD 42 undef = .bool true := hin 42 (by decide) (by decide)
      have h45 : fr.tmps.getD 45 undef = .bool false := hin 45 (by decide) (by decide)
      exact relStep_pick (.tmp 42) (.tmp 45) (.const (.bool false)) rfl h42 (wanted_none rfl) h45
    · intro w2 hb2 fr hout hin
      have h46 : fr.tmps.getD 46 undef = .bool false := hin 46 (by decide) (by decide)
      exact relStep_move (.tmp 46) rfl (wanted_none rfl) h46
    · intro w2 hb2 fr hout hin
      have h47 : fr.tmps.getD 47 undef = .bool false := hin 47 (by decide) (by decide)
      exact relStep_skip (wanted_not rfl rfl h47 rfl) trivial
    · intro w2 hb2 fr hout hin
      have h47 : fr.tmps.getD 47 undef = .bool false := hin 47 (by decide) (by decide)
      exact relStep_skip (wanted_not rfl rfl h47 rfl) trivial
    · intro w2 hb2 fr hout hin
      have h47 : fr.tmps.getD 47 undef = .bool false := hin 47 (by decide) (by decide)
      exact relStep_skip (wanted_not rfl rfl h47 rfl) trivial
    · intro w2 hb2 fr hout hin
      have h47 : fr.tmps.getD 47 undef = .bool false := hin 47 (by decide) (by decide)
      exact relStep_skip (wanted_not rfl rfl h47 rfl) trivial
    · intro w2 hb2 fr hout hin
      have h47 : fr.tmps.getD 47 undef = .bool false := hin 47 (by decide) (by decide)
      exact relStep_skip (wanted_not rfl rfl h47 rfl) trivial
    · intro w2 hb2 fr hout hin
      have h47 : fr.tmps.getD 47 undef = .bool false := hin 47 (by decide) (by decide)
      exact relStep_skip (wanted_not rfl rfl h47 rfl) trivial
    · intro w2 hb2 fr hout hin
      have h47 : fr.tmps.getD 47 undef = .bool false := hin 47 (by decide) (by decide)
      exact relStep_pickF (.tmp 47) (.tmp 53) (.const (.bool false)) rfl h47 (wanted_none rfl) rfl
    · intro w2 hb2 fr hout hin
      have h54 : fr.tmps.getD 54 undef = .bool false := hin 54 (by decide) (by decide)
      exact relStep_assign (.tmp 54) rfl (wanted_none rfl) h54
  intro w5 hb5
  refine relAsk_in (by rfl) ?_
  intro v39 h39
  obtain rfl : v39 = .pointer (some ⟨w.heap.size, 4, none⟩) := h39
  refine relAsk_in (by rfl) ?_
  intro v40 h40
  obtain rfl : v40 = .int .i64 wide := h40
  refine relAsk_in (by rfl) ?_
  intro v41 h41
  obtain rfl : v41 = .bool true := h41
  refine relAsk_in (by rfl) ?_
  intro v42 h42
  obtain rfl : v42 = .bool true := h42
  refine relAsk_in (by rfl) ?_
  intro v43 h43
  obtain rfl : v43 = .pointer (some ⟨w.heap.size, 4, none⟩) := h43
  refine relAsk_in (by rfl) ?_
  intro v44 h44
  obtain rfl : v44 = .int .i64 wide := h44
  refine relAsk_in (by rfl) ?_
  intro v45 h45
  obtain rfl : v45 = .bool false := h45
  refine relAsk_in (by rfl) ?_
  intro v46 h46
  obtain rfl : v46 = .bool false := h46
  refine relAsk_in (by rfl) ?_
  intro v47 h47
  obtain rfl : v47 = .bool false := h47
  refine relAsk_in (by rfl) ?_
  intro v48 h48
  clear h48
  refine relAsk_in (by rfl) ?_
  intro v49 h49
  clear h49
  refine relAsk_in (by rfl) ?_
  intro v50 h50
  clear h50
  refine relAsk_in (by rfl) ?_
  intro v51 h51
  clear h51
  refine relAsk_in (by rfl) ?_
  intro v52 h52
  clear h52
  refine relAsk_in (by rfl) ?_
  intro v53 h53
  clear h53
  refine relAsk_in (by rfl) ?_
  intro v54 h54
  obtain rfl : v54 = .bool false := h54
  refine relAsk_in (by rfl) ?_
  intro v8 h8
  obtain rfl : v8 = .bool false := h8
  refine relAsk_nil ?_
  have RA := Lib.hid (RA.out.below hb5)
  have RB := Lib.hid (RB.out.below hb5)
  have RM := Lib.hid (RM.out.below hb5)
  have HX := Lib.hid (HX.out.below hb5)
  have HW := Lib.hid (HW.out.trans (hb5.mono HW.out.size))
  have H3 := Lib.hid (H3.out.below hb5)
  have H4 := Lib.hid (H4.out.below hb5)
  clear hb5
  refine wpList_nil ?_
  go_simp
  go_upto_region 8 with (fail)
  refine wp_region_see 25 [55, 56, 57, 58, 59, 60, 61, 62, 63, 64, 65, 66, 67, 68, 69, 70, 71, 72, 73, 74, 75, 76, 77, 78, 79] [(55, .is (.bool false)), (56, .is (.bool false)), (57, .is (.bool false)), (58, .is (.bool false)), (59, .is (.bool false)), (60, .is (.bool false)), (61, .any), (62, .any), (63, .any), (64, .any), (65, .any), (66, .any), (67, .any), (68, .any), (69, .is (.bool false)), (70, .is (.bool false)), (71, .is (.bool false)), (72, .is (.bool false)), (73, .is (.bool true)), (74, .is (.bool true)), (75, .is (.slice none 0 0)), (76, .is (.int .i64 0)), (77, .is (.bool false)), (78, .is (.bool false)), (79, .is (.bool false))] (by kernel_rfl) (by kernel_rfl) (by rfl) ?_ ?_
  · refine seeOps_cons ?_ (seeOps_cons ?_ (seeOps_cons ?_ (seeOps_cons ?_ (seeOps_cons ?_ (seeOps_cons ?_ (seeOps_cons ?_ (seeOps_cons ?_ (seeOps_cons ?_ (seeOps_cons ?_ (seeOps_cons ?_ (seeOps_cons ?_ (seeOps_cons ?_ (seeOps_cons ?_ (seeOps_cons ?_ (seeOps_cons ?_ (seeOps_cons ?_ (seeOps_cons ?_ (seeOps_cons ?_ (seeOps_cons ?_ (seeOps_cons ?_ (seeOps_cons ?_ (seeOps_cons ?_ (seeOps_cons ?_ (seeOps_cons ?_ seeOps_nil))))))))))))))))))))))))
    · intro w2 hb2 fr hout hin
      have h7 : fr.tmps.getD 7 undef = .bool false := hout 7 (by decide)
      exact relStep_move (.tmp 7) rfl (wanted_none rfl) h7
    · intro w2 hb2 fr hout hin
      have h8 : fr.tmps.getD 8 undef = .bool false := hout 8 (by decide)
      exact relStep_move (.tmp 8) rfl (wanted_none rfl) h8
    · intro w2 hb2 fr hout hin
      have h55 : fr.tmps.getD 55 undef = .bool false := hin 55 (by decide) (by decide)
      have h56 : fr.tmps.getD 56 undef = .bool false := hin 56 (by decide) (by decide)
      exact op_neB (.tmp 55) (.tmp 56) _ rfl h55 h56 (wanted_none rfl) rfl
    · intro w2 hb2 fr hout hin
      have h57 : fr.tmps.getD 57 undef = .bool false := hin 57 (by decide) (by decide)
      exact relStep_move (.tmp 57) rfl (wanted_none rfl) h57
    · intro w2 hb2 fr hout hin
      have h58 : fr.tmps.getD 58 undef = .bool false := hin 58 (by decide) (by decide)
      have h8 : fr.tmps.getD 8 undef = .bool false := hout 8 (by decide)
      exact relStep_move (.tmp 8) rfl (wanted_some (g := 3) (t := 58) (b := false) rfl rfl h58) h8
    · intro w2 hb2 fr hout hin
      have h58 : fr.tmps.getD 58 undef = .bool false := hin 58 (by decide) (by decide)
      have h59 : fr.tmps.getD 59 undef = .bool false := hin 59 (by decide) (by decide)
      exact relStep_move (.tmp 59) rfl (wanted_some (g := 3) (t := 58) (b := false) rfl rfl h58) h59
    · intro w2 hb2 fr hout hin
      have h60 : fr.tmps.getD 60 undef = .bool false := hin 60 (by decide) (by decide)
      exact relStep_skip (wanted_not rfl rfl h60 rfl) trivial
    · intro w2 hb2 fr hout hin
      have h60 : fr.tmps.getD 60 undef = .bool false := hin 60 (by decide) (by decide)
      exact relStep_skip (wanted_not rfl rfl h60 rfl) trivial
    · intro w2 hb2 fr hout hin
      have h60 : fr.tmps.getD 60 undef = .bool false := hin 60 (by decide) (by decide)
      exact relStep_skip (wanted_not rfl rfl h60 rfl) trivial
    · intro w2 hb2 fr hout hin
      have h60 : fr.tmps.getD 60 undef = .bool false := hin 60 (by decide) (by decide)
      exact relStep_skip (wanted_not rfl rfl h60 rfl) trivial
    · intro w2 hb2 fr hout hin
      have h60 : fr.tmps.getD 60 undef = .bool false := hin 60 (by decide) (by decide)
      exact relStep_skip (wanted_not rfl rfl h60 rfl) trivial
    · intro w2 hb2 fr hout hin
      have h60 : fr.tmps.getD 60 undef = .bool false := hin 60 (by decide) (by decide)
      exact relStep_skip (wanted_not rfl rfl h60 rfl) trivial
    · intro w2 hb2 fr hout hin
      have h60 : fr.tmps.getD 60 undef = .bool false := hin 60 (by decide) (by decide)
      exact relStep_skip (wanted_not rfl rfl h60 rfl) trivial
    · intro w2 hb2 fr hout hin
      have h60 : fr.tmps.getD 60 undef = .bool false := hin 60 (by decide) (by decide)
      exact relStep_skip (wanted_not rfl rfl h60 rfl) trivial
    · intro w2 hb2 fr hout hin
      have h58 : fr.tmps.getD 58 undef = .bool false := hin 58 (by decide) (by decide)
      have h60 : fr.tmps.getD 60 undef = .bool false := hin 60 (by decide) (by decide)
      exact relStep_pickF (.tmp 60) (.tmp 68) (.const (.bool false)) rfl h60 (wanted_some (g := 3) (t := 58) (b := false) rfl rfl h58) rfl
    · intro w2 hb2 fr hout hin
      have h58 : fr.tmps.getD 58 undef = .bool false := hin 58 (by decide) (by decide)
      have h69 : fr.tmps.getD 69 undef = .bool false := hin 69 (by decide) (by decide)
      exact relStep_pickF (.tmp 58) (.const (.bool true)) (.tmp 69) rfl h58 (wanted_none rfl) h69
    · intro w2 hb2 fr hout hin
      have h70 : fr.tmps.getD 70 undef = .bool false := hin 70 (by decide) (by decide)
      exact relStep_move (.tmp 70) rfl (wanted_none rfl) h70
    · intro w2 hb2 fr hout hin
      have h71 : fr.tmps.getD 71 undef = .bool false := hin 71 (by decide) (by decide)
      have h8 : fr.tmps.getD 8 undef = .bool false := hout 8 (by decide)
      exact relStep_move (.tmp 8) rfl (wanted_some (g := 16) (t := 71) (b := false) rfl rfl h71) h8
    · intro w2 hb2 fr hout hin
      have h71 : fr.tmps.getD 71 undef = .bool false := hin 71 (by decide) (by decide)
      have h72 : fr.tmps.getD 72 undef = .bool false := hin 72 (by decide) (by decide)
      exact op_not (.tmp 72) _ rfl h72 (wanted_some (g := 16) (t := 71) (b := false) rfl rfl h71) rfl
    · intro w2 hb2 fr hout hin
      have h71 : fr.tmps.getD 71 undef = .bool false := hin 71 (by decide) (by decide)
      have h73 : fr.tmps.getD 73 undef = .bool true := hin 73 (by decide) (by decide)
      exact relStep_move (.tmp 73) rfl (wanted_some (g := 16) (t := 71) (b := false) rfl rfl h71) h73
    · intro w2 hb2 fr hout hin
      have h74 : fr.tmps.getD 74 undef = .bool true := hin 74 (by decide) (by decide)
      have h6 : fr.tmps.getD 6 undef = .slice none 0 0 := hout 6 (by decide)
      exact relStep_move (.tmp 6) rfl (wanted_some (g := 19) (t := 74) (b := true) rfl rfl h74) h6
    · intro w2 hb2 fr hout hin
      have h74 : fr.tmps.getD 74 undef = .bool true := hin 74 (by decide) (by decide)
      have h75 : fr.tmps.getD 75 undef = .slice none 0 0 := hin 75 (by decide) (by decide)
      exact op_len (bs := (([] : List Nat))) (.tmp 75) rfl (by show Byt _ (fr.tmps.getD 75 undef) []; rw [h75]; exact Byt.nil _) (wanted_some (g := 19) (t := 74) (b := true) rfl rfl h74) rfl
    · intro w2 hb2 fr hout hin
      have h74 : fr.tmps.getD 74 undef = .bool true := hin 74 (by decide) (by decide)
      have h76 : fr.tmps.getD 76 undef = .int .i64 0 := hin 76 (by decide) (by decide)
      exact op_cmp .neq (.tmp 76) (.const (.int .i64 0)) _ rfl h76 rfl (fun w => by go_simp) (wanted_some (g := 19) (t := 74) (b := true) rfl rfl h74) rfl
    · intro w2 hb2 fr hout hin
      have h71 : fr.tmps.getD 71 undef = .bool false := hin 71 (by decide) (by decide)
      have h74 : fr.tmps.getD 74 undef = .bool true := hin 74 (by decide) (by decide)
      have h77 : fr.tmps.getD 77 undef = .bool false := hin 77 (by decide) (by decide)
      exact relStep_pick (.tmp 74) (.tmp 77) (.const (.bool false)) rfl h74 (wanted_some (g := 16) (t := 71) (b := false) rfl rfl h71) h77
    · intro w2 hb2 fr hout hin
      have h71 : fr.tmps.getD 71 undef = .bool false := hin 71 (by decide) (by decide)
      have h78 : fr.tmps.getD 78 undef = .bool false := hin 78 (by decide) (by decide)
      exact relStep_pickF (.tmp 71) (.const (.bool true)) (.tmp 78) rfl h71 (wanted_none rfl) h78
  intro w6 hb6
  refine relAsk_in (by rfl) ?_
  intro v55 h55
  obtain rfl : v55 = .bool false := h55
  refine relAsk_in (by rfl) ?_
  intro v56 h56
  obtain rfl : v56 = .bool false := h56
  refine relAsk_in (by rfl) ?_
  intro v57 h57
  obtain rfl : v57 = .bool false := h57
  refine relAsk_in (by rfl) ?_
  intro v58 h58
  obtain rfl : v58 = .bool false := h58
  refine relAsk_in (by rfl) ?_
  intro v59 h59
  obtain rfl : v59 = .bool false := h59
  refine relAsk_in (by rfl) ?_
  intro v60 h60
  obtain rfl : v60 = .bool false := h60
  refine relAsk_in (by rfl) ?_
  intro v61 h61
  clear h61
  refine relAsk_in (by rfl) ?_
  intro v62 h62
  clear h62
  refine relAsk_in (by rfl) ?_
  intro v63 h63
  clear h63
  refine relAsk_in (by rfl) ?_
  intro v64 h64
  clear h64
  refine relAsk_in (by rfl) ?_
  intro v65 h65
  clear h65
  refine relAsk_in (by rfl) ?_
  intro v66 h66
  clear h66
  refine relAsk_in (by rfl) ?_
  intro v67 h67
  clear h67
  refine relAsk_in (by rfl) ?_
  intro v68 h68
  clear h68
  refine relAsk_in (by rfl) ?_
  intro v69 h69
  obtain rfl : v69 = .bool false := h69
  refine relAsk_in (by rfl) ?_
  intro v70 h70
  obtain rfl : v70 = .bool false := h70
  refine relAsk_in (by rfl) ?_
  intro v71 h71
  obtain rfl : v71 = .bool false := h71
  refine relAsk_in (by rfl) ?_
  intro v72 h72
  obtain rfl : v72 = .bool false := h72
  refine relAsk_in (by rfl) ?_
  intro v73 h73
  obtain rfl : v73 = .bool true := h73
  refine relAsk_in (by rfl) ?_
  intro v74 h74
  obtain rfl : v74 = .bool true := h74
  refine relAsk_in (by rfl) ?_
  intro v75 h75
  obtain rfl : v75 = .slice none 0 0 := h75
  refine relAsk_in (by rfl) ?_
  intro v76 h76
  obtain rfl : v76 = .int .i64 0 := h76
  refine relAsk_in (by rfl) ?_
  intro v77 h77
  obtain rfl : v77 = .bool false := h77
  refine relAsk_in (by rfl) ?_
  intro v78 h78
  obtain rfl : v78 = .bool false := h78
  refine relAsk_in (by rfl) ?_
  intro v79 h79
  obtain rfl : v79 = .bool false := h79
  refine relAsk_nil ?_
  have RA := Lib.hid (RA.out.below hb6)
  have RB := Lib.hid (RB.out.below hb6)
  have RM := Lib.hid (RM.out.below hb6)
  have HX := Lib.hid (HX.out.below hb6)
  have HW := Lib.hid (HW.out.trans (hb6.mono HW.out.size))
  have H3 := Lib.hid (H3.out.below hb6)
  have H4 := Lib.hid (H4.out.below hb6)
  clear hb6
  refine wpList_nil ?_
  go_simp
  go_upto_region 10 with (fail)
  refine wp_region_see 45 [80, 81, 82, 83, 84, 85, 86, 87, 88, 89, 90, 91, 92, 93, 94, 95, 96, 97, 98, 99, 100, 101, 102, 103, 104, 105, 106, 107, 108, 109, 110, 111, 112, 113, 114, 115, 116, 117, 118, 119, 120, 121, 122, 123, 2] [(80, .is (.pointer (some ⟨w.heap.size, 0, none⟩))), (81, .byt (xs)), (82, .byt (p)), (83, .byt (nb (nv p))), (84, .is (.string (sOf (nb (nv p))))), (85, .num (nv p) 4096), (86, .byt (nb (nv p))), (87, .is (.string (sOf (nb (nv p))))), (88, .is (.bool true)), (89, .is (.bool true)), (90, .is (.pointer (some ⟨w.heap.size, 0, none⟩))), (91, .byt (xs)), (92, .byt (p)), (93, .is (.pointer (some ⟨w.heap.size, 1, none⟩))), (94, .byt (ys)), (95, .byt (q)), (96, .is (.int .i64 (ordI (nv p) (nv q)))), (97, .num (nv p) 4096), (98, .num (nv q) 4096), (99, .is (.int .i64 (ordI (nv p) (nv q)))), (100, .is (.bool true)), (101, .is (.bool true)), (102, .is (.bool true)), (103, .is (.pointer (some ⟨w.heap.size, 0, none⟩))), (104, .byt (xs)), (105, .byt (p)), (106, .is (.int .i64 ((blen (nv p) : Nat) : Int))), (107, .num (nv p) 4096), (108, .is (.int .i64 ((blen (nv p) : Nat) : Int))), (109, .is (.bool true)), (110, .is (.bool true)), (111, .is (.bool true)), (112, .is (.pointer (some ⟨w.heap.size, 0, none⟩))), (113, .byt (xs)), (114, .byt (p)), (115, .is (.pointer (some ⟨w.heap.size, 3, none⟩))), (116, .is (.int .i64 (j : Nat))), (117, .is (.int .i64 0)), (118, .is (.int .i64 0)), (119, .is (.bool true)), (120, .is (.bool true)), (121, .is (.bool true)), (122, .is (.bool true)), (123, .is (.bool true)), (2, .is (.bool true))] (by kernel_rfl) (by kernel_rfl) (by rfl) ?_ ?_
  · refine seeOps_cons ?_ (seeOps_cons ?_ (seeOps_cons ?_ (seeOps_cons ?_ (seeOps_cons ?_ (seeOps_cons ?_ (seeOps_cons ?_ (seeOps_cons ?_ (seeOps_cons ?_ (seeOps_cons ?_ (seeOps_cons ?_ (seeOps_cons ?_ (seeOps_cons ?_ (seeOps_cons ?_ (seeOps_cons ?_ (seeOps_cons ?_ (seeOps_cons ?_ (seeOps_cons ?_ (seeOps_cons ?_ (seeOps_cons ?_ (seeOps_cons ?_ (seeOps_cons ?_ (seeOps_cons ?_ (seeOps_cons ?_ (seeOps_cons ?_ (seeOps_cons ?_ (seeOps_cons ?_ (seeOps_cons ?_ (seeOps_cons ?_ (seeOps_cons ?_ (seeOps_cons ?_ (seeOps_cons ?_ (seeOps_cons ?_ (seeOps_cons ?_ (seeOps_cons ?_ (seeOps_cons ?_ (seeOps_cons ?_ (seeOps_cons ?_ (seeOps_cons ?_ (seeOps_cons ?_ (seeOps_cons ?_ (seeOps_cons ?_ (seeOps_cons ?_ (seeOps_cons ?_ (seeOps_cons ?_ seeOps_nil))))))))))))))))))))))))))))))))))))))))))))
    · intro w2 hb2 fr hout hin
      have h1 : fr.tmps.getD 1 undef = .pointer (some ⟨w.heap.size, 0, none⟩) := hout 1 (by decide)
      exact op_fieldN (.tmp 1) rfl (by decide) h1 (wanted_none rfl) rfl
    · intro w2 hb2 fr hout hin
      have h80 : fr.tmps.getD 80 undef = .pointer (some ⟨w.heap.size, 0, none⟩) := hin 80 (by decide) (by decide)
      exact op_load1 (.tmp 80) rfl (fun _ => by kernel_rfl) h80 ((HX.out.below hb2).c0) (wanted_none rfl) (RA.out.below hb2)
    · intro w2 hb2 fr hout hin
      have h81 : Byt w2 (fr.tmps.getD 81 undef) (xs) := hin 81 (by decide) (by decide)
      exact op_call1 (.tmp 81) rfl en_few (wanted_none rfl) (FFp.out _ h81) (fun _ _ h => h)
    · intro w2 hb2 fr hout hin
      have h82 : Byt w2 (fr.tmps.getD 82 undef) (p) := hin 82 (by decide) (by decide)
      exact op_call1 (.tmp 82) rfl en_trim (wanted_none rfl) (trim_v _ h82 (by have := HLp.out; omega)) (fun _ _ h => h)
    · intro w2 hb2 fr hout hin
      have h83 : Byt w2 (fr.tmps.getD 83 undef) (nb (nv p)) := hin 83 (by decide) (by decide)
      exact op_str (.tmp 83) rfl h83 (wanted_none rfl) rfl
    · intro w2 hb2 fr hout hin
      have h3 : Num w2 (fr.tmps.getD 3 undef) (nv p) 4096 := by
        have e : fr.tmps.getD 3 undef = v3 := hout 3 (by decide)
        rw [e]; exact H3.out.below hb2
      exact relStep_move (.tmp 3) rfl (wanted_none rfl) h3
    · intro w2 hb2 fr hout hin
      have h85 : Num w2 (fr.tmps.getD 85 undef) (nv p) 4096 := hin 85 (by decide) (by decide)
      exact op_call1 (.tmp 85) rfl en_bytes2 (wanted_none rfl) (bytes2_v _ h85 (by decide)) (fun _ _ h => h)
    · intro w2 hb2 fr hout hin
      have h86 : Byt w2 (fr.tmps.getD 86 undef) (nb (nv p)) := hin 86 (by decide) (by decide)
      exact op_str (.tmp 86) rfl h86 (wanted_none rfl) rfl
    · intro w2 hb2 fr hout hin
      have h84 : fr.tmps.getD 84 undef = .string (sOf (nb (nv p))) := hin 84 (by decide) (by decide)
      have h87 : fr.tmps.getD 87 undef = .string (sOf (nb (nv p))) := hin 87 (by decide) (by decide)
      exact op_eqS (.tmp 84) (.tmp 87) _ rfl h84 h87 (wanted_none rfl) rfl
    · intro w2 hb2 fr hout hin
      have h88 : fr.tmps.getD 88 undef = .bool true := hin 88 (by decide) (by decide)
      exact relStep_move (.tmp 88) rfl (wanted_none rfl) h88
    · intro w2 hb2 fr hout hin
      have h89 : fr.tmps.getD 89 undef = .bool true := hin 89 (by decide) (by decide)
      have h1 : fr.tmps.getD 1 undef = .pointer (some ⟨w.heap.size, 0, none⟩) := hout 1 (by decide)
      exact op_fieldN (.tmp 1) rfl (by decide) h1 (wanted_some (g := 9) (t := 89) (b := true) rfl rfl h89) rfl
    · intro w2 hb2 fr hout hin
      have h89 : fr.tmps.getD 89 undef = .bool true := hin 89 (by decide) (by decide)
      have h90 : fr.tmps.getD 90 undef = .pointer (some ⟨w.heap.size, 0, none⟩) := hin 90 (by decide) (by decide)
      exact op_load1 (.tmp 90) rfl (fun _ => by kernel_rfl) h90 ((HX.out.below hb2).c0) (wanted_some (g := 9) (t := 89) (b := true) rfl rfl h89) (RA.out.below hb2)
    · intro w2 hb2 fr hout hin
      have h89 : fr.tmps.getD 89 undef = .bool true := hin 89 (by decide) (by decide)
      have h91 : Byt w2 (fr.tmps.getD 91 undef) (xs) := hin 91 (by decide) (by decide)
      exact op_call1 (.tmp 91) rfl en_few (wanted_some (g := 9) (t := 89) (b := true) rfl rfl h89) (FFp.out _ h91) (fun _ _ h => h)
    · intro w2 hb2 fr hout hin
      have h89 : fr.tmps.getD 89 undef = .bool true := hin 89 (by decide) (by decide)
      have h1 : fr.tmps.getD 1 undef = .pointer (some ⟨w.heap.size, 0, none⟩) := hout 1 (by decide)
      exact op_fieldN (.tmp 1) rfl (by decide) h1 (wanted_some (g := 9) (t := 89) (b := true) rfl rfl h89) rfl
    · intro w2 hb2 fr hout hin
      have h89 : fr.tmps.getD 89 undef = .bool true := hin 89 (by decide) (by decide)
      have h93 : fr.tmps.getD 93 undef = .pointer (some ⟨w.heap.size, 1, none⟩) := hin 93 (by decide) (by decide)
      exact op_load1 (.tmp 93) rfl (fun _ => by kernel_rfl) h93 ((HX.out.below hb2).c1) (wanted_some (g := 9) (t := 89) (b := true) rfl rfl h89) (RB.out.below hb2)
    · intro w2 hb2 fr hout hin
      have h89 : fr.tmps.getD 89 undef = .bool true := hin 89 (by decide) (by decide)
      have h94 : Byt w2 (fr.tmps.getD 94 undef) (ys) := hin 94 (by decide) (by decide)
      exact op_call1 (.tmp 94) rfl en_few (wanted_some (g := 9) (t := 89) (b := true) rfl rfl h89) (FFq.out _ h94) (fun _ _ h => h)
    · intro w2 hb2 fr hout hin
      have h89 : fr.tmps.getD 89 undef = .bool true := hin 89 (by decide) (by decide)
      have h92 : Byt w2 (fr.tmps.getD 92 undef) (p) := hin 92 (by decide) (by decide)
      have h95 : Byt w2 (fr.tmps.getD 95 undef) (q) := hin 95 (by decide) (by decide)
      exact op_call2 (.tmp 92) (.tmp 95) rfl en_cmp (wanted_some (g := 9) (t := 89) (b := true) rfl rfl h89) (cmp_v _ h92 h95 (by have := HLp.out; omega) (by have := HLq.out; omega)) (fun _ _ h => h)
    · intro w2 hb2 fr hout hin
      have h89 : fr.tmps.getD 89 undef = .bool true := hin 89 (by decide) (by decide)
      have h3 : Num w2 (fr.tmps.getD 3 undef) (nv p) 4096 := by
        have e : fr.tmps.getD 3 undef = v3 := hout 3 (by decide)
        rw [e]; exact H3.out.below hb2
      exact relStep_move (.tmp 3) rfl (wanted_some (g := 9) (t := 89) (b := true) rfl rfl h89) h3
    · intro w2 hb2 fr hout hin
      have h89 : fr.tmps.getD 89 undef = .bool true := hin 89 (by decide) (by decide)
      have h4 : Num w2 (fr.tmps.getD 4 undef) (nv q) 4096 := by
        have e : fr.tmps.getD 4 undef = v4 := hout 4 (by decide)
        rw [e]; exact H4.out.below hb2
      exact relStep_move (.tmp 4) rfl (wanted_some (g := 9) (t := 89) (b := true) rfl rfl h89) h4
    · intro w2 hb2 fr hout hin
      have h89 : fr.tmps.getD 89 undef = .bool true := hin 89 (by decide) (by decide)
      have h97 : Num w2 (fr.tmps.getD 97 undef) (nv p) 4096 := hin 97 (by decide) (by decide)
      have h98 : Num w2 (fr.tmps.getD 98 undef) (nv q) 4096 := hin 98 (by decide) (by decide)
      exact op_call2 (.tmp 97) (.tmp 98) rfl en_cmp2 (wanted_some (g := 9) (t := 89) (b := true) rfl rfl h89) (cmp2_v _ h97 h98 (by decide)) (fun _ _ h => h)
    · intro w2 hb2 fr hout hin
      have h89 : fr.tmps.getD 89 undef = .bool true := hin 89 (by decide) (by decide)
      have h96 : fr.tmps.getD 96 undef = .int .i64 (ordI (nv p) (nv q)) := hin 96 (by decide) (by decide)
      have h99 : fr.tmps.getD 99 undef = .int .i64 (ordI (nv p) (nv q)) := hin 99 (by decide) (by decide)
      exact op_eqI (.tmp 96) (.tmp 99) _ rfl h96 h99 (wanted_some (g := 9) (t := 89) (b := true) rfl rfl h89) rfl
    · intro w2 hb2 fr hout hin
      have h89 : fr.tmps.getD 89 undef = .bool true := hin 89 (by decide) (by decide)
      have h100 : fr.tmps.getD 100 undef = .bool true := hin 100 (by decide) (by decide)
      exact relStep_pick (.tmp 89) (.tmp 100) (.const (.bool false)) rfl h89 (wanted_none rfl) h100
    · intro w2 hb2 fr hout hin
      have h101 : fr.tmps.getD 101 undef = .bool true := hin 101 (by decide) (by decide)
      exact relStep_move (.tmp 101) rfl (wanted_none rfl) h101
    · intro w2 hb2 fr hout hin
      have h102 : fr.tmps.getD 102 undef = .bool true := hin 102 (by decide) (by decide)
      have h1 : fr.tmps.getD 1 undef = .pointer (some ⟨w.heap.size, 0, none⟩) := hout 1 (by decide)
      exact op_fieldN (.tmp 1) rfl (by decide) h1 (wanted_some (g := 22) (t := 102) (b := true) rfl rfl h102) rfl
    · intro w2 hb2 fr hout hin
      have h102 : fr.tmps.getD 102 undef = .bool true := hin 102 (by decide) (by decide)
      have h103 : fr.tmps.getD 103 undef = .pointer (some ⟨w.heap.size, 0, none⟩) := hin 103 (by decide) (by decide)
      exact op_load1 (.tmp 103) rfl (fun _ => by kernel_rfl) h103 ((HX.out.below hb2).c0) (wanted_some (g := 22) (t := 102) (b := true) rfl rfl h102) (RA.out.below hb2)
    · intro w2 hb2 fr hout hin
      have h102 : fr.tmps.getD 102 undef = .bool true := hin 102 (by decide) (by decide)
      have h104 : Byt w2 (fr.tmps.getD 104 undef) (xs) := hin 104 (by decide) (by decide)
      exact op_call1 (.tmp 104) rfl en_few (wanted_some (g := 22) (t := 102) (b := true) rfl rfl h102) (FFp.out _ h104) (fun _ _ h => h)
    · intro w2 hb2 fr hout hin
      have h102 : fr.tmps.getD 102 undef = .bool true := hin 102 (by decide) (by decide)
      have h105 : Byt w2 (fr.tmps.getD 105 undef) (p) := hin 105 (by decide) (by decide)
      exact op_call1 (.tmp 105) rfl en_bits (wanted_some (g := 22) (t := 102) (b := true) rfl rfl h102) (bits_v _ h105 (by have := HLp.out; omega)) (fun _ _ h => h)
    · intro w2 hb2 fr hout hin
      have h102 : fr.tmps.getD 102 undef = .bool true := hin 102 (by decide) (by decide)
      have h3 : Num w2 (fr.tmps.getD 3 undef) (nv p) 4096 := by
        have e : fr.tmps.getD 3 undef = v3 := hout 3 (by decide)
        rw [e]; exact H3.out.below hb2
      exact relStep_move (.tmp 3) rfl (wanted_some (g := 22) (t := 102) (b := true) rfl rfl h102) h3
    · intro w2 hb2 fr hout hin
      have h102 : fr.tmps.getD 102 undef = .bool true := hin 102 (by decide) (by decide)
      have h107 : Num w2 (fr.tmps.getD 107 undef) (nv p) 4096 := hin 107 (by decide) (by decide)
      exact op_call1 (.tmp 107) rfl en_len2 (wanted_some (g := 22) (t := 102) (b := true) rfl rfl h102) (len2_v _ h107 (by decide)) (fun _ _ h => h)
    · intro w2 hb2 fr hout hin
      have h102 : fr.tmps.getD 102 undef = .bool true := hin 102 (by decide) (by decide)
      have h106 : fr.tmps.getD 106 undef = .int .i64 ((blen (nv p) : Nat) : Int) := hin 106 (by decide) (by decide)
      have h108 : fr.tmps.getD 108 undef = .int .i64 ((blen (nv p) : Nat) : Int) := hin 108 (by decide) (by decide)
      exact op_eqI (.tmp 106) (.tmp 108) _ rfl h106 h108 (wanted_some (g := 22) (t := 102) (b := true) rfl rfl h102) rfl
    · intro w2 hb2 fr hout hin
      have h102 : fr.tmps.getD 102 undef = .bool true := hin 102 (by decide) (by decide)
      have h109 : fr.tmps.getD 109 undef = .bool true := hin 109 (by decide) (by decide)
      exact relStep_pick (.tmp 102) (.tmp 109) (.const (.bool false)) rfl h102 (wanted_none rfl) h109
    · intro w2 hb2 fr hout hin
      have h110 : fr.tmps.getD 110 undef = .bool true := hin 110 (by decide) (by decide)
      exact relStep_move (.tmp 110) rfl (wanted_none rfl) h110
    · intro w2 hb2 fr hout hin
      have h111 : fr.tmps.getD 111 undef = .bool true := hin 111 (by decide) (by decide)
      have h1 : fr.tmps.getD 1 undef = .pointer (some ⟨w.heap.size, 0, none⟩) := hout 1 (by decide)
      exact op_fieldN (.tmp 1) rfl (by decide) h1 (wanted_some (g := 31) (t := 111) (b := true) rfl rfl h111) rfl
    · intro w2 hb2 fr hout hin
      have h111 : fr.tmps.getD 111 undef = .bool true := hin 111 (by decide) (by decide)
      have h112 : fr.tmps.getD 112 undef = .pointer (some ⟨w.heap.size, 0, none⟩) := hin 112 (by decide) (by decide)
      exact op_load1 (.tmp 112) rfl (fun _ => by kernel_rfl) h112 ((HX.out.below hb2).c0) (wanted_some (g := 31) (t := 111) (b := true) rfl rfl h111) (RA.out.below hb2)
    · intro w2 hb2 fr hout hin
      have h111 : fr.tmps.getD 111 undef = .bool true := hin 111 (by decide) (by decide)
      have h113 : Byt w2 (fr.tmps.getD 113 undef) (xs) := hin 113 (by decide) (by decide)
      exact op_call1 (.tmp 113) rfl en_few (wanted_some (g := 31) (t := 111) (b := true) rfl rfl h111) (FFp.out _ h113) (fun _ _ h => h)
    · intro w2 hb2 fr hout hin
      have h111 : fr.tmps.getD 111 undef = .bool true := hin 111 (by decide) (by decide)
      have h1 : fr.tmps.getD 1 undef = .pointer (some ⟨w.heap.size, 0, none⟩) := hout 1 (by decide)
      exact op_fieldN (.tmp 1) rfl (by decide) h1 (wanted_some (g := 31) (t := 111) (b := true) rfl rfl h111) rfl
    · intro w2 hb2 fr hout hin
      have h111 : fr.tmps.getD 111 undef = .bool true := hin 111 (by decide) (by decide)
      have h115 : fr.tmps.getD 115 undef = .pointer (some ⟨w.heap.size, 3, none⟩) := hin 115 (by decide) (by decide)
      exact op_load1 (.tmp 115) rfl (fun _ => by kernel_rfl) h115 ((HX.out.below hb2).c3) (wanted_some (g := 31) (t := 111) (b := true) rfl rfl h111) (rfl)
    · intro w2 hb2 fr hout hin
      have h111 : fr.tmps.getD 111 undef = .bool true := hin 111 (by decide) (by decide)
      have h114 : Byt w2 (fr.tmps.getD 114 undef) (p) := hin 114 (by decide) (by decide)
      have h116 : fr.tmps.getD 116 undef = .int .i64 (j : Nat) := hin 116 (by decide) (by decide)
      exact op_call2 (.tmp 114) (.tmp 116) rfl en_bit (wanted_some (g := 31) (t := 111) (b := true) rfl rfl h111) (by
        show Calls _ _ #[fr.tmps.getD 114 undef, fr.tmps.getD 116 undef] _ _
        rw [h116]; exact (bitf_v _ h114 HLp.out j HJ.out HJ8.out)) (fun _ _ h => h)
    · intro w2 hb2 fr hout hin
      have h111 : fr.tmps.getD 111 undef = .bool true := hin 111 (by decide) (by decide)
      have h5 : fr.tmps.getD 5 undef = .int .i64 0 := hout 5 (by decide)
      exact relStep_move (.tmp 5) rfl (wanted_some (g := 31) (t := 111) (b := true) rfl rfl h111) h5
    · intro w2 hb2 fr hout hin
      have h111 : fr.tmps.getD 111 undef = .bool true := hin 111 (by decide) (by decide)
      have h117 : fr.tmps.getD 117 undef = .int .i64 0 := hin 117 (by decide) (by decide)
      have h118 : fr.tmps.getD 118 undef = .int .i64 0 := hin 118 (by decide) (by decide)
      exact op_eqI (.tmp 117) (.tmp 118) _ rfl h117 h118 (wanted_some (g := 31) (t := 111) (b := true) rfl rfl h111) rfl
    · intro w2 hb2 fr hout hin
      have h111 : fr.tmps.getD 111 undef = .bool true := hin 111 (by decide) (by decide)
      have h119 : fr.tmps.getD 119 undef = .bool true := hin 119 (by decide) (by decide)
      exact relStep_pick (.tmp 111) (.tmp 119) (.const (.bool false)) rfl h111 (wanted_none rfl) h119
    · intro w2 hb2 fr hout hin
      have h120 : fr.tmps.getD 120 undef = .bool true := hin 120 (by decide) (by decide)
      exact relStep_move (.tmp 120) rfl (wanted_none rfl) h120
    · intro w2 hb2 fr hout hin
      have h121 : fr.tmps.getD 121 undef = .bool true := hin 121 (by decide) (by decide)
      exact op_call0 rfl en_wakes (wanted_some (g := 41) (t := 121) (b := true) rfl rfl h121) (nwakes_v _) (fun _ _ h => h)
    · intro w2 hb2 fr hout hin
      have h121 : fr.tmps.getD 121 undef = .bool true := hin 121 (by decide) (by decide)
      have h122 : fr.tmps.getD 122 undef = .bool true := hin 122 (by decide) (by decide)
      exact relStep_pick (.tmp 121) (.tmp 122) (.const (.bool false)) rfl h121 (wanted_none rfl) h122
    · intro w2 hb2 fr hout hin
      have h123 : fr.tmps.getD 123 undef = .bool true := hin 123 (by decide) (by decide)
      exact relStep_assign (.tmp 123) rfl (wanted_none rfl) h123
  intro w7 hb7
  refine relAsk_in (by rfl) ?_
  intro v80 h80
  obtain rfl : v80 = .pointer (some ⟨w.heap.size, 0, none⟩) := h80
  refine relAsk_in (by rfl) ?_
  intro v81 h81
  refine relAsk_in (by rfl) ?_
  intro v82 h82
  refine relAsk_in (by rfl) ?_
  intro v83 h83
  refine relAsk_in (by rfl) ?_
  intro v84 h84
  obtain rfl : v84 = .string (sOf (nb (nv p))) := h84
  refine relAsk_in (by rfl) ?_
  intro v85 h85
  refine relAsk_in (by rfl) ?_
  intro v86 h86
  refine relAsk_in (by rfl) ?_
  intro v87 h87
  obtain rfl : v87 = .string (sOf (nb (nv p))) := h87
  refine relAsk_in (by rfl) ?_
  intro v88 h88
  obtain rfl : v88 = .bool true := h88
  refine relAsk_in (by rfl) ?_
  intro v89 h89
  obtain rfl : v89 = .bool true := h89
  refine relAsk_in (by rfl) ?_
  intro v90 h90
  obtain rfl : v90 = .pointer (some ⟨w.heap.size, 0, none⟩) := h90
  refine relAsk_in (by rfl) ?_
  intro v91 h91
  refine relAsk_in (by rfl) ?_
  intro v92 h92
  refine relAsk_in (by rfl) ?_
  intro v93 h93
  obtain rfl : v93 = .pointer (some ⟨w.heap.size, 1, none⟩) := h93
  refine relAsk_in (by rfl) ?_
  intro v94 h94
  refine relAsk_in (by rfl) ?_
  intro v95 h95
  refine relAsk_in (by rfl) ?_
  intro v96 h96
  obtain rfl : v96 = .int .i64 (ordI (nv p) (nv q)) := h96
  refine relAsk_in (by rfl) ?_
  intro v97 h97
  refine relAsk_in (by rfl) ?_
  intro v98 h98
  refine relAsk_in (by rfl) ?_
  intro v99 h99
  obtain rfl : v99 = .int .i64 (ordI (nv p) (nv q)) := h99
  refine relAsk_in (by rfl) ?_
  intro v100 h100
  obtain rfl : v100 = .bool true := h100
  refine relAsk_in (by rfl) ?_
  intro v101 h101
  obtain rfl : v101 = .bool true := h101
  refine relAsk_in (by rfl) ?_
  intro v102 h102
  obtain rfl : v102 = .bool true := h102
  refine relAsk_in (by rfl) ?_
  intro v103 h103
  obtain rfl : v103 = .pointer (some ⟨w.heap.size, 0, none⟩) := h103
  refine relAsk_in (by rfl) ?_
  intro v104 h104
  refine relAsk_in (by rfl) ?_
  intro v105 h105
  refine relAsk_in (by rfl) ?_
  intro v106 h106
  obtain rfl : v106 = .int .i64 ((blen (nv p) : Nat) : Int) := h106
  refine relAsk_in (by rfl) ?_
  intro v107 h107
  refine relAsk_in (by rfl) ?_
  intro v108 h108
  obtain rfl : v108 = .int .i64 ((blen (nv p) : Nat) : Int) := h108
  refine relAsk_in (by rfl) ?_
  intro v109 h109
  obtain rfl : v109 = .bool true := h109
  refine relAsk_in (by rfl) ?_
  intro v110 h110
  obtain rfl : v110 = .bool true := h110
  refine relAsk_in (by rfl) ?_
  intro v111 h111
  obtain rfl : v111 = .bool true := h111
  refine relAsk_in (by rfl) ?_
  intro v112 h112
  obtain rfl : v112 = .pointer (some ⟨w.heap.size, 0, none⟩) := h112
  refine relAsk_in (by rfl) ?_
  intro v113 h113
  refine relAsk_in (by rfl) ?_
  intro v114 h114
  refine relAsk_in (by rfl) ?_
  intro v115 h115
  obtain rfl : v115 = .pointer (some ⟨w.heap.size, 3, none⟩) := h115
  refine relAsk_in (by rfl) ?_
  intro v116 h116
  obtain rfl : v116 = .int .i64 (j : Nat) := h116
  refine relAsk_in (by rfl) ?_
  intro v117 h117
  obtain rfl : v117 = .int .i64 0 := h117
  refine relAsk_in (by rfl) ?_
  intro v118 h118
  obtain rfl : v118 = .int .i64 0 := h118
  refine relAsk_in (by rfl) ?_
  intro v119 h119
  obtain rfl : v119 = .bool true := h119
  refine relAsk_in (by rfl) ?_
  intro v120 h120
  obtain rfl : v120 = .bool true := h120
  refine relAsk_in (by rfl) ?_
  intro v121 h121
  obtain rfl : v121 = .bool true := h121
  refine relAsk_in (by rfl) ?_
  intro v122 h122
  obtain rfl : v122 = .bool true := h122
  refine relAsk_in (by rfl) ?_
  intro v123 h123
  obtain rfl : v123 = .bool true := h123
  refine relAsk_in (by rfl) ?_
  intro v2 h2
  obtain rfl : v2 = .bool true := h2
  refine relAsk_nil ?_
  have RA := Lib.hid (RA.out.below hb7)
  have RB := Lib.hid (RB.out.below hb7)
  have RM := Lib.hid (RM.out.below hb7)
  have HX := Lib.hid (HX.out.below hb7)
  have HW := Lib.hid (HW.out.trans (hb7.mono HW.out.size))
  have H3 := Lib.hid (H3.out.below hb7)
  have H4 := Lib.hid (H4.out.below hb7)
  clear h81 h82 h83 h85 h86 h91 h92 h94 h95 h97 h98 h104 h105 h107 h113 h114 hb7
  refine wpList_nil ?_
  go_simp
  go_wp2_with fail
  go_ret
  exact ⟨rfl, HW.out⟩

end Go.Proofs.Ytkalmmpgcgempaa
