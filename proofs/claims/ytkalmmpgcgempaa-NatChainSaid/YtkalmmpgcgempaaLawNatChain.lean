/- The law NatChain, by the contracts of its callees. -/
import Derived.Test.YtkalmmpgcgempaaNFrame
namespace Go.Proofs.Ytkalmmpgcgempaa
open Go.RowKit

set_option maxRecDepth 100000 in
set_option maxHeartbeats 12800000 in
theorem chain_pos {A B M : Option Addr} {ca cb cm : Nat} {i wide : Int} {xs ys zs : List Nat} (w : World) (hA : Rd .u8 w A ca xs) (dA : Ds 256 xs) (hB : Rd .u8 w B cb ys) (dB : Ds 256 ys) (hM : Rd .u8 w M cm zs) (dM : Ds 256 zs) {e f : Nat} (he : e < 18446744073709551616) (hf : f < 18446744073709551616) (h0 : 0 < nv (zs.take 40)) :
    Calls Try.prog 16 #[.agg #[.slice A xs.length ca, .slice B ys.length cb, .slice M zs.length cm, .int .i64 i, .int .i64 wide], .int .u64 (e : Nat), .int .u64 (f : Nat)] w (RetV (.bool true) w) := by
  have ltp : nv (xs.take 40) < 256 ^ 40 := nv_take dA 40
  have ltq : nv (ys.take 40) < 256 ^ 40 := nv_take dB 40
  have ltr : nv (zs.take 40) < 256 ^ 40 := nv_take dM 40
  obtain ⟨p, hp⟩ : ∃ zz, zz = xs.take 40 := ⟨_, rfl⟩
  have hlp : p.length ≤ 40 := by rw [hp, List.length_take]; omega
  have ttp : ∀ (w : World) {u : Value}, Byt w u xs → Calls Try.prog 19 #[u, .int .i64 40] w (RetR (fun w' v => Byt w' v p) w) := fun w u h => by rw [hp]; exact twin_v w h 40 (by decide) (by decide)
  have TTp40 := Lib.hid ttp
  have HLp := Lib.hid hlp
  have Hp := Lib.hid hp
  clear hlp ttp hp
  obtain ⟨q, hq⟩ : ∃ zz, zz = ys.take 40 := ⟨_, rfl⟩
  have hlq : q.length ≤ 40 := by rw [hq, List.length_take]; omega
  have ttq : ∀ (w : World) {u : Value}, Byt w u ys → Calls Try.prog 19 #[u, .int .i64 40] w (RetR (fun w' v => Byt w' v q) w) := fun w u h => by rw [hq]; exact twin_v w h 40 (by decide) (by decide)
  have TTq40 := Lib.hid ttq
  have HLq := Lib.hid hlq
  have Hq := Lib.hid hq
  clear hlq ttq hq
  obtain ⟨r, hr⟩ : ∃ zz, zz = zs.take 40 := ⟨_, rfl⟩
  have hlr : r.length ≤ 40 := by rw [hr, List.length_take]; omega
  have ttr : ∀ (w : World) {u : Value}, Byt w u zs → Calls Try.prog 19 #[u, .int .i64 40] w (RetR (fun w' v => Byt w' v r) w) := fun w u h => by rw [hr]; exact twin_v w h 40 (by decide) (by decide)
  have TTr40 := Lib.hid ttr
  have HLr := Lib.hid hlr
  have Hr := Lib.hid hr
  clear hlr ttr hr
  rw [← Hp.out] at ltp
  rw [← Hq.out] at ltq
  rw [← Hr.out] at ltr h0
  have HEe := Lib.hid he
  have HEf := Lib.hid hf
  have lte : e < 256 ^ 8 := he
  have ltf : f < 256 ^ 8 := hf
  obtain ⟨E0, hE0⟩ : ∃ zz, zz = nb (nv r) := ⟨_, rfl⟩
  have nE0 : nv E0 = nv r := by rw [hE0, nv_nb]
  have hlE0 : E0.length ≤ 41 := by rw [hE0]; exact nb_le256 ltr (by decide)
  have HLE0 := Lib.hid hlE0
  obtain ⟨E1, hE1⟩ : ∃ zz, zz = nb (e) := ⟨_, rfl⟩
  have nE1 : nv E1 = e := by rw [hE1, nv_nb]
  have hlE1 : E1.length ≤ 8 := by rw [hE1]; exact nb_le256 lte (by decide)
  have HLE1 := Lib.hid hlE1
  obtain ⟨F1, hF1⟩ : ∃ zz, zz = nb (f) := ⟨_, rfl⟩
  have nF1 : nv F1 = f := by rw [hF1, nv_nb]
  have hlF1 : F1.length ≤ 8 := by rw [hF1]; exact nb_le256 ltf (by decide)
  have HLF1 := Lib.hid hlF1
  obtain ⟨G1, hG1⟩ : ∃ zz, zz = nb (nv p ^ e % nv r) := ⟨_, rfl⟩
  have nG1 : nv G1 = nv p ^ e % nv r := by rw [hG1, nv_nb]
  have hlG1 : G1.length ≤ 40 := by rw [hG1]; exact nb_le256 (Nat.lt_trans (Nat.mod_lt _ h0) ltr) (by decide)
  have HLG1 := Lib.hid hlG1
  obtain ⟨G2, hG2⟩ : ∃ zz, zz = nb (nv p ^ f % nv r) := ⟨_, rfl⟩
  have nG2 : nv G2 = nv p ^ f % nv r := by rw [hG2, nv_nb]
  have hlG2 : G2.length ≤ 40 := by rw [hG2]; exact nb_le256 (Nat.lt_trans (Nat.mod_lt _ h0) ltr) (by decide)
  have HLG2 := Lib.hid hlG2
  obtain ⟨G3, hG3⟩ : ∃ zz, zz = nb (nv p ^ e % nv r * (nv p ^ f % nv r)) := ⟨_, rfl⟩
  have nG3 : nv G3 = nv p ^ e % nv r * (nv p ^ f % nv r) := by rw [hG3, nv_nb]
  have hlG3 : G3.length ≤ 80 := by rw [hG3]; exact nb_le256 (lt_mul256 (Nat.lt_trans (Nat.mod_lt _ h0) ltr) (Nat.lt_trans (Nat.mod_lt _ h0) ltr)) (by decide)
  have HLG3 := Lib.hid hlG3
  obtain ⟨H1, hH1⟩ : ∃ zz, zz = nb (e + f) := ⟨_, rfl⟩
  have nH1 : nv H1 = e + f := by rw [hH1, nv_nb]
  have hlH1 : H1.length ≤ 9 := by rw [hH1]; exact nb_le256 (lt_add256 lte ltf) (by decide)
  have HLH1 := Lib.hid hlH1
  obtain ⟨G5, hG5⟩ : ∃ zz, zz = nb (nv p ^ (e + f) % nv r) := ⟨_, rfl⟩
  have nG5 : nv G5 = nv p ^ (e + f) % nv r := by rw [hG5, nv_nb]
  have hlG5 : G5.length ≤ 40 := by rw [hG5]; exact nb_le256 (Nat.lt_trans (Nat.mod_lt _ h0) ltr) (by decide)
  have HLG5 := Lib.hid hlG5
  obtain ⟨G6, hG6⟩ : ∃ zz, zz = nb (nv q ^ e % nv r) := ⟨_, rfl⟩
  have nG6 : nv G6 = nv q ^ e % nv r := by rw [hG6, nv_nb]
  have hlG6 : G6.length ≤ 40 := by rw [hG6]; exact nb_le256 (Nat.lt_trans (Nat.mod_lt _ h0) ltr) (by decide)
  have HLG6 := Lib.hid hlG6
  obtain ⟨G7, hG7⟩ : ∃ zz, zz = nb (nv p ^ e % nv r * (nv q ^ e % nv r)) := ⟨_, rfl⟩
  have nG7 : nv G7 = nv p ^ e % nv r * (nv q ^ e % nv r) := by rw [hG7, nv_nb]
  have hlG7 : G7.length ≤ 80 := by rw [hG7]; exact nb_le256 (lt_mul256 (Nat.lt_trans (Nat.mod_lt _ h0) ltr) (Nat.lt_trans (Nat.mod_lt _ h0) ltr)) (by decide)
  have HLG7 := Lib.hid hlG7
  obtain ⟨G8, hG8⟩ : ∃ zz, zz = nb ((nv p * nv q) ^ e % nv r) := ⟨_, rfl⟩
  have nG8 : nv G8 = (nv p * nv q) ^ e % nv r := by rw [hG8, nv_nb]
  have hlG8 : G8.length ≤ 40 := by rw [hG8]; exact nb_le256 (Nat.lt_trans (Nat.mod_lt _ h0) ltr) (by decide)
  have HLG8 := Lib.hid hlG8
  obtain ⟨U, hU⟩ : ∃ zz, zz = nb (nv p * nv q) := ⟨_, rfl⟩
  have nU : nv U = nv p * nv q := by rw [hU, nv_nb]
  have hlU : U.length ≤ 80 := by rw [hU]; exact nb_le256 (lt_mul256 ltp ltq) (by decide)
  have HLU := Lib.hid hlU
  have Ec0 : Hid (nb (nv r) = E0) := by show _ = _; exact hE0.symm
  have Ec1 : Hid (nb (e) = E1) := by show _ = _; exact hE1.symm
  have Ec2 : Hid (nb (f) = F1) := by show _ = _; exact hF1.symm
  have Ec3 : Hid (nb (nv p ^ nv E1 % nv r) = G1) := by show _ = _; rw [nE1, hG1]
  have Ec4 : Hid (nb (nv p ^ nv F1 % nv r) = G2) := by show _ = _; rw [nF1, hG2]
  have Ec5 : Hid (nb (nv G1 * nv G2) = G3) := by show _ = _; rw [nG1, nG2, hG3]
  have Ec6 : Hid (nb (nv G3 % nv r) = G5) := by show _ = _; rw [nG3, hG5, ← Nat.mul_mod, ← Nat.pow_add]
  have Ec7 : Hid (nb (nv E1 + nv F1) = H1) := by show _ = _; rw [nE1, nF1, hH1]
  have Ec8 : Hid (nb (nv p ^ nv H1 % nv r) = G5) := by show _ = _; rw [nH1, hG5]
  have Ec9 : Hid (nb (nv q ^ nv E1 % nv r) = G6) := by show _ = _; rw [nE1, hG6]
  have Eca : Hid (nb (nv G1 * nv G6) = G7) := by show _ = _; rw [nG1, nG6, hG7]
  have Ecb : Hid (nb (nv G7 % nv r) = G8) := by show _ = _; rw [nG7, hG8, ← Nat.mul_mod, ← Nat.mul_pow]
  have Ecc : Hid (nb (nv p * nv q) = U) := by show _ = _; exact hU.symm
  have Ecd : Hid (nb (nv U ^ nv E1 % nv r) = G8) := by show _ = _; rw [nU, nE1, hG8]
  have HPOS := Lib.hid h0
  have HCE : Hid (∀ w, (binOp .eql 3 (.int .i64 (((E0).length : Nat) : Int)) (.int .i64 0)).run Try.prog w = .ok (.bool false) w) := eql_pos (nv_pos nE0 h0)
  clear h0 he hf lte ltf ltp ltq ltr hE0 nE0 hlE0 hE1 nE1 hlE1 hF1 nF1 hlF1 hG1 nG1 hlG1 hG2 nG2 hlG2 hG3 nG3 hlG3 hH1 nH1 hlH1 hG5 nG5 hlG5 hG6 nG6 hlG6 hG7 nG7 hlG7 hG8 nG8 hlG8 hU nU hlU
  obtain ⟨L, hL⟩ : ∃ L, L = xs.length := ⟨_, rfl⟩
  obtain ⟨K, hK⟩ : ∃ K, K = ys.length := ⟨_, rfl⟩
  obtain ⟨J, hJ⟩ : ∃ J, J = zs.length := ⟨_, rfl⟩
  have rA : Byt w (.slice A L ca) xs := ⟨A, ca, by rw [hL], hA, dA⟩
  have rB : Byt w (.slice B K cb) ys := ⟨B, cb, by rw [hK], hB, dB⟩
  have rM : Byt w (.slice M J cm) zs := ⟨M, cm, by rw [hJ], hM, dM⟩
  rw [← hL, ← hK, ← hJ]
  have hW := (Below.refl w.heap.size w).alloc (Nat.le_refl _) (.cells #[.slice A L ca, .slice B K cb, .slice M J cm, .int .i64 i, .int .i64 wide] 51)
  have hx := Box5.new w (.slice A L ca) (.slice B K cb) (.slice M J cm) (.int .i64 i) (.int .i64 wide) 51
  have RA := Lib.hid (rA.below hW)
  have RB := Lib.hid (rB.below hW)
  have RM := Lib.hid (rM.below hW)
  have HX := Lib.hid hx
  have HW := Lib.hid hW
  clear hA dA hB dB hM dM hL hK hJ rA rB rM hW hx
  go_enter Try.func16, Try.ntmps16
  go_upto_region 1 with (fail)
  generalize hX : w.alloc (.cells #[.slice A L ca, .slice B K cb, .slice M J cm, .int .i64 i, .int .i64 wide] 51) = X at *
  clear hX
  refine wp_region_seq 4 [18, 19, 20, 7] [(18, .is (.pointer (some ⟨w.heap.size, 2, none⟩))), (19, .byt (zs)), (20, .byt (r)), (7, .byt (r))] (by kernel_rfl) (by rfl) ?_ ?_
  · refine seeOps_cons ?_ (seeOps_cons ?_ (seeOps_cons ?_ (seeOps_cons ?_ seeOps_nil)))
    · intro w2 hb2 fr hout hin
      have h3 : fr.tmps.getD 3 undef = .pointer (some ⟨w.heap.size, 0, none⟩) := hout 3 (by decide)
      exact op_fieldN (.tmp 3) rfl (by decide) h3 (wanted_none rfl) rfl
    · intro w2 hb2 fr hout hin
      have h18 : fr.tmps.getD 18 undef = .pointer (some ⟨w.heap.size, 2, none⟩) := hin 18 (by decide) (by decide)
      exact op_load1 (.tmp 18) rfl (fun _ => by kernel_rfl) h18 ((HX.out.below hb2).c2) (wanted_none rfl) (RM.out.below hb2)
    · intro w2 hb2 fr hout hin
      have h19 : Byt w2 (fr.tmps.getD 19 undef) (zs) := hin 19 (by decide) (by decide)
      exact op_call2 (.tmp 19) (.const (.int .i64 40)) rfl en_twin (wanted_none rfl) (TTr40.out _ h19) (fun _ _ h => h)
    · intro w2 hb2 fr hout hin
      have h20 : Byt w2 (fr.tmps.getD 20 undef) (r) := hin 20 (by decide) (by decide)
      exact relStep_assign (.tmp 20) rfl (wanted_none rfl) h20
  intro w1 hb1
  refine relAsk_in (by rfl) ?_
  intro v18 h18
  obtain rfl : v18 = .pointer (some ⟨w.heap.size, 2, none⟩) := h18
  refine relAsk_in (by rfl) ?_
  intro v19 h19
  refine relAsk_in (by rfl) ?_
  intro v20 h20
  refine relAsk_in (by rfl) ?_
  intro v7 h7
  refine relAsk_nil ?_
  have RA := Lib.hid (RA.out.below hb1)
  have RB := Lib.hid (RB.out.below hb1)
  have RM := Lib.hid (RM.out.below hb1)
  have HX := Lib.hid (HX.out.below hb1)
  have HW := Lib.hid (HW.out.trans (hb1.mono HW.out.size))
  have H7 : Hid (Byt w1 (v7) (r)) := h7
  clear h19 h20 h7 hb1
  refine wpList_nil ?_
  go_simp
  go_upto_region 2 with (fail)
  refine wp_region_seq 4 [21, 22, 23, 24] [(21, .byt (r)), (22, .byt (E0)), (23, .is (.int .i64 (((E0).length : Nat) : Int))), (24, .is (.bool false))] (by kernel_rfl) (by rfl) ?_ ?_
  · refine seeOps_cons ?_ (seeOps_cons ?_ (seeOps_cons ?_ (seeOps_cons ?_ seeOps_nil)))
    · intro w2 hb2 fr hout hin
      have h7 : Byt w2 (fr.tmps.getD 7 undef) (r) := by
        have e : fr.tmps.getD 7 undef = v7 := hout 7 (by decide)
        rw [e]; exact H7.out.below hb2
      exact relStep_move (.tmp 7) rfl (wanted_none rfl) h7
    · intro w2 hb2 fr hout hin
      have h21 : Byt w2 (fr.tmps.getD 21 undef) (r) := hin 21 (by decide) (by decide)
      exact op_call1 (.tmp 21) rfl en_trim (wanted_none rfl) (by have k := (trim_v _ h21 (by have := HLr.out; omega)); rw [Ec0.out] at k; exact k) (fun _ _ h => h)
    · intro w2 hb2 fr hout hin
      have h22 : Byt w2 (fr.tmps.getD 22 undef) (E0) := hin 22 (by decide) (by decide)
      exact op_len (bs := (E0)) (.tmp 22) rfl h22 (wanted_none rfl) rfl
    · intro w2 hb2 fr hout hin
      have h23 : fr.tmps.getD 23 undef = .int .i64 (((E0).length : Nat) : Int) := hin 23 (by decide) (by decide)
      exact op_cmp .eql (.tmp 23) (.const (.int .i64 0)) _ rfl h23 rfl (HCE.out) (wanted_none rfl) rfl
  intro w2 hb2
  refine relAsk_in (by rfl) ?_
  intro v21 h21
  refine relAsk_in (by rfl) ?_
  intro v22 h22
  refine relAsk_in (by rfl) ?_
  intro v23 h23
  obtain rfl : v23 = .int .i64 (((E0).length : Nat) : Int) := h23
  refine relAsk_in (by rfl) ?_
  intro v24 h24
  obtain rfl : v24 = .bool false := h24
  refine relAsk_nil ?_
  have RA := Lib.hid (RA.out.below hb2)
  have RB := Lib.hid (RB.out.below hb2)
  have RM := Lib.hid (RM.out.below hb2)
  have HX := Lib.hid (HX.out.below hb2)
  have HW := Lib.hid (HW.out.trans (hb2.mono HW.out.size))
  have H7 := Lib.hid (H7.out.below hb2)
  clear h21 h22 hb2
  refine wpList_nil ?_
  go_simp
  go_upto_region 4 with (fail)
  refine wp_region_seq 4 [38, 39, 40, 8] [(38, .is (.pointer (some ⟨w.heap.size, 0, none⟩))), (39, .byt (xs)), (40, .byt (p)), (8, .byt (p))] (by kernel_rfl) (by rfl) ?_ ?_
  · refine seeOps_cons ?_ (seeOps_cons ?_ (seeOps_cons ?_ (seeOps_cons ?_ seeOps_nil)))
    · intro w2 hb2 fr hout hin
      have h3 : fr.tmps.getD 3 undef = .pointer (some ⟨w.heap.size, 0, none⟩) := hout 3 (by decide)
      exact op_fieldN (.tmp 3) rfl (by decide) h3 (wanted_none rfl) rfl
    · intro w2 hb2 fr hout hin
      have h38 : fr.tmps.getD 38 undef = .pointer (some ⟨w.heap.size, 0, none⟩) := hin 38 (by decide) (by decide)
      exact op_load1 (.tmp 38) rfl (fun _ => by kernel_rfl) h38 ((HX.out.below hb2).c0) (wanted_none rfl) (RA.out.below hb2)
    · intro w2 hb2 fr hout hin
      have h39 : Byt w2 (fr.tmps.getD 39 undef) (xs) := hin 39 (by decide) (by decide)
      exact op_call2 (.tmp 39) (.const (.int .i64 40)) rfl en_twin (wanted_none rfl) (TTp40.out _ h39) (fun _ _ h => h)
    · intro w2 hb2 fr hout hin
      have h40 : Byt w2 (fr.tmps.getD 40 undef) (p) := hin 40 (by decide) (by decide)
      exact relStep_assign (.tmp 40) rfl (wanted_none rfl) h40
  intro w3 hb3
  refine relAsk_in (by rfl) ?_
  intro v38 h38
  obtain rfl : v38 = .pointer (some ⟨w.heap.size, 0, none⟩) := h38
  refine relAsk_in (by rfl) ?_
  intro v39 h39
  refine relAsk_in (by rfl) ?_
  intro v40 h40
  refine relAsk_in (by rfl) ?_
  intro v8 h8
  refine relAsk_nil ?_
  have RA := Lib.hid (RA.out.below hb3)
  have RB := Lib.hid (RB.out.below hb3)
  have RM := Lib.hid (RM.out.below hb3)
  have HX := Lib.hid (HX.out.below hb3)
  have HW := Lib.hid (HW.out.trans (hb3.mono HW.out.size))
  have H7 := Lib.hid (H7.out.below hb3)
  have H8 : Hid (Byt w3 (v8) (p)) := h8
  clear h39 h40 h8 hb3
  refine wpList_nil ?_
  go_simp
  go_upto_region 5 with (fail)
  refine wp_region_seq 4 [41, 42, 43, 9] [(41, .is (.pointer (some ⟨w.heap.size, 1, none⟩))), (42, .byt (ys)), (43, .byt (q)), (9, .byt (q))] (by kernel_rfl) (by rfl) ?_ ?_
  · refine seeOps_cons ?_ (seeOps_cons ?_ (seeOps_cons ?_ (seeOps_cons ?_ seeOps_nil)))
    · intro w2 hb2 fr hout hin
      have h3 : fr.tmps.getD 3 undef = .pointer (some ⟨w.heap.size, 0, none⟩) := hout 3 (by decide)
      exact op_fieldN (.tmp 3) rfl (by decide) h3 (wanted_none rfl) rfl
    · intro w2 hb2 fr hout hin
      have h41 : fr.tmps.getD 41 undef = .pointer (some ⟨w.heap.size, 1, none⟩) := hin 41 (by decide) (by decide)
      exact op_load1 (.tmp 41) rfl (fun _ => by kernel_rfl) h41 ((HX.out.below hb2).c1) (wanted_none rfl) (RB.out.below hb2)
    · intro w2 hb2 fr hout hin
      have h42 : Byt w2 (fr.tmps.getD 42 undef) (ys) := hin 42 (by decide) (by decide)
      exact op_call2 (.tmp 42) (.const (.int .i64 40)) rfl en_twin (wanted_none rfl) (TTq40.out _ h42) (fun _ _ h => h)
    · intro w2 hb2 fr hout hin
      have h43 : Byt w2 (fr.tmps.getD 43 undef) (q) := hin 43 (by decide) (by decide)
      exact relStep_assign (.tmp 43) rfl (wanted_none rfl) h43
  intro w4 hb4
  refine relAsk_in (by rfl) ?_
  intro v41 h41
  obtain rfl : v41 = .pointer (some ⟨w.heap.size, 1, none⟩) := h41
  refine relAsk_in (by rfl) ?_
  intro v42 h42
  refine relAsk_in (by rfl) ?_
  intro v43 h43
  refine relAsk_in (by rfl) ?_
  intro v9 h9
  refine relAsk_nil ?_
  have RA := Lib.hid (RA.out.below hb4)
  have RB := Lib.hid (RB.out.below hb4)
  have RM := Lib.hid (RM.out.below hb4)
  have HX := Lib.hid (HX.out.below hb4)
  have HW := Lib.hid (HW.out.trans (hb4.mono HW.out.size))
  have H7 := Lib.hid (H7.out.below hb4)
  have H8 := Lib.hid (H8.out.below hb4)
  have H9 : Hid (Byt w4 (v9) (q)) := h9
  clear h42 h43 h9 hb4
  refine wpList_nil ?_
  go_simp
  go_upto_region 6 with (fail)
  refine wp_region_seq 4 [44, 45, 46, 10] [(44, .is (.int .u64 (e : Nat))), (45, .num (e) 2), (46, .byt (E1)), (10, .byt (E1))] (by kernel_rfl) (by rfl) ?_ ?_
  · refine seeOps_cons ?_ (seeOps_cons ?_ (seeOps_cons ?_ (seeOps_cons ?_ seeOps_nil)))
    · intro w2 hb2 fr hout hin
      have h1 : fr.tmps.getD 1 undef = .int .u64 (e : Nat) := hout 1 (by decide)
      exact relStep_move (.tmp 1) rfl (wanted_none rfl) h1
    · intro w2 hb2 fr hout hin
      have h44 : fr.tmps.getD 44 undef = .int .u64 (e : Nat) := hin 44 (by decide) (by decide)
      exact op_call1 (.tmp 44) rfl en_of2 (wanted_none rfl) (by
        show Calls _ _ #[fr.tmps.getD 44 undef] _ _
        rw [h44]; exact (of2_v e HEe.out _)) (fun _ _ h => h)
    · intro w2 hb2 fr hout hin
      have h45 : Num w2 (fr.tmps.getD 45 undef) (e) 2 := hin 45 (by decide) (by decide)
      exact op_call1 (.tmp 45) rfl en_bytes2 (wanted_none rfl) (by have k := (bytes2_v _ h45 (by decide)); rw [Ec1.out] at k; exact k) (fun _ _ h => h)
    · intro w2 hb2 fr hout hin
      have h46 : Byt w2 (fr.tmps.getD 46 undef) (E1) := hin 46 (by decide) (by decide)
      exact relStep_assign (.tmp 46) rfl (wanted_none rfl) h46
  intro w5 hb5
  refine relAsk_in (by rfl) ?_
  intro v44 h44
  obtain rfl : v44 = .int .u64 (e : Nat) := h44
  refine relAsk_in (by rfl) ?_
  intro v45 h45
  refine relAsk_in (by rfl) ?_
  intro v46 h46
  refine relAsk_in (by rfl) ?_
  intro v10 h10
  refine relAsk_nil ?_
  have RA := Lib.hid (RA.out.below hb5)
  have RB := Lib.hid (RB.out.below hb5)
  have RM := Lib.hid (RM.out.below hb5)
  have HX := Lib.hid (HX.out.below hb5)
  have HW := Lib.hid (HW.out.trans (hb5.mono HW.out.size))
  have H7 := Lib.hid (H7.out.below hb5)
  have H8 := Lib.hid (H8.out.below hb5)
  have H9 := Lib.hid (H9.out.below hb5)
  have H10 : Hid (Byt w5 (v10) (E1)) := h10
  clear h45 h46 h10 hb5
  refine wpList_nil ?_
  go_simp
  go_upto_region 7 with (fail)
  refine wp_region_seq 4 [47, 48, 49, 11] [(47, .is (.int .u64 (f : Nat))), (48, .num (f) 2), (49, .byt (F1)), (11, .byt (F1))] (by kernel_rfl) (by rfl) ?_ ?_
  · refine seeOps_cons ?_ (seeOps_cons ?_ (seeOps_cons ?_ (seeOps_cons ?_ seeOps_nil)))
    · intro w2 hb2 fr hout hin
      have h2 : fr.tmps.getD 2 undef = .int .u64 (f : Nat) := hout 2 (by decide)
      exact relStep_move (.tmp 2) rfl (wanted_none rfl) h2
    · intro w2 hb2 fr hout hin
      have h47 : fr.tmps.getD 47 undef = .int .u64 (f : Nat) := hin 47 (by decide) (by decide)
      exact op_call1 (.tmp 47) rfl en_of2 (wanted_none rfl) (by
        show Calls _ _ #[fr.tmps.getD 47 undef] _ _
        rw [h47]; exact (of2_v f HEf.out _)) (fun _ _ h => h)
    · intro w2 hb2 fr hout hin
      have h48 : Num w2 (fr.tmps.getD 48 undef) (f) 2 := hin 48 (by decide) (by decide)
      exact op_call1 (.tmp 48) rfl en_bytes2 (wanted_none rfl) (by have k := (bytes2_v _ h48 (by decide)); rw [Ec2.out] at k; exact k) (fun _ _ h => h)
    · intro w2 hb2 fr hout hin
      have h49 : Byt w2 (fr.tmps.getD 49 undef) (F1) := hin 49 (by decide) (by decide)
      exact relStep_assign (.tmp 49) rfl (wanted_none rfl) h49
  intro w6 hb6
  refine relAsk_in (by rfl) ?_
  intro v47 h47
  obtain rfl : v47 = .int .u64 (f : Nat) := h47
  refine relAsk_in (by rfl) ?_
  intro v48 h48
  refine relAsk_in (by rfl) ?_
  intro v49 h49
  refine relAsk_in (by rfl) ?_
  intro v11 h11
  refine relAsk_nil ?_
  have RA := Lib.hid (RA.out.below hb6)
  have RB := Lib.hid (RB.out.below hb6)
  have RM := Lib.hid (RM.out.below hb6)
  have HX := Lib.hid (HX.out.below hb6)
  have HW := Lib.hid (HW.out.trans (hb6.mono HW.out.size))
  have H7 := Lib.hid (H7.out.below hb6)
  have H8 := Lib.hid (H8.out.below hb6)
  have H9 := Lib.hid (H9.out.below hb6)
  have H10 := Lib.hid (H10.out.below hb6)
  have H11 : Hid (Byt w6 (v11) (F1)) := h11
  clear h48 h49 h11 hb6
  refine wpList_nil ?_
  go_simp
  go_upto_region 8 with (fail)
  refine wp_region_seq 18 [51, 52, 53, 54, 55, 56, 57, 58, 59, 60, 61, 50, 62, 63, 64, 12, 13, 14] [(51, .byt (p)), (52, .byt (E1)), (53, .byt (r)), (54, .byt (G1)), (55, .byt (p)), (56, .byt (F1)), (57, .byt (r)), (58, .byt (G2)), (59, .byt (G3)), (60, .byt (r)), (61, .dmB (nb (nv G3 / nv r)) (G5)), (50, .dmB (nb (nv G3 / nv r)) (G5)), (62, .byt (nb (nv G3 / nv r))), (63, .byt (G5)), (64, .is (.bool true)), (12, .byt (nb (nv G3 / nv r))), (13, .byt (G5)), (14, .is (.bool true))] (by kernel_rfl) (by rfl) ?_ ?_
  · refine seeOps_cons ?_ (seeOps_cons ?_ (seeOps_cons ?_ (seeOps_cons ?_ (seeOps_cons ?_ (seeOps_cons ?_ (seeOps_cons ?_ (seeOps_cons ?_ (seeOps_cons ?_ (seeOps_cons ?_ (seeOps_cons ?_ (seeOps_cons ?_ (seeOps_cons ?_ (seeOps_cons ?_ (seeOps_cons ?_ (seeOps_cons ?_ (seeOps_cons ?_ (seeOps_cons ?_ seeOps_nil)))))))))))))))))
    · intro w2 hb2 fr hout hin
      have h8 : Byt w2 (fr.tmps.getD 8 undef) (p) := by
        have e : fr.tmps.getD 8 undef = v8 := hout 8 (by decide)
        rw [e]; exact H8.out.below hb2
      exact relStep_move (.tmp 8) rfl (wanted_none rfl) h8
    · intro w2 hb2 fr hout hin
      have h10 : Byt w2 (fr.tmps.getD 10 undef) (E1) := by
        have e : fr.tmps.getD 10 undef = v10 := hout 10 (by decide)
        rw [e]; exact H10.out.below hb2
      exact relStep_move (.tmp 10) rfl (wanted_none rfl) h10
    · intro w2 hb2 fr hout hin
      have h7 : Byt w2 (fr.tmps.getD 7 undef) (r) := by
        have e : fr.tmps.getD 7 undef = v7 := hout 7 (by decide)
        rw [e]; exact H7.out.below hb2
      exact relStep_move (.tmp 7) rfl (wanted_none rfl) h7
    · intro w2 hb2 fr hout hin
      have h51 : Byt w2 (fr.tmps.getD 51 undef) (p) := hin 51 (by decide) (by decide)
      have h52 : Byt w2 (fr.tmps.getD 52 undef) (E1) := hin 52 (by decide) (by decide)
      have h53 : Byt w2 (fr.tmps.getD 53 undef) (r) := hin 53 (by decide) (by decide)
      exact op_call3 (.tmp 51) (.tmp 52) (.tmp 53) rfl en_exp (wanted_none rfl) (by have k := (exp_v _ h51 h52 h53 (by have := HLp.out; omega) (by have := HLE1.out; omega) (by have := HLr.out; omega) HPOS.out); rw [Ec3.out] at k; exact k) (fun _ _ h => h)
    · intro w2 hb2 fr hout hin
      have h8 : Byt w2 (fr.tmps.getD 8 undef) (p) := by
        have e : fr.tmps.getD 8 undef = v8 := hout 8 (by decide)
        rw [e]; exact H8.out.below hb2
      exact relStep_move (.tmp 8) rfl (wanted_none rfl) h8
    · intro w2 hb2 fr hout hin
      have h11 : Byt w2 (fr.tmps.getD 11 undef) (F1) := by
        have e : fr.tmps.getD 11 undef = v11 := hout 11 (by decide)
        rw [e]; exact H11.out.below hb2
      exact relStep_move (.tmp 11) rfl (wanted_none rfl) h11
    · intro w2 hb2 fr hout hin
      have h7 : Byt w2 (fr.tmps.getD 7 undef) (r) := by
        have e : fr.tmps.getD 7 undef = v7 := hout 7 (by decide)
        rw [e]; exact H7.out.below hb2
      exact relStep_move (.tmp 7) rfl (wanted_none rfl) h7
    · intro w2 hb2 fr hout hin
      have h55 : Byt w2 (fr.tmps.getD 55 undef) (p) := hin 55 (by decide) (by decide)
      have h56 : Byt w2 (fr.tmps.getD 56 undef) (F1) := hin 56 (by decide) (by decide)
      have h57 : Byt w2 (fr.tmps.getD 57 undef) (r) := hin 57 (by decide) (by decide)
      exact op_call3 (.tmp 55) (.tmp 56) (.tmp 57) rfl en_exp (wanted_none rfl) (by have k := (exp_v _ h55 h56 h57 (by have := HLp.out; omega) (by have := HLF1.out; omega) (by have := HLr.out; omega) HPOS.out); rw [Ec4.out] at k; exact k) (fun _ _ h => h)
    · intro w2 hb2 fr hout hin
      have h54 : Byt w2 (fr.tmps.getD 54 undef) (G1) := hin 54 (by decide) (by decide)
      have h58 : Byt w2 (fr.tmps.getD 58 undef) (G2) := hin 58 (by decide) (by decide)
      exact op_call2 (.tmp 54) (.tmp 58) rfl en_mul (wanted_none rfl) (by have k := (mul_v _ h54 h58 (by have := HLG1.out; omega) (by have := HLG2.out; omega)); rw [Ec5.out] at k; exact k) (fun _ _ h => h)
    · intro w2 hb2 fr hout hin
      have h7 : Byt w2 (fr.tmps.getD 7 undef) (r) := by
        have e : fr.tmps.getD 7 undef = v7 := hout 7 (by decide)
        rw [e]; exact H7.out.below hb2
      exact relStep_move (.tmp 7) rfl (wanted_none rfl) h7
    · intro w2 hb2 fr hout hin
      have h59 : Byt w2 (fr.tmps.getD 59 undef) (G3) := hin 59 (by decide) (by decide)
      have h60 : Byt w2 (fr.tmps.getD 60 undef) (r) := hin 60 (by decide) (by decide)
      exact op_call2 (.tmp 59) (.tmp 60) rfl en_dm (wanted_none rfl) (by have k := (dm_v _ h59 h60 (by have := HLG3.out; omega) (by have := HLr.out; omega) HPOS.out); rw [Ec6.out] at k; exact k) (fun _ _ h => h)
    · intro w2 hb2 fr hout hin
      have h61 : DmB w2 (fr.tmps.getD 61 undef) (nb (nv G3 / nv r)) (G5) := hin 61 (by decide) (by decide)
      exact relStep_move (.tmp 61) rfl (wanted_none rfl) h61
    · intro w2 hb2 fr hout hin
      have h50 : DmB w2 (fr.tmps.getD 50 undef) (nb (nv G3 / nv r)) (G5) := hin 50 (by decide) (by decide)
      obtain ⟨x, y, e, hx, hy⟩ := h50
      exact op_ext (.tmp 50) 0 rfl e rfl (wanted_none rfl) hx
    · intro w2 hb2 fr hout hin
      have h50 : DmB w2 (fr.tmps.getD 50 undef) (nb (nv G3 / nv r)) (G5) := hin 50 (by decide) (by decide)
      obtain ⟨x, y, e, hx, hy⟩ := h50
      exact op_ext (.tmp 50) 1 rfl e rfl (wanted_none rfl) hy
    · intro w2 hb2 fr hout hin
      have h50 : DmB w2 (fr.tmps.getD 50 undef) (nb (nv G3 / nv r)) (G5) := hin 50 (by decide) (by decide)
      obtain ⟨x, y, e, hx, hy⟩ := h50
      exact op_ext (.tmp 50) 2 rfl e rfl (wanted_none rfl) rfl
    · intro w2 hb2 fr hout hin
      have h62 : Byt w2 (fr.tmps.getD 62 undef) (nb (nv G3 / nv r)) := hin 62 (by decide) (by decide)
      exact relStep_assign (.tmp 62) rfl (wanted_none rfl) h62
    · intro w2 hb2 fr hout hin
      have h63 : Byt w2 (fr.tmps.getD 63 undef) (G5) := hin 63 (by decide) (by decide)
      exact relStep_assign (.tmp 63) rfl (wanted_none rfl) h63
    · intro w2 hb2 fr hout hin
      have h64 : fr.tmps.getD 64 undef = .bool true := hin 64 (by decide) (by decide)
      exact relStep_assign (.tmp 64) rfl (wanted_none rfl) h64
  intro w7 hb7
  refine relAsk_in (by rfl) ?_
  intro v51 h51
  refine relAsk_in (by rfl) ?_
  intro v52 h52
  refine relAsk_in (by rfl) ?_
  intro v53 h53
  refine relAsk_in (by rfl) ?_
  intro v54 h54
  refine relAsk_in (by rfl) ?_
  intro v55 h55
  refine relAsk_in (by rfl) ?_
  intro v56 h56
  refine relAsk_in (by rfl) ?_
  intro v57 h57
  refine relAsk_in (by rfl) ?_
  intro v58 h58
  refine relAsk_in (by rfl) ?_
  intro v59 h59
  refine relAsk_in (by rfl) ?_
  intro v60 h60
  refine relAsk_in (by rfl) ?_
  intro v61 h61
  refine relAsk_in (by rfl) ?_
  intro v50 h50
  refine relAsk_in (by rfl) ?_
  intro v62 h62
  refine relAsk_in (by rfl) ?_
  intro v63 h63
  refine relAsk_in (by rfl) ?_
  intro v64 h64
  obtain rfl : v64 = .bool true := h64
  refine relAsk_in (by rfl) ?_
  intro v12 h12
  refine relAsk_in (by rfl) ?_
  intro v13 h13
  refine relAsk_in (by rfl) ?_
  intro v14 h14
  obtain rfl : v14 = .bool true := h14
  refine relAsk_nil ?_
  have RA := Lib.hid (RA.out.below hb7)
  have RB := Lib.hid (RB.out.below hb7)
  have RM := Lib.hid (RM.out.below hb7)
  have HX := Lib.hid (HX.out.below hb7)
  have HW := Lib.hid (HW.out.trans (hb7.mono HW.out.size))
  have H7 := Lib.hid (H7.out.below hb7)
  have H8 := Lib.hid (H8.out.below hb7)
  have H9 := Lib.hid (H9.out.below hb7)
  have H10 := Lib.hid (H10.out.below hb7)
  have H11 := Lib.hid (H11.out.below hb7)
  have H13 : Hid (Byt w7 (v13) (G5)) := h13
  clear h51 h52 h53 h54 h55 h56 h57 h58 h59 h60 h61 h50 h62 h63 h12 h13 hb7
  refine wpList_nil ?_
  go_simp
  go_upto_region 9 with (fail)
  refine wp_region_see 10 [65, 66, 67, 68, 69, 70, 71, 72, 73, 74] [(65, .byt (G5)), (66, .is (.string (sOf (G5)))), (67, .byt (p)), (68, .byt (E1)), (69, .byt (F1)), (70, .byt (H1)), (71, .byt (r)), (72, .byt (G5)), (73, .is (.string (sOf (G5)))), (74, .is (.bool false))] (by kernel_rfl) (by kernel_rfl) (by rfl) ?_ ?_
  · refine seeOps_cons ?_ (seeOps_cons ?_ (seeOps_cons ?_ (seeOps_cons ?_ (seeOps_cons ?_ (seeOps_cons ?_ (seeOps_cons ?_ (seeOps_cons ?_ (seeOps_cons ?_ (seeOps_cons ?_ seeOps_nil)))))))))
    · intro w2 hb2 fr hout hin
      have h13 : Byt w2 (fr.tmps.getD 13 undef) (G5) := by
        have e : fr.tmps.getD 13 undef = v13 := hout 13 (by decide)
        rw [e]; exact H13.out.below hb2
      exact relStep_move (.tmp 13) rfl (wanted_none rfl) h13
    · intro w2 hb2 fr hout hin
      have h65 : Byt w2 (fr.tmps.getD 65 undef) (G5) := hin 65 (by decide) (by decide)
      exact op_str (.tmp 65) rfl h65 (wanted_none rfl) rfl
    · intro w2 hb2 fr hout hin
      have h8 : Byt w2 (fr.tmps.getD 8 undef) (p) := by
        have e : fr.tmps.getD 8 undef = v8 := hout 8 (by decide)
        rw [e]; exact H8.out.below hb2
      exact relStep_move (.tmp 8) rfl (wanted_none rfl) h8
    · intro w2 hb2 fr hout hin
      have h10 : Byt w2 (fr.tmps.getD 10 undef) (E1) := by
        have e : fr.tmps.getD 10 undef = v10 := hout 10 (by decide)
        rw [e]; exact H10.out.below hb2
      exact relStep_move (.tmp 10) rfl (wanted_none rfl) h10
    · intro w2 hb2 fr hout hin
      have h11 : Byt w2 (fr.tmps.getD 11 undef) (F1) := by
        have e : fr.tmps.getD 11 undef = v11 := hout 11 (by decide)
        rw [e]; exact H11.out.below hb2
      exact relStep_move (.tmp 11) rfl (wanted_none rfl) h11
    · intro w2 hb2 fr hout hin
      have h68 : Byt w2 (fr.tmps.getD 68 undef) (E1) := hin 68 (by decide) (by decide)
      have h69 : Byt w2 (fr.tmps.getD 69 undef) (F1) := hin 69 (by decide) (by decide)
      exact op_call2 (.tmp 68) (.tmp 69) rfl en_add (wanted_none rfl) (by have k := (add_v _ h68 h69 (by have := HLE1.out; omega) (by have := HLF1.out; omega)); rw [Ec7.out] at k; exact k) (fun _ _ h => h)
    · intro w2 hb2 fr hout hin
      have h7 : Byt w2 (fr.tmps.getD 7 undef) (r) := by
        have e : fr.tmps.getD 7 undef = v7 := hout 7 (by decide)
        rw [e]; exact H7.out.below hb2
      exact relStep_move (.tmp 7) rfl (wanted_none rfl) h7
    · intro w2 hb2 fr hout hin
      have h67 : Byt w2 (fr.tmps.getD 67 undef) (p) := hin 67 (by decide) (by decide)
      have h70 : Byt w2 (fr.tmps.getD 70 undef) (H1) := hin 70 (by decide) (by decide)
      have h71 : Byt w2 (fr.tmps.getD 71 undef) (r) := hin 71 (by decide) (by decide)
      exact op_call3 (.tmp 67) (.tmp 70) (.tmp 71) rfl en_exp (wanted_none rfl) (by have k := (exp_v _ h67 h70 h71 (by have := HLp.out; omega) (by have := HLH1.out; omega) (by have := HLr.out; omega) HPOS.out); rw [Ec8.out] at k; exact k) (fun _ _ h => h)
    · intro w2 hb2 fr hout hin
      have h72 : Byt w2 (fr.tmps.getD 72 undef) (G5) := hin 72 (by decide) (by decide)
      exact op_str (.tmp 72) rfl h72 (wanted_none rfl) rfl
    · intro w2 hb2 fr hout hin
      have h66 : fr.tmps.getD 66 undef = .string (sOf (G5)) := hin 66 (by decide) (by decide)
      have h73 : fr.tmps.getD 73 undef = .string (sOf (G5)) := hin 73 (by decide) (by decide)
      exact op_neS (.tmp 66) (.tmp 73) _ rfl h66 h73 (wanted_none rfl) rfl
  intro w8 hb8
  refine relAsk_in (by rfl) ?_
  intro v65 h65
  refine relAsk_in (by rfl) ?_
  intro v66 h66
  obtain rfl : v66 = .string (sOf (G5)) := h66
  refine relAsk_in (by rfl) ?_
  intro v67 h67
  refine relAsk_in (by rfl) ?_
  intro v68 h68
  refine relAsk_in (by rfl) ?_
  intro v69 h69
  refine relAsk_in (by rfl) ?_
  intro v70 h70
  refine relAsk_in (by rfl) ?_
  intro v71 h71
  refine relAsk_in (by rfl) ?_
  intro v72 h72
  refine relAsk_in (by rfl) ?_
  intro v73 h73
  obtain rfl : v73 = .string (sOf (G5)) := h73
  refine relAsk_in (by rfl) ?_
  intro v74 h74
  obtain rfl : v74 = .bool false := h74
  refine relAsk_nil ?_
  have RA := Lib.hid (RA.out.below hb8)
  have RB := Lib.hid (RB.out.below hb8)
  have RM := Lib.hid (RM.out.below hb8)
  have HX := Lib.hid (HX.out.below hb8)
  have HW := Lib.hid (HW.out.trans (hb8.mono HW.out.size))
  have H7 := Lib.hid (H7.out.below hb8)
  have H8 := Lib.hid (H8.out.below hb8)
  have H9 := Lib.hid (H9.out.below hb8)
  have H10 := Lib.hid (H10.out.below hb8)
  have H11 := Lib.hid (H11.out.below hb8)
  have H13 := Lib.hid (H13.out.below hb8)
  clear h65 h67 h68 h69 h70 h71 h72 hb8
  refine wpList_nil ?_
  go_simp
  go_upto_region 11 with (fail)
  refine wp_region_seq 18 [76, 77, 78, 79, 80, 81, 82, 83, 84, 85, 86, 75, 87, 88, 89, 15, 16, 17] [(76, .byt (p)), (77, .byt (E1)), (78, .byt (r)), (79, .byt (G1)), (80, .byt (q)), (81, .byt (E1)), (82, .byt (r)), (83, .byt (G6)), (84, .byt (G7)), (85, .byt (r)), (86, .dmB (nb (nv G7 / nv r)) (G8)), (75, .dmB (nb (nv G7 / nv r)) (G8)), (87, .byt (nb (nv G7 / nv r))), (88, .byt (G8)), (89, .is (.bool true)), (15, .byt (nb (nv G7 / nv r))), (16, .byt (G8)), (17, .is (.bool true))] (by kernel_rfl) (by rfl) ?_ ?_
  · refine seeOps_cons ?_ (seeOps_cons ?_ (seeOps_cons ?_ (seeOps_cons ?_ (seeOps_cons ?_ (seeOps_cons ?_ (seeOps_cons ?_ (seeOps_cons ?_ (seeOps_cons ?_ (seeOps_cons ?_ (seeOps_cons ?_ (seeOps_cons ?_ (seeOps_cons ?_ (seeOps_cons ?_ (seeOps_cons ?_ (seeOps_cons ?_ (seeOps_cons ?_ (seeOps_cons ?_ seeOps_nil)))))))))))))))))
    · intro w2 hb2 fr hout hin
      have h8 : Byt w2 (fr.tmps.getD 8 undef) (p) := by
        have e : fr.tmps.getD 8 undef = v8 := hout 8 (by decide)
        rw [e]; exact H8.out.below hb2
      exact relStep_move (.tmp 8) rfl (wanted_none rfl) h8
    · intro w2 hb2 fr hout hin
      have h10 : Byt w2 (fr.tmps.getD 10 undef) (E1) := by
        have e : fr.tmps.getD 10 undef = v10 := hout 10 (by decide)
        rw [e]; exact H10.out.below hb2
      exact relStep_move (.tmp 10) rfl (wanted_none rfl) h10
    · intro w2 hb2 fr hout hin
      have h7 : Byt w2 (fr.tmps.getD 7 undef) (r) := by
        have e : fr.tmps.getD 7 undef = v7 := hout 7 (by decide)
        rw [e]; exact H7.out.below hb2
      exact relStep_move (.tmp 7) rfl (wanted_none rfl) h7
    · intro w2 hb2 fr hout hin
      have h76 : Byt w2 (fr.tmps.getD 76 undef) (p) := hin 76 (by decide) (by decide)
      have h77 : Byt w2 (fr.tmps.getD 77 undef) (E1) := hin 77 (by decide) (by decide)
      have h78 : Byt w2 (fr.tmps.getD 78 undef) (r) := hin 78 (by decide) (by decide)
      exact op_call3 (.tmp 76) (.tmp 77) (.tmp 78) rfl en_exp (wanted_none rfl) (by have k := (exp_v _ h76 h77 h78 (by have := HLp.out; omega) (by have := HLE1.out; omega) (by have := HLr.out; omega) HPOS.out); rw [Ec3.out] at k; exact k) (fun _ _ h => h)
    · intro w2 hb2 fr hout hin
      have h9 : Byt w2 (fr.tmps.getD 9 undef) (q) := by
        have e : fr.tmps.getD 9 undef = v9 := hout 9 (by decide)
        rw [e]; exact H9.out.below hb2
      exact relStep_move (.tmp 9) rfl (wanted_none rfl) h9
    · intro w2 hb2 fr hout hin
      have h10 : Byt w2 (fr.tmps.getD 10 undef) (E1) := by
        have e : fr.tmps.getD 10 undef = v10 := hout 10 (by decide)
        rw [e]; exact H10.out.below hb2
      exact relStep_move (.tmp 10) rfl (wanted_none rfl) h10
    · intro w2 hb2 fr hout hin
      have h7 : Byt w2 (fr.tmps.getD 7 undef) (r) := by
        have e : fr.tmps.getD 7 undef = v7 := hout 7 (by decide)
        rw [e]; exact H7.out.below hb2
      exact relStep_move (.tmp 7) rfl (wanted_none rfl) h7
    · intro w2 hb2 fr hout hin
      have h80 : Byt w2 (fr.tmps.getD 80 undef) (q) := hin 80 (by decide) (by decide)
      have h81 : Byt w2 (fr.tmps.getD 81 undef) (E1) := hin 81 (by decide) (by decide)
      have h82 : Byt w2 (fr.tmps.getD 82 undef) (r) := hin 82 (by decide) (by decide)
      exact op_call3 (.tmp 80) (.tmp 81) (.tmp 82) rfl en_exp (wanted_none rfl) (by have k := (exp_v _ h80 h81 h82 (by have := HLq.out; omega) (by have := HLE1.out; omega) (by have := HLr.out; omega) HPOS.out); rw [Ec9.out] at k; exact k) (fun _ _ h => h)
    · intro w2 hb2 fr hout hin
      have h79 : Byt w2 (fr.tmps.getD 79 undef) (G1) := hin 79 (by decide) (by decide)
      have h83 : Byt w2 (fr.tmps.getD 83 undef) (G6) := hin 83 (by decide) (by decide)
      exact op_call2 (.tmp 79) (.tmp 83) rfl en_mul (wanted_none rfl) (by have k := (mul_v _ h79 h83 (by have := HLG1.out; omega) (by have := HLG6.out; omega)); rw [Eca.out] at k; exact k) (fun _ _ h => h)
    · intro w2 hb2 fr hout hin
      have h7 : Byt w2 (fr.tmps.getD 7 undef) (r) := by
        have e : fr.tmps.getD 7 undef = v7 := hout 7 (by decide)
        rw [e]; exact H7.out.below hb2
      exact relStep_move (.tmp 7) rfl (wanted_none rfl) h7
    · intro w2 hb2 fr hout hin
      have h84 : Byt w2 (fr.tmps.getD 84 undef) (G7) := hin 84 (by decide) (by decide)
      have h85 : Byt w2 (fr.tmps.getD 85 undef) (r) := hin 85 (by decide) (by decide)
      exact op_call2 (.tmp 84) (.tmp 85) rfl en_dm (wanted_none rfl) (by have k := (dm_v _ h84 h85 (by have := HLG7.out; omega) (by have := HLr.out; omega) HPOS.out); rw [Ecb.out] at k; exact k) (fun _ _ h => h)
    · intro w2 hb2 fr hout hin
      have h86 : DmB w2 (fr.tmps.getD 86 undef) (nb (nv G7 / nv r)) (G8) := hin 86 (by decide) (by decide)
      exact relStep_move (.tmp 86) rfl (wanted_none rfl) h86
    · intro w2 hb2 fr hout hin
      have h75 : DmB w2 (fr.tmps.getD 75 undef) (nb (nv G7 / nv r)) (G8) := hin 75 (by decide) (by decide)
      obtain ⟨x, y, e, hx, hy⟩ := h75
      exact op_ext (.tmp 75) 0 rfl e rfl (wanted_none rfl) hx
    · intro w2 hb2 fr hout hin
      have h75 : DmB w2 (fr.tmps.getD 75 undef) (nb (nv G7 / nv r)) (G8) := hin 75 (by decide) (by decide)
      obtain ⟨x, y, e, hx, hy⟩ := h75
      exact op_ext (.tmp 75) 1 rfl e rfl (wanted_none rfl) hy
    · intro w2 hb2 fr hout hin
      have h75 : DmB w2 (fr.tmps.getD 75 undef) (nb (nv G7 / nv r)) (G8) := hin 75 (by decide) (by decide)
      obtain ⟨x, y, e, hx, hy⟩ := h75
      exact op_ext (.tmp 75) 2 rfl e rfl (wanted_none rfl) rfl
    · intro w2 hb2 fr hout hin
      have h87 : Byt w2 (fr.tmps.getD 87 undef) (nb (nv G7 / nv r)) := hin 87 (by decide) (by decide)
      exact relStep_assign (.tmp 87) rfl (wanted_none rfl) h87
    · intro w2 hb2 fr hout hin
      have h88 : Byt w2 (fr.tmps.getD 88 undef) (G8) := hin 88 (by decide) (by decide)
      exact relStep_assign (.tmp 88) rfl (wanted_none rfl) h88
    · intro w2 hb2 fr hout hin
      have h89 : fr.tmps.getD 89 undef = .bool true := hin 89 (by decide) (by decide)
      exact relStep_assign (.tmp 89) rfl (wanted_none rfl) h89
  intro w9 hb9
  refine relAsk_in (by rfl) ?_
  intro v76 h76
  refine relAsk_in (by rfl) ?_
  intro v77 h77
  refine relAsk_in (by rfl) ?_
  intro v78 h78
  refine relAsk_in (by rfl) ?_
  intro v79 h79
  refine relAsk_in (by rfl) ?_
  intro v80 h80
  refine relAsk_in (by rfl) ?_
  intro v81 h81
  refine relAsk_in (by rfl) ?_
  intro v82 h82
  refine relAsk_in (by rfl) ?_
  intro v83 h83
  refine relAsk_in (by rfl) ?_
  intro v84 h84
  refine relAsk_in (by rfl) ?_
  intro v85 h85
  refine relAsk_in (by rfl) ?_
  intro v86 h86
  refine relAsk_in (by rfl) ?_
  intro v75 h75
  refine relAsk_in (by rfl) ?_
  intro v87 h87
  refine relAsk_in (by rfl) ?_
  intro v88 h88
  refine relAsk_in (by rfl) ?_
  intro v89 h89
  obtain rfl : v89 = .bool true := h89
  refine relAsk_in (by rfl) ?_
  intro v15 h15
  refine relAsk_in (by rfl) ?_
  intro v16 h16
  refine relAsk_in (by rfl) ?_
  intro v17 h17
  obtain rfl : v17 = .bool true := h17
  refine relAsk_nil ?_
  have RA := Lib.hid (RA.out.below hb9)
  have RB := Lib.hid (RB.out.below hb9)
  have RM := Lib.hid (RM.out.below hb9)
  have HX := Lib.hid (HX.out.below hb9)
  have HW := Lib.hid (HW.out.trans (hb9.mono HW.out.size))
  have H7 := Lib.hid (H7.out.below hb9)
  have H8 := Lib.hid (H8.out.below hb9)
  have H9 := Lib.hid (H9.out.below hb9)
  have H10 := Lib.hid (H10.out.below hb9)
  have H11 := Lib.hid (H11.out.below hb9)
  have H13 := Lib.hid (H13.out.below hb9)
  have H16 : Hid (Byt w9 (v16) (G8)) := h16
  clear h76 h77 h78 h79 h80 h81 h82 h83 h84 h85 h86 h75 h87 h88 h15 h16 hb9
  refine wpList_nil ?_
  go_simp
  go_upto_region 12 with (fail)
  refine wp_region_see 14 [90, 91, 92, 93, 94, 95, 96, 97, 98, 99, 100, 101, 102, 6] [(90, .byt (G8)), (91, .is (.string (sOf (G8)))), (92, .byt (p)), (93, .byt (q)), (94, .byt (U)), (95, .byt (E1)), (96, .byt (r)), (97, .byt (G8)), (98, .is (.string (sOf (G8)))), (99, .is (.bool true)), (100, .is (.bool true)), (101, .is (.bool true)), (102, .is (.bool true)), (6, .is (.bool true))] (by kernel_rfl) (by kernel_rfl) (by rfl) ?_ ?_
  · refine seeOps_cons ?_ (seeOps_cons ?_ (seeOps_cons ?_ (seeOps_cons ?_ (seeOps_cons ?_ (seeOps_cons ?_ (seeOps_cons ?_ (seeOps_cons ?_ (seeOps_cons ?_ (seeOps_cons ?_ (seeOps_cons ?_ (seeOps_cons ?_ (seeOps_cons ?_ (seeOps_cons ?_ seeOps_nil)))))))))))))
    · intro w2 hb2 fr hout hin
      have h16 : Byt w2 (fr.tmps.getD 16 undef) (G8) := by
        have e : fr.tmps.getD 16 undef = v16 := hout 16 (by decide)
        rw [e]; exact H16.out.below hb2
      exact relStep_move (.tmp 16) rfl (wanted_none rfl) h16
    · intro w2 hb2 fr hout hin
      have h90 : Byt w2 (fr.tmps.getD 90 undef) (G8) := hin 90 (by decide) (by decide)
      exact op_str (.tmp 90) rfl h90 (wanted_none rfl) rfl
    · intro w2 hb2 fr hout hin
      have h8 : Byt w2 (fr.tmps.getD 8 undef) (p) := by
        have e : fr.tmps.getD 8 undef = v8 := hout 8 (by decide)
        rw [e]; exact H8.out.below hb2
      exact relStep_move (.tmp 8) rfl (wanted_none rfl) h8
    · intro w2 hb2 fr hout hin
      have h9 : Byt w2 (fr.tmps.getD 9 undef) (q) := by
        have e : fr.tmps.getD 9 undef = v9 := hout 9 (by decide)
        rw [e]; exact H9.out.below hb2
      exact relStep_move (.tmp 9) rfl (wanted_none rfl) h9
    · intro w2 hb2 fr hout hin
      have h92 : Byt w2 (fr.tmps.getD 92 undef) (p) := hin 92 (by decide) (by decide)
      have h93 : Byt w2 (fr.tmps.getD 93 undef) (q) := hin 93 (by decide) (by decide)
      exact op_call2 (.tmp 92) (.tmp 93) rfl en_mul (wanted_none rfl) (by have k := (mul_v _ h92 h93 (by have := HLp.out; omega) (by have := HLq.out; omega)); rw [Ecc.out] at k; exact k) (fun _ _ h => h)
    · intro w2 hb2 fr hout hin
      have h10 : Byt w2 (fr.tmps.getD 10 undef) (E1) := by
        have e : fr.tmps.getD 10 undef = v10 := hout 10 (by decide)
        rw [e]; exact H10.out.below hb2
      exact relStep_move (.tmp 10) rfl (wanted_none rfl) h10
    · intro w2 hb2 fr hout hin
      have h7 : Byt w2 (fr.tmps.getD 7 undef) (r) := by
        have e : fr.tmps.getD 7 undef = v7 := hout 7 (by decide)
        rw [e]; exact H7.out.below hb2
      exact relStep_move (.tmp 7) rfl (wanted_none rfl) h7
    · intro w2 hb2 fr hout hin
      have h94 : Byt w2 (fr.tmps.getD 94 undef) (U) := hin 94 (by decide) (by decide)
      have h95 : Byt w2 (fr.tmps.getD 95 undef) (E1) := hin 95 (by decide) (by decide)
      have h96 : Byt w2 (fr.tmps.getD 96 undef) (r) := hin 96 (by decide) (by decide)
      exact op_call3 (.tmp 94) (.tmp 95) (.tmp 96) rfl en_exp (wanted_none rfl) (by have k := (exp_v _ h94 h95 h96 (by have := HLU.out; omega) (by have := HLE1.out; omega) (by have := HLr.out; omega) HPOS.out); rw [Ecd.out] at k; exact k) (fun _ _ h => h)
    · intro w2 hb2 fr hout hin
      have h97 : Byt w2 (fr.tmps.getD 97 undef) (G8) := hin 97 (by decide) (by decide)
      exact op_str (.tmp 97) rfl h97 (wanted_none rfl) rfl
    · intro w2 hb2 fr hout hin
      have h91 : fr.tmps.getD 91 undef = .string (sOf (G8)) := hin 91 (by decide) (by decide)
      have h98 : fr.tmps.getD 98 undef = .string (sOf (G8)) := hin 98 (by decide) (by decide)
      exact op_eqS (.tmp 91) (.tmp 98) _ rfl h91 h98 (wanted_none rfl) rfl
    · intro w2 hb2 fr hout hin
      have h99 : fr.tmps.getD 99 undef = .bool true := hin 99 (by decide) (by decide)
      exact relStep_move (.tmp 99) rfl (wanted_none rfl) h99
    · intro w2 hb2 fr hout hin
      have h100 : fr.tmps.getD 100 undef = .bool true := hin 100 (by decide) (by decide)
      exact op_call0 rfl en_wakes (wanted_some (g := 10) (t := 100) (b := true) rfl rfl h100) (nwakes_v _) (fun _ _ h => h)
    · intro w2 hb2 fr hout hin
      have h100 : fr.tmps.getD 100 undef = .bool true := hin 100 (by decide) (by decide)
      have h101 : fr.tmps.getD 101 undef = .bool true := hin 101 (by decide) (by decide)
      exact relStep_pick (.tmp 100) (.tmp 101) (.const (.bool false)) rfl h100 (wanted_none rfl) h101
    · intro w2 hb2 fr hout hin
      have h102 : fr.tmps.getD 102 undef = .bool true := hin 102 (by decide) (by decide)
      exact relStep_assign (.tmp 102) rfl (wanted_none rfl) h102
  intro w10 hb10
  refine relAsk_in (by rfl) ?_
  intro v90 h90
  refine relAsk_in (by rfl) ?_
  intro v91 h91
  obtain rfl : v91 = .string (sOf (G8)) := h91
  refine relAsk_in (by rfl) ?_
  intro v92 h92
  refine relAsk_in (by rfl) ?_
  intro v93 h93
  refine relAsk_in (by rfl) ?_
  intro v94 h94
  refine relAsk_in (by rfl) ?_
  intro v95 h95
  refine relAsk_in (by rfl) ?_
  intro v96 h96
  refine relAsk_in (by rfl) ?_
  intro v97 h97
  refine relAsk_in (by rfl) ?_
  intro v98 h98
  obtain rfl : v98 = .string (sOf (G8)) := h98
  refine relAsk_in (by rfl) ?_
  intro v99 h99
  obtain rfl : v99 = .bool true := h99
  refine relAsk_in (by rfl) ?_
  intro v100 h100
  obtain rfl : v100 = .bool true := h100
  refine relAsk_in (by rfl) ?_
  intro v101 h101
  obtain rfl : v101 = .bool true := h101
  refine relAsk_in (by rfl) ?_
  intro v102 h102
  obtain rfl : v102 = .bool true := h102
  refine relAsk_in (by rfl) ?_
  intro v6 h6
  obtain rfl : v6 = .bool true := h6
  refine relAsk_nil ?_
  have RA := Lib.hid (RA.out.below hb10)
  have RB := Lib.hid (RB.out.below hb10)
  have RM := Lib.hid (RM.out.below hb10)
  have HX := Lib.hid (HX.out.below hb10)
  have HW := Lib.hid (HW.out.trans (hb10.mono HW.out.size))
  have H7 := Lib.hid (H7.out.below hb10)
  have H8 := Lib.hid (H8.out.below hb10)
  have H9 := Lib.hid (H9.out.below hb10)
  have H10 := Lib.hid (H10.out.below hb10)
  have H11 := Lib.hid (H11.out.below hb10)
  have H13 := Lib.hid (H13.out.below hb10)
  have H16 := Lib.hid (H16.out.below hb10)
  clear h90 h92 h93 h94 h95 h96 h97 hb10
  refine wpList_nil ?_
  go_simp
  go_wp2_with fail
  go_ret
  exact ⟨rfl, HW.out⟩

set_option maxRecDepth 100000 in
set_option maxHeartbeats 12800000 in
theorem chain_zero {A B M : Option Addr} {ca cb cm : Nat} {i wide : Int} {xs ys zs : List Nat} (w : World) (hA : Rd .u8 w A ca xs) (dA : Ds 256 xs) (hB : Rd .u8 w B cb ys) (dB : Ds 256 ys) (hM : Rd .u8 w M cm zs) (dM : Ds 256 zs) {e f : Nat} (he : e < 18446744073709551616) (hf : f < 18446744073709551616) (h0 : nv (zs.take 40) = 0) :
    Calls Try.prog 16 #[.agg #[.slice A xs.length ca, .slice B ys.length cb, .slice M zs.length cm, .int .i64 i, .int .i64 wide], .int .u64 (e : Nat), .int .u64 (f : Nat)] w (RetV (.bool true) w) := by
  have ltp : nv (xs.take 40) < 256 ^ 40 := nv_take dA 40
  have ltq : nv (ys.take 40) < 256 ^ 40 := nv_take dB 40
  have ltr : nv (zs.take 40) < 256 ^ 40 := nv_take dM 40
  obtain ⟨p, hp⟩ : ∃ zz, zz = xs.take 40 := ⟨_, rfl⟩
  have hlp : p.length ≤ 40 := by rw [hp, List.length_take]; omega
  have ttp : ∀ (w : World) {u : Value}, Byt w u xs → Calls Try.prog 19 #[u, .int .i64 40] w (RetR (fun w' v => Byt w' v p) w) := fun w u h => by rw [hp]; exact twin_v w h 40 (by decide) (by decide)
  have TTp40 := Lib.hid ttp
  have HLp := Lib.hid hlp
  have Hp := Lib.hid hp
  clear hlp ttp hp
  obtain ⟨q, hq⟩ : ∃ zz, zz = ys.take 40 := ⟨_, rfl⟩
  have hlq : q.length ≤ 40 := by rw [hq, List.length_take]; omega
  have ttq : ∀ (w : World) {u : Value}, Byt w u ys → Calls Try.prog 19 #[u, .int .i64 40] w (RetR (fun w' v => Byt w' v q) w) := fun w u h => by rw [hq]; exact twin_v w h 40 (by decide) (by decide)
  have TTq40 := Lib.hid ttq
  have HLq := Lib.hid hlq
  have Hq := Lib.hid hq
  clear hlq ttq hq
  obtain ⟨r, hr⟩ : ∃ zz, zz = zs.take 40 := ⟨_, rfl⟩
  have hlr : r.length ≤ 40 := by rw [hr, List.length_take]; omega
  have ttr : ∀ (w : World) {u : Value}, Byt w u zs → Calls Try.prog 19 #[u, .int .i64 40] w (RetR (fun w' v => Byt w' v r) w) := fun w u h => by rw [hr]; exact twin_v w h 40 (by decide) (by decide)
  have TTr40 := Lib.hid ttr
  have HLr := Lib.hid hlr
  have Hr := Lib.hid hr
  clear hlr ttr hr
  rw [← Hp.out] at ltp
  rw [← Hq.out] at ltq
  rw [← Hr.out] at ltr h0
  have HEe := Lib.hid he
  have HEf := Lib.hid hf
  have lte : e < 256 ^ 8 := he
  have ltf : f < 256 ^ 8 := hf
  obtain ⟨P6, hP6⟩ : ∃ zz, zz = xs.take 600 := ⟨_, rfl⟩
  have hlP6 : P6.length ≤ 600 := by rw [hP6, List.length_take]; omega
  have ffP6 : ∀ (w : World) {u : Value}, Byt w u xs → Calls Try.prog 75 #[u] w (RetR (fun w' v => Byt w' v P6) w) := fun w u h => by rw [hP6]; exact few_v w h
  have HLP6 := Lib.hid hlP6
  have FFP6 := Lib.hid ffP6
  have HP6 := Lib.hid hP6
  clear hlP6 ffP6 hP6
  obtain ⟨Q6, hQ6⟩ : ∃ zz, zz = ys.take 600 := ⟨_, rfl⟩
  have hlQ6 : Q6.length ≤ 600 := by rw [hQ6, List.length_take]; omega
  have ffQ6 : ∀ (w : World) {u : Value}, Byt w u ys → Calls Try.prog 75 #[u] w (RetR (fun w' v => Byt w' v Q6) w) := fun w u h => by rw [hQ6]; exact few_v w h
  have HLQ6 := Lib.hid hlQ6
  have FFQ6 := Lib.hid ffQ6
  have HQ6 := Lib.hid hQ6
  clear hlQ6 ffQ6 hQ6
  have Ec0 : Hid (nb (nv r) = ([] : List Nat)) := by show _ = _; rw [h0]; exact nb_zero
  have HZ := Lib.hid h0
  clear h0 he hf lte ltf ltp ltq ltr
  obtain ⟨L, hL⟩ : ∃ L, L = xs.length := ⟨_, rfl⟩
  obtain ⟨K, hK⟩ : ∃ K, K = ys.length := ⟨_, rfl⟩
  obtain ⟨J, hJ⟩ : ∃ J, J = zs.length := ⟨_, rfl⟩
  have rA : Byt w (.slice A L ca) xs := ⟨A, ca, by rw [hL], hA, dA⟩
  have rB : Byt w (.slice B K cb) ys := ⟨B, cb, by rw [hK], hB, dB⟩
  have rM : Byt w (.slice M J cm) zs := ⟨M, cm, by rw [hJ], hM, dM⟩
  rw [← hL, ← hK, ← hJ]
  have hW := (Below.refl w.heap.size w).alloc (Nat.le_refl _) (.cells #[.slice A L ca, .slice B K cb, .slice M J cm, .int .i64 i, .int .i64 wide] 51)
  have hx := Box5.new w (.slice A L ca) (.slice B K cb) (.slice M J cm) (.int .i64 i) (.int .i64 wide) 51
  have RA := Lib.hid (rA.below hW)
  have RB := Lib.hid (rB.below hW)
  have RM := Lib.hid (rM.below hW)
  have HX := Lib.hid hx
  have HW := Lib.hid hW
  clear hA dA hB dB hM dM hL hK hJ rA rB rM hW hx
  go_enter Try.func16, Try.ntmps16
  go_upto_region 1 with (fail)
  generalize hX : w.alloc (.cells #[.slice A L ca, .slice B K cb, .slice M J cm, .int .i64 i, .int .i64 wide] 51) = X at *
  clear hX
  refine wp_region_seq 4 [18, 19, 20, 7] [(18, .is (.pointer (some ⟨w.heap.size, 2, none⟩))), (19, .byt (zs)), (20, .byt (r)), (7, .byt (r))] (by kernel_rfl) (by rfl) ?_ ?_
  · refine seeOps_cons ?_ (seeOps_cons ?_ (seeOps_cons ?_ (seeOps_cons ?_ seeOps_nil)))
    · intro w2 hb2 fr hout hin
      have h3 : fr.tmps.getD 3 undef = .pointer (some ⟨w.heap.size, 0, none⟩) := hout 3 (by decide)
      exact op_fieldN (.tmp 3) rfl (by decide) h3 (wanted_none rfl) rfl
    · intro w2 hb2 fr hout hin
      have h18 : fr.tmps.getD 18 undef = .pointer (some ⟨w.heap.size, 2, none⟩) := hin 18 (by decide) (by decide)
      exact op_load1 (.tmp 18) rfl (fun _ => by kernel_rfl) h18 ((HX.out.below hb2).c2) (wanted_none rfl) (RM.out.below hb2)
    · intro w2 hb2 fr hout hin
      have h19 : Byt w2 (fr.tmps.getD 19 undef) (zs) := hin 19 (by decide) (by decide)
      exact op_call2 (.tmp 19) (.const (.int .i64 40)) rfl en_twin (wanted_none rfl) (TTr40.out _ h19) (fun _ _ h => h)
    · intro w2 hb2 fr hout hin
      have h20 : Byt w2 (fr.tmps.getD 20 undef) (r) := hin 20 (by decide) (by decide)
      exact relStep_assign (.tmp 20) rfl (wanted_none rfl) h20
  intro w1 hb1
  refine relAsk_in (by rfl) ?_
  intro v18 h18
  obtain rfl : v18 = .pointer (some ⟨w.heap.size, 2, none⟩) := h18
  refine relAsk_in (by rfl) ?_
  intro v19 h19
  refine relAsk_in (by rfl) ?_
  intro v20 h20
  refine relAsk_in (by rfl) ?_
  intro v7 h7
  refine relAsk_nil ?_
  have RA := Lib.hid (RA.out.below hb1)
  have RB := Lib.hid (RB.out.below hb1)
  have RM := Lib.hid (RM.out.below hb1)
  have HX := Lib.hid (HX.out.below hb1)
  have HW := Lib.hid (HW.out.trans (hb1.mono HW.out.size))
  have H7 : Hid (Byt w1 (v7) (r)) := h7
  clear h19 h20 h7 hb1
  refine wpList_nil ?_
  go_simp
  go_upto_region 2 with (fail)
  refine wp_region_seq 4 [21, 22, 23, 24] [(21, .byt (r)), (22, .byt (([] : List Nat))), (23, .is (.int .i64 (((([] : List Nat)).length : Nat) : Int))), (24, .is (.bool true))] (by kernel_rfl) (by rfl) ?_ ?_
  · refine seeOps_cons ?_ (seeOps_cons ?_ (seeOps_cons ?_ (seeOps_cons ?_ seeOps_nil)))
    · intro w2 hb2 fr hout hin
      have h7 : Byt w2 (fr.tmps.getD 7 undef) (r) := by
        have e : fr.tmps.getD 7 undef = v7 := hout 7 (by decide)
        rw [e]; exact H7.out.below hb2
      exact relStep_move (.tmp 7) rfl (wanted_none rfl) h7
    · intro w2 hb2 fr hout hin
      have h21 : Byt w2 (fr.tmps.getD 21 undef) (r) := hin 21 (by decide) (by decide)
      exact op_call1 (.tmp 21) rfl en_trim (wanted_none rfl) (by have k := (trim_v _ h21 (by have := HLr.out; omega)); rw [Ec0.out] at k; exact k) (fun _ _ h => h)
    · intro w2 hb2 fr hout hin
      have h22 : Byt w2 (fr.tmps.getD 22 undef) (([] : List Nat)) := hin 22 (by decide) (by decide)
      exact op_len (bs := (([] : List Nat))) (.tmp 22) rfl h22 (wanted_none rfl) rfl
    · intro w2 hb2 fr hout hin
      have h23 : fr.tmps.getD 23 undef = .int .i64 (((([] : List Nat)).length : Nat) : Int) := hin 23 (by decide) (by decide)
      exact op_cmp .eql (.tmp 23) (.const (.int .i64 0)) _ rfl h23 rfl (fun w => by go_simp) (wanted_none rfl) rfl
  intro w2 hb2
  refine relAsk_in (by rfl) ?_
  intro v21 h21
  refine relAsk_in (by rfl) ?_
  intro v22 h22
  refine relAsk_in (by rfl) ?_
  intro v23 h23
  obtain rfl : v23 = .int .i64 (((([] : List Nat)).length : Nat) : Int) := h23
  refine relAsk_in (by rfl) ?_
  intro v24 h24
  obtain rfl : v24 = .bool true := h24
  refine relAsk_nil ?_
  have RA := Lib.hid (RA.out.below hb2)
  have RB := Lib.hid (RB.out.below hb2)
  have RM := Lib.hid (RM.out.below hb2)
  have HX := Lib.hid (HX.out.below hb2)
  have HW := Lib.hid (HW.out.trans (hb2.mono HW.out.size))
  have H7 := Lib.hid (H7.out.below hb2)
  clear h21 h22 hb2
  refine wpList_nil ?_
  go_simp
  go_upto_region 3 with (fail)
  refine wp_region_see 14 [25, 26, 27, 28, 29, 30, 31, 32, 33, 34, 35, 36, 37, 6] [(25, .is (.pointer (some ⟨w.heap.size, 0, none⟩))), (26, .byt (xs)), (27, .byt (P6)), (28, .is (.pointer (some ⟨w.heap.size, 1, none⟩))), (29, .byt (ys)), (30, .byt (Q6)), (31, .byt (r)), (32, .is (.slice none 0 0)), (33, .is (.int .i64 0)), (34, .is (.bool true)), (35, .is (.bool true)), (36, .is (.bool true)), (37, .is (.bool true)), (6, .is (.bool true))] (by kernel_rfl) (by kernel_rfl) (by rfl) ?_ ?_
  · refine seeOps_cons ?_ (seeOps_cons ?_ (seeOps_cons ?_ (seeOps_cons ?_ (seeOps_cons ?_ (seeOps_cons ?_ (seeOps_cons ?_ (seeOps_cons ?_ (seeOps_cons ?_ (seeOps_cons ?_ (seeOps_cons ?_ (seeOps_cons ?_ (seeOps_cons ?_ (seeOps_cons ?_ seeOps_nil)))))))))))))
    · intro w2 hb2 fr hout hin
      have h3 : fr.tmps.getD 3 undef = .pointer (some ⟨w.heap.size, 0, none⟩) := hout 3 (by decide)
      exact op_fieldN (.tmp 3) rfl (by decide) h3 (wanted_none rfl) rfl
    · intro w2 hb2 fr hout hin
      have h25 : fr.tmps.getD 25 undef = .pointer (some ⟨w.heap.size, 0, none⟩) := hin 25 (by decide) (by decide)
      exact op_load1 (.tmp 25) rfl (fun _ => by kernel_rfl) h25 ((HX.out.below hb2).c0) (wanted_none rfl) (RA.out.below hb2)
    · intro w2 hb2 fr hout hin
      have h26 : Byt w2 (fr.tmps.getD 26 undef) (xs) := hin 26 (by decide) (by decide)
      exact op_call1 (.tmp 26) rfl en_few (wanted_none rfl) (FFP6.out _ h26) (fun _ _ h => h)
    · intro w2 hb2 fr hout hin
      have h3 : fr.tmps.getD 3 undef = .pointer (some ⟨w.heap.size, 0, none⟩) := hout 3 (by decide)
      exact op_fieldN (.tmp 3) rfl (by decide) h3 (wanted_none rfl) rfl
    · intro w2 hb2 fr hout hin
      have h28 : fr.tmps.getD 28 undef = .pointer (some ⟨w.heap.size, 1, none⟩) := hin 28 (by decide) (by decide)
      exact op_load1 (.tmp 28) rfl (fun _ => by kernel_rfl) h28 ((HX.out.below hb2).c1) (wanted_none rfl) (RB.out.below hb2)
    · intro w2 hb2 fr hout hin
      have h29 : Byt w2 (fr.tmps.getD 29 undef) (ys) := hin 29 (by decide) (by decide)
      exact op_call1 (.tmp 29) rfl en_few (wanted_none rfl) (FFQ6.out _ h29) (fun _ _ h => h)
    · intro w2 hb2 fr hout hin
      have h7 : Byt w2 (fr.tmps.getD 7 undef) (r) := by
        have e : fr.tmps.getD 7 undef = v7 := hout 7 (by decide)
        rw [e]; exact H7.out.below hb2
      exact relStep_move (.tmp 7) rfl (wanted_none rfl) h7
    · intro w2 hb2 fr hout hin
      have h27 : Byt w2 (fr.tmps.getD 27 undef) (P6) := hin 27 (by decide) (by decide)
      have h30 : Byt w2 (fr.tmps.getD 30 undef) (Q6) := hin 30 (by decide) (by decide)
      have h31 : Byt w2 (fr.tmps.getD 31 undef) (r) := hin 31 (by decide) (by decide)
      exact op_call3 (.tmp 27) (.tmp 30) (.tmp 31) rfl en_exp (wanted_none rfl) (expno_v _ h27 h30 h31 (by have := HLr.out; omega) HZ.out) (fun _ _ h => h)
    · intro w2 hb2 fr hout hin
      have h32 : fr.tmps.getD 32 undef = .slice none 0 0 := hin 32 (by decide) (by decide)
      exact op_len (bs := (([] : List Nat))) (.tmp 32) rfl (by show Byt _ (fr.tmps.getD 32 undef) []; rw [h32]; exact Byt.nil _) (wanted_none rfl) rfl
    · intro w2 hb2 fr hout hin
      have h33 : fr.tmps.getD 33 undef = .int .i64 0 := hin 33 (by decide) (by decide)
      exact op_eqI (.tmp 33) (.const (.int .i64 0)) _ rfl h33 rfl (wanted_none rfl) rfl
    · intro w2 hb2 fr hout hin
      have h34 : fr.tmps.getD 34 undef = .bool true := hin 34 (by decide) (by decide)
      exact relStep_move (.tmp 34) rfl (wanted_none rfl) h34
    · intro w2 hb2 fr hout hin
      have h35 : fr.tmps.getD 35 undef = .bool true := hin 35 (by decide) (by decide)
      exact op_call0 rfl en_wakes (wanted_some (g := 10) (t := 35) (b := true) rfl rfl h35) (nwakes_v _) (fun _ _ h => h)
    · intro w2 hb2 fr hout hin
      have h35 : fr.tmps.getD 35 undef = .bool true := hin 35 (by decide) (by decide)
      have h36 : fr.tmps.getD 36 undef = .bool true := hin 36 (by decide) (by decide)
      exact relStep_pick (.tmp 35) (.tmp 36) (.const (.bool false)) rfl h35 (wanted_none rfl) h36
    · intro w2 hb2 fr hout hin
      have h37 : fr.tmps.getD 37 undef = .bool true := hin 37 (by decide) (by decide)
      exact relStep_assign (.tmp 37) rfl (wanted_none rfl) h37
  intro w3 hb3
  refine relAsk_in (by rfl) ?_
  intro v25 h25
  obtain rfl : v25 = .pointer (some ⟨w.heap.size, 0, none⟩) := h25
  refine relAsk_in (by rfl) ?_
  intro v26 h26
  refine relAsk_in (by rfl) ?_
  intro v27 h27
  refine relAsk_in (by rfl) ?_
  intro v28 h28
  obtain rfl : v28 = .pointer (some ⟨w.heap.size, 1, none⟩) := h28
  refine relAsk_in (by rfl) ?_
  intro v29 h29
  refine relAsk_in (by rfl) ?_
  intro v30 h30
  refine relAsk_in (by rfl) ?_
  intro v31 h31
  refine relAsk_in (by rfl) ?_
  intro v32 h32
  obtain rfl : v32 = .slice none 0 0 := h32
  refine relAsk_in (by rfl) ?_
  intro v33 h33
  obtain rfl : v33 = .int .i64 0 := h33
  refine relAsk_in (by rfl) ?_
  intro v34 h34
  obtain rfl : v34 = .bool true := h34
  refine relAsk_in (by rfl) ?_
  intro v35 h35
  obtain rfl : v35 = .bool true := h35
  refine relAsk_in (by rfl) ?_
  intro v36 h36
  obtain rfl : v36 = .bool true := h36
  refine relAsk_in (by rfl) ?_
  intro v37 h37
  obtain rfl : v37 = .bool true := h37
  refine relAsk_in (by rfl) ?_
  intro v6 h6
  obtain rfl : v6 = .bool true := h6
  refine relAsk_nil ?_
  have RA := Lib.hid (RA.out.below hb3)
  have RB := Lib.hid (RB.out.below hb3)
  have RM := Lib.hid (RM.out.below hb3)
  have HX := Lib.hid (HX.out.below hb3)
  have HW := Lib.hid (HW.out.trans (hb3.mono HW.out.size))
  have H7 := Lib.hid (H7.out.below hb3)
  clear h26 h27 h29 h30 h31 hb3
  refine wpList_nil ?_
  go_simp
  go_wp2_with fail
  go_ret
  exact ⟨rfl, HW.out⟩

theorem natChain_c {A B M : Option Addr} {ca cb cm : Nat} {i wide : Int} {xs ys zs : List Nat} (w : World) (hA : Rd .u8 w A ca xs) (dA : Ds 256 xs) (hB : Rd .u8 w B cb ys) (dB : Ds 256 ys) (hM : Rd .u8 w M cm zs) (dM : Ds 256 zs) {e f : Nat} (he : e < 18446744073709551616) (hf : f < 18446744073709551616) :
    Calls Try.prog 16 #[.agg #[.slice A xs.length ca, .slice B ys.length cb, .slice M zs.length cm, .int .i64 i, .int .i64 wide], .int .u64 (e : Nat), .int .u64 (f : Nat)] w (RetV (.bool true) w) := by
  rcases Nat.eq_zero_or_pos (nv (zs.take 40)) with h | h
  · exact chain_zero w hA dA hB dB hM dM he hf h
  · exact chain_pos w hA dA hB dB hM dM he hf h
end Go.Proofs.Ytkalmmpgcgempaa
