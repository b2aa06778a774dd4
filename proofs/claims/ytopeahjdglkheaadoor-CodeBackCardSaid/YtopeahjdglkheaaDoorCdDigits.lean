/- Package quarryref18: Digits, a number in decimal. (Written by wip/gencddig.py.) -/
import Derived.Test.YtopeahjdglkheaaDoorCdOps
namespace Go.Proofs.YtopeahjdglkheaaDoor
open Go.RowKit

/-- A number's decimal digits; the first argument is large enough (a number below 10 ^ (k + 1)). -/
def decF : Nat → Nat → List Nat
  | 0, n => [48 + n % 10]
  | k + 1, n => if n < 10 then [48 + n] else decF k (n / 10) ++ [48 + n % 10]
def decL (n : Nat) : List Nat := decF 9 n
theorem sOf_append (a b : List Nat) : sOf a ++ sOf b = sOf (a ++ b) := by
  apply ByteArray.ext
  apply Array.toList_inj.1
  simp [sOf, strOfNums, ByteArray.data_append]
theorem sOf_size (a : List Nat) : (sOf a).size = a.length := by simp [sOf, strOfNums_size]
theorem decF_len : ∀ k n, (decF k n).length ≤ k + 1
  | 0, _ => by simp [decF]
  | k + 1, n => by
    rw [decF]
    split
    · simp
    · rw [List.length_append]
      have := decF_len k (n / 10)
      simp
      omega
theorem decF_small {n : Nat} (h : n < 10) : ∀ k, decF k n = [48 + n]
  | 0 => by rw [decF, Nat.mod_eq_of_lt h]
  | k + 1 => by rw [decF, if_pos h]
theorem en_rDigits (args : Array Value) (w : World) : (callFunc 26 args).run Tryd.prog w = .ok (.enter 26 args) w := by go_simp

set_option maxRecDepth 100000 in
set_option maxHeartbeats 12800000 in
theorem rdigits_k : ∀ (k n : Nat), k < 10 → n < 10 ^ (k + 1) → ∀ w : World, Calls Tryd.prog 26 #[.int .i64 (n : Nat)] w (RetV (.string (sOf (decF k n))) w) := by
  intro k
  induction k with
  | zero =>
    intro n _ hn w
    have hn : n < 10 := by omega
    rw [decF_small hn]
    obtain ⟨m, hm⟩ : ∃ m, m = 48 + n := ⟨_, rfl⟩
    rw [← hm]
    have A1 : Hid (IntKind.i64.wrap (48 + (n : Int)) = (m : Int)) := by show _ = _; rw [IntWalk.i64_in _ (by omega)]; omega
    have A2 : Hid (IntKind.u8.wrap (m : Int) = (m : Int)) := by show _ = _; rw [IntKind.wrap_u8]; omega
    have A3 : Hid (m < 256) := by show m < 256; omega
    have h0 : (n : Int) < 10 := by omega
    clear hm hn
    go_enter Tryd.func26, Tryd.ntmps26
    go_upto_region 2 with (fail)
    refine wp_region_seq 6 [5, 6, 7, 8, 9, 2] [(5, .is (.int .i64 (n : Nat))), (6, .is (.int .i64 (m : Nat))), (7, .is (.int .u8 (m : Nat))), (8, .byt [m]), (9, .is (.string (sOf [m]))), (2, .is (.string (sOf [m])))] (by kernel_rfl) (by rfl) ?_ ?_
    · refine seeOps_cons ?_ (seeOps_cons ?_ (seeOps_cons ?_ (seeOps_cons ?_ (seeOps_cons ?_ (seeOps_cons ?_ seeOps_nil)))))
      · intro w9 hb9 fr hout hin
        have h0 : fr.tmps.getD 0 undef = .int .i64 (n : Nat) := hout 0 (by decide)
        clear hout hin
        exact relStep_move (.tmp 0) rfl (wanted_none rfl) (by show fr.tmps.getD 0 undef = _; rw [h0])
      · intro w9 hb9 fr hout hin
        have h5 : fr.tmps.getD 5 undef = .int .i64 (n : Nat) := hin 5 (by decide) (by decide)
        clear hout hin
        exact cd_bin .add 3 (.const (.int .i64 48)) (.tmp 5) _ rfl rfl h5 (fun w => by go_simp) (fun w => by rw [← A1.out]; go_simp) (wanted_none rfl) rfl
      · intro w9 hb9 fr hout hin
        have h6 : fr.tmps.getD 6 undef = .int .i64 (m : Nat) := hin 6 (by decide) (by decide)
        clear hout hin
        exact cd_to8 (.tmp 6) rfl h6 (wanted_none rfl) (congrArg (Value.int .u8) A2.out)
      · intro w9 hb9 fr hout hin
        have h7 : fr.tmps.getD 7 undef = .int .u8 (m : Nat) := hin 7 (by decide) (by decide)
        clear hout hin
        exact cd_bld1 (.tmp 7) rfl h7 A3.out (wanted_none rfl) (fun _ _ h => h)
      · intro w9 hb9 fr hout hin
        have h8 : Byt w9 (fr.tmps.getD 8 undef) [m] := hin 8 (by decide) (by decide)
        clear hout hin
        exact op_str (.tmp 8) rfl h8 (wanted_none rfl) rfl
      · intro w9 hb9 fr hout hin
        have h9 : fr.tmps.getD 9 undef = .string (sOf [m]) := hin 9 (by decide) (by decide)
        clear hout hin
        exact relStep_assign (.tmp 9) rfl (wanted_none rfl) (by show fr.tmps.getD 9 undef = _; rw [h9])
    intro X9 hb9
    refine relAsk_in (by rfl) ?_
    intro v5 h5
    obtain rfl : v5 = .int .i64 (n : Nat) := h5
    refine relAsk_in (by rfl) ?_
    intro v6 h6
    obtain rfl : v6 = .int .i64 (m : Nat) := h6
    refine relAsk_in (by rfl) ?_
    intro v7 h7
    obtain rfl : v7 = .int .u8 (m : Nat) := h7
    refine relAsk_in (by rfl) ?_
    intro v8 h8
    refine relAsk_in (by rfl) ?_
    intro v9 h9
    obtain rfl : v9 = .string (sOf [m]) := h9
    refine relAsk_in (by rfl) ?_
    intro v2 h2
    obtain rfl : v2 = .string (sOf [m]) := h2
    refine relAsk_nil ?_
    refine wpList_nil ?_
    clear h8
    go_simp
    go_wp2_with fail
    go_ret
    exact ⟨rfl, hb9⟩
  | succ k ih =>
    intro n hk hn w
    by_cases h10 : n < 10
    · rw [decF_small h10]
      obtain ⟨m, hm⟩ : ∃ m, m = 48 + n := ⟨_, rfl⟩
      rw [← hm]
      have A1 : Hid (IntKind.i64.wrap (48 + (n : Int)) = (m : Int)) := by show _ = _; rw [IntWalk.i64_in _ (by omega)]; omega
      have A2 : Hid (IntKind.u8.wrap (m : Int) = (m : Int)) := by show _ = _; rw [IntKind.wrap_u8]; omega
      have A3 : Hid (m < 256) := by show m < 256; omega
      have h0 : (n : Int) < 10 := by omega
      clear hm hn h10 ih hk
      go_enter Tryd.func26, Tryd.ntmps26
      go_upto_region 2 with (fail)
      refine wp_region_seq 6 [5, 6, 7, 8, 9, 2] [(5, .is (.int .i64 (n : Nat))), (6, .is (.int .i64 (m : Nat))), (7, .is (.int .u8 (m : Nat))), (8, .byt [m]), (9, .is (.string (sOf [m]))), (2, .is (.string (sOf [m])))] (by kernel_rfl) (by rfl) ?_ ?_
      · refine seeOps_cons ?_ (seeOps_cons ?_ (seeOps_cons ?_ (seeOps_cons ?_ (seeOps_cons ?_ (seeOps_cons ?_ seeOps_nil)))))
        · intro w9 hb9 fr hout hin
          have h0 : fr.tmps.getD 0 undef = .int .i64 (n : Nat) := hout 0 (by decide)
          clear hout hin
          exact relStep_move (.tmp 0) rfl (wanted_none rfl) (by show fr.tmps.getD 0 undef = _; rw [h0])
        · intro w9 hb9 fr hout hin
          have h5 : fr.tmps.getD 5 undef = .int .i64 (n : Nat) := hin 5 (by decide) (by decide)
          clear hout hin
          exact cd_bin .add 3 (.const (.int .i64 48)) (.tmp 5) _ rfl rfl h5 (fun w => by go_simp) (fun w => by rw [← A1.out]; go_simp) (wanted_none rfl) rfl
        · intro w9 hb9 fr hout hin
          have h6 : fr.tmps.getD 6 undef = .int .i64 (m : Nat) := hin 6 (by decide) (by decide)
          clear hout hin
          exact cd_to8 (.tmp 6) rfl h6 (wanted_none rfl) (congrArg (Value.int .u8) A2.out)
        · intro w9 hb9 fr hout hin
          have h7 : fr.tmps.getD 7 undef = .int .u8 (m : Nat) := hin 7 (by decide) (by decide)
          clear hout hin
          exact cd_bld1 (.tmp 7) rfl h7 A3.out (wanted_none rfl) (fun _ _ h => h)
        · intro w9 hb9 fr hout hin
          have h8 : Byt w9 (fr.tmps.getD 8 undef) [m] := hin 8 (by decide) (by decide)
          clear hout hin
          exact op_str (.tmp 8) rfl h8 (wanted_none rfl) rfl
        · intro w9 hb9 fr hout hin
          have h9 : fr.tmps.getD 9 undef = .string (sOf [m]) := hin 9 (by decide) (by decide)
          clear hout hin
          exact relStep_assign (.tmp 9) rfl (wanted_none rfl) (by show fr.tmps.getD 9 undef = _; rw [h9])
      intro X9 hb9
      refine relAsk_in (by rfl) ?_
      intro v5 h5
      obtain rfl : v5 = .int .i64 (n : Nat) := h5
      refine relAsk_in (by rfl) ?_
      intro v6 h6
      obtain rfl : v6 = .int .i64 (m : Nat) := h6
      refine relAsk_in (by rfl) ?_
      intro v7 h7
      obtain rfl : v7 = .int .u8 (m : Nat) := h7
      refine relAsk_in (by rfl) ?_
      intro v8 h8
      refine relAsk_in (by rfl) ?_
      intro v9 h9
      obtain rfl : v9 = .string (sOf [m]) := h9
      refine relAsk_in (by rfl) ?_
      intro v2 h2
      obtain rfl : v2 = .string (sOf [m]) := h2
      refine relAsk_nil ?_
      refine wpList_nil ?_
      clear h8
      go_simp
      go_wp2_with fail
      go_ret
      exact ⟨rfl, hb9⟩
    · rw [decF, if_neg h10]
      have hq : n / 10 < 10 ^ (k + 1) := by
        rw [Nat.pow_succ] at hn
        omega
      obtain ⟨S, hS⟩ : ∃ S, S = sOf (decF k (n / 10)) := ⟨_, rfl⟩
      have KD : Hid (∀ w : World, Calls Tryd.prog 26 #[.int .i64 (n / 10 : Nat)] w (RetV (.string S) w)) := fun w => by rw [hS]; exact ih (n / 10) (by omega) hq w
      have hSz : S.size ≤ k + 1 := by rw [hS, sOf_size]; exact decF_len _ _
      have hnb : n < 10000000000 := Nat.lt_of_lt_of_le hn (Nat.le_trans (Nat.pow_le_pow_right (by omega) (show k + 1 + 1 ≤ 10 by omega)) (by decide))
      obtain ⟨m, hm⟩ : ∃ m, m = 48 + n % 10 := ⟨_, rfl⟩
      rw [← hm, ← sOf_append, ← hS]
      obtain ⟨q, hq0⟩ : ∃ q, q = n / 10 := ⟨_, rfl⟩
      obtain ⟨r, hr0⟩ : ∃ r, r = n % 10 := ⟨_, rfl⟩
      rw [← hq0] at KD
      have A1 : Hid (IntKind.i64.wrap (48 + (r : Int)) = (m : Int)) := by show _ = _; rw [IntWalk.i64_in _ (by omega)]; omega
      have A2 : Hid (IntKind.u8.wrap (m : Int) = (m : Int)) := by show _ = _; rw [IntKind.wrap_u8]; omega
      have A3 : Hid (m < 256) := by show m < 256; omega
      have A4 : Hid (¬ 9223372036854775807 < S.size + (sOf [m]).size) := by show ¬ _; rw [sOf_size]; simp; omega
      have A5 : Hid (IntKind.i64.wrap ((n : Int).tdiv 10) = (q : Int)) := by show _ = _; rw [Int.tdiv_eq_ediv_of_nonneg (by omega), IntWalk.i64_in _ (by omega)]; omega
      have A6 : Hid ((n : Int).tmod 10 = (r : Int)) := by show _ = _; rw [Int.tmod_eq_emod_of_nonneg (by omega)]; omega
      have h0 : ¬ (n : Int) < 10 := by omega
      clear hm hn h10 ih hk hS hSz hq hq0 hr0 hnb
      go_enter Tryd.func26, Tryd.ntmps26
      go_upto_region 3 with (fail)
      refine wp_region_see 11 [10, 11, 12, 13, 14, 15, 16, 17, 18, 19, 2] [(10, .is (.int .i64 (n : Nat))), (11, .is (.int .i64 (q : Nat))), (12, .is (.string S)), (13, .is (.int .i64 (n : Nat))), (14, .is (.int .i64 (r : Nat))), (15, .is (.int .i64 (m : Nat))), (16, .is (.int .u8 (m : Nat))), (17, .byt [m]), (18, .is (.string (sOf [m]))), (19, .is (.string (S ++ sOf [m]))), (2, .is (.string (S ++ sOf [m])))] (by kernel_rfl) (by kernel_rfl) (by rfl) ?_ ?_
      · refine seeOps_cons ?_ (seeOps_cons ?_ (seeOps_cons ?_ (seeOps_cons ?_ (seeOps_cons ?_ (seeOps_cons ?_ (seeOps_cons ?_ (seeOps_cons ?_ (seeOps_cons ?_ (seeOps_cons ?_ (seeOps_cons ?_ seeOps_nil))))))))))
        · intro w9 hb9 fr hout hin
          have h0 : fr.tmps.getD 0 undef = .int .i64 (n : Nat) := hout 0 (by decide)
          clear hout hin
          exact relStep_move (.tmp 0) rfl (wanted_none rfl) (by show fr.tmps.getD 0 undef = _; rw [h0])
        · intro w9 hb9 fr hout hin
          have h10 : fr.tmps.getD 10 undef = .int .i64 (n : Nat) := hin 10 (by decide) (by decide)
          clear hout hin
          exact cd_bin .quo 3 (.tmp 10) (.const (.int .i64 10)) _ rfl h10 rfl (fun w => by go_simp) (fun w => by rw [← A5.out]; go_simp) (wanted_none rfl) rfl
        · intro w9 hb9 fr hout hin
          have h11 : fr.tmps.getD 11 undef = .int .i64 (q : Nat) := hin 11 (by decide) (by decide)
          clear hout hin
          exact cd_call1 (.tmp 11) rfl en_rDigits (wanted_none rfl) (by rw [show fr.eval (.tmp 11) = _ from h11]; exact (KD.out w9).mono fun _ _ h => RetV.cd h) (fun _ _ h => h)
        · intro w9 hb9 fr hout hin
          have h0 : fr.tmps.getD 0 undef = .int .i64 (n : Nat) := hout 0 (by decide)
          clear hout hin
          exact relStep_move (.tmp 0) rfl (wanted_none rfl) (by show fr.tmps.getD 0 undef = _; rw [h0])
        · intro w9 hb9 fr hout hin
          have h13 : fr.tmps.getD 13 undef = .int .i64 (n : Nat) := hin 13 (by decide) (by decide)
          clear hout hin
          exact cd_bin .rem 3 (.tmp 13) (.const (.int .i64 10)) _ rfl h13 rfl (fun w => by go_simp) (fun w => by rw [← A6.out]; go_simp) (wanted_none rfl) rfl
        · intro w9 hb9 fr hout hin
          have h14 : fr.tmps.getD 14 undef = .int .i64 (r : Nat) := hin 14 (by decide) (by decide)
          clear hout hin
          exact cd_bin .add 3 (.const (.int .i64 48)) (.tmp 14) _ rfl rfl h14 (fun w => by go_simp) (fun w => by rw [← A1.out]; go_simp) (wanted_none rfl) rfl
        · intro w9 hb9 fr hout hin
          have h15 : fr.tmps.getD 15 undef = .int .i64 (m : Nat) := hin 15 (by decide) (by decide)
          clear hout hin
          exact cd_to8 (.tmp 15) rfl h15 (wanted_none rfl) (congrArg (Value.int .u8) A2.out)
        · intro w9 hb9 fr hout hin
          have h16 : fr.tmps.getD 16 undef = .int .u8 (m : Nat) := hin 16 (by decide) (by decide)
          clear hout hin
          exact cd_bld1 (.tmp 16) rfl h16 A3.out (wanted_none rfl) (fun _ _ h => h)
        · intro w9 hb9 fr hout hin
          have h17 : Byt w9 (fr.tmps.getD 17 undef) [m] := hin 17 (by decide) (by decide)
          clear hout hin
          exact op_str (.tmp 17) rfl h17 (wanted_none rfl) rfl
        · intro w9 hb9 fr hout hin
          have h12 : fr.tmps.getD 12 undef = .string S := hin 12 (by decide) (by decide)
          have h18 : fr.tmps.getD 18 undef = .string (sOf [m]) := hin 18 (by decide) (by decide)
          clear hout hin
          exact cd_cat (.tmp 12) (.tmp 18) _ rfl h12 h18 A4.out (wanted_none rfl) rfl
        · intro w9 hb9 fr hout hin
          have h19 : fr.tmps.getD 19 undef = .string (S ++ sOf [m]) := hin 19 (by decide) (by decide)
          clear hout hin
          exact relStep_assign (.tmp 19) rfl (wanted_none rfl) (by show fr.tmps.getD 19 undef = _; rw [h19])
      intro X9 hb9
      refine relAsk_in (by rfl) ?_
      intro v10 h10
      obtain rfl : v10 = .int .i64 (n : Nat) := h10
      refine relAsk_in (by rfl) ?_
      intro v11 h11
      obtain rfl : v11 = .int .i64 (q : Nat) := h11
      refine relAsk_in (by rfl) ?_
      intro v12 h12
      obtain rfl : v12 = .string S := h12
      refine relAsk_in (by rfl) ?_
      intro v13 h13
      obtain rfl : v13 = .int .i64 (n : Nat) := h13
      refine relAsk_in (by rfl) ?_
      intro v14 h14
      obtain rfl : v14 = .int .i64 (r : Nat) := h14
      refine relAsk_in (by rfl) ?_
      intro v15 h15
      obtain rfl : v15 = .int .i64 (m : Nat) := h15
      refine relAsk_in (by rfl) ?_
      intro v16 h16
      obtain rfl : v16 = .int .u8 (m : Nat) := h16
      refine relAsk_in (by rfl) ?_
      intro v17 h17
      refine relAsk_in (by rfl) ?_
      intro v18 h18
      obtain rfl : v18 = .string (sOf [m]) := h18
      refine relAsk_in (by rfl) ?_
      intro v19 h19
      obtain rfl : v19 = .string (S ++ sOf [m]) := h19
      refine relAsk_in (by rfl) ?_
      intro v2 h2
      obtain rfl : v2 = .string (S ++ sOf [m]) := h2
      refine relAsk_nil ?_
      refine wpList_nil ?_
      clear h17
      go_simp
      go_wp2_with fail
      go_ret
      exact ⟨rfl, hb9⟩
theorem rdigits_c (n : Nat) (hn : n < 1000000000) (w : World) : Calls Tryd.prog 26 #[.int .i64 (n : Nat)] w (RetV (.string (sOf (decL n))) w) :=
  rdigits_k 9 n (by omega) (Nat.lt_of_lt_of_le hn (by decide)) w
end Go.Proofs.YtopeahjdglkheaaDoor
