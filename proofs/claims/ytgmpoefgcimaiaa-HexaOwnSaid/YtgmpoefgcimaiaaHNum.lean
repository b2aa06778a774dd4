/- The contract of package hexa's Number. -/
import Derived.Test.YtgmpoefgcimaiaaHBytes
import Derived.Test.YtgmpoefgcimaiaaBits2
import Derived.Test.YtgmpoefgcimaiaaOps3
namespace Go.Proofs.Ytgmpoefgcimaiaa
open Go.RowKit

theorem num_or {a v : Nat} (ha : Big (16 * a)) (hv : v < 16) : lw (fun x y => x ||| y) (16 * a) v = 16 * a + v := by
  have h := (isW_lim ha).2.2.2.2
  have e0 : lim 0 v = v := by unfold lim; simp; omega
  have e1 : lim 1 v = 0 := by unfold lim; simp; omega
  have e2 : lim 2 v = 0 := by unfold lim; rw [Nat.div_eq_of_lt (by omega)]
  have e3 : lim 3 v = 0 := by unfold lim; rw [Nat.div_eq_of_lt (by omega)]
  have e4 : lim 0 (16 * a) ||| v = lim 0 (16 * a) + v := by
    obtain ⟨q, hq⟩ : ∃ q, lim 0 (16 * a) = 2 ^ 4 * q := ⟨lim 0 (16 * a) / 16, by unfold lim; simp; omega⟩
    rw [hq, Nat.two_pow_add_eq_or_of_lt (by omega : v < 2 ^ 4)]
  unfold lw
  rw [e0, e1, e2, e3]
  simp only [e4, Nat.or_zero, vl]
  generalize lim 0 (16 * a) = l0 at *
  generalize lim 1 (16 * a) = l1 at *
  generalize lim 2 (16 * a) = l2 at *
  generalize lim 3 (16 * a) = l3 at *
  omega
theorem num_shl {a k : Nat} (h : a < 16 ^ k) (hk : k < 64) : Big (16 * a) ∧ Big a ∧ 16 * a < 16 ^ (k + 1) := by
  have h1 : 16 * a < 16 ^ (k + 1) := by rw [Nat.pow_succ]; omega
  have h2 : 16 ^ (k + 1) ≤ 16 ^ 64 := Nat.pow_le_pow_right (by decide) (by omega)
  have h3 : 16 ^ 64 = 115792089237316195423570985008687907853269984665640564039457584007913129639936 := by decide
  unfold Big
  exact ⟨by omega, by omega, h1⟩

/-- What the reader of a number has come to. -/
def InvN (Bv : Nat) (a : Nat) (w : World) : Prop := Arr w Bv 30 [lim 0 a, lim 1 a, lim 2 a, lim 3 a]
def okN (a k : Nat) : Prop := a < 16 ^ k ∧ k ≤ 64
def stepN (a k v : Nat) : Except Nat Nat := if k = 1 ∧ a = 0 then .error 2 else if k = 64 then .error 3 else .ok (16 * a + v)
theorem okN_step (x k v y : Nat) (hv : v < 16) (h : okN x k) (hy : stepN x k v = .ok y) : okN y (k + 1) := by
  unfold stepN at hy
  split at hy
  · cases hy
  · split at hy
    · cases hy
    · injection hy with hy
      obtain ⟨h1, h2⟩ := h
      have := Nat.pow_succ 16 k
      exact ⟨by omega, by omega⟩

set_option maxRecDepth 100000 in
set_option maxHeartbeats 6400000 in
theorem number_reader (B0 Bv : Nat) (hv : B0 ≤ Bv) : Reader (InvN Bv) okN stepN 29 (.pointer (some ⟨Bv, 0, none⟩)) B0 := by
  intro a k v w hinv ⟨ha, hk64⟩ hB hk hv16
  have same : Kp w w ∧ Below B0 w w := ⟨kp_of fun i _ => .inl rfl, Below.refl _ _⟩
  by_cases h1 : k = 1 ∧ a = 0
  · obtain ⟨rfl, rfl⟩ := h1
    refine (show Calls _ _ _ w (fun e w' => e = .returned (.int .i64 2) ∧ w' = w) from ?_).mono fun e w' ⟨h, hw⟩ => by
      subst hw
      exact ⟨(fun y hy => by simp [stepN] at hy), fun c hc => by
        have : c = 2 := by simp [stepN] at hc; exact hc.symm
        subst this; exact ⟨by decide, h, same⟩⟩
    obtain ⟨c0, c1, c2, c3⟩ := hinv.cells4
    simp only [show lim 0 0 = 0 from rfl, show lim 1 0 = 0 from rfl, show lim 2 0 = 0 from rfl, show lim 3 0 = 0 from rfl] at c0 c1 c2 c3
    have qZ : ∀ w, (Op.equalIn 10000 30 (.agg #[.int .u64 0, .int .u64 0, .int .u64 0, .int .u64 0]) (.agg #[.int .u64 0, .int .u64 0, .int .u64 0, .int .u64 0])).run Try.prog w = .ok true w := eqIn_same 0 0 0 0
    clear hinv same
    go_enter Try.func29, Try.ntmps29
    go_wp2_with fail
    go_ret
    exact ⟨rfl, rfl⟩
  · by_cases h2 : k = 64
    · refine (show Calls _ _ _ w (fun e w' => e = .returned (.int .i64 3) ∧ w' = w) from ?_).mono fun e w' ⟨h, hw⟩ => by
        subst hw h2
        exact ⟨(fun y hy => by simp [stepN] at hy), fun c hc => by
          have : c = 3 := by simp [stepN] at hc; exact hc.symm
          subst this; exact ⟨by decide, h, same⟩⟩
      subst h2
      clear hinv same
      go_enter Try.func29, Try.ntmps29
      go_wp2_with fail
      go_ret
      exact ⟨rfl, rfl⟩
    · obtain ⟨hb16, hba, hlt⟩ := num_shl ha (show k < 64 by omega)
      have hst : stepN a k v = .ok (16 * a + v) := by unfold stepN; rw [if_neg h1, if_neg h2]
      refine (show Calls _ _ _ w (fun e w' => e = .returned (.int .i64 0) ∧ InvN Bv (16 * a + v) w' ∧ Kp w w' ∧ Below B0 w w') from ?_).mono fun e w' h => ⟨fun y hy => by rw [hst] at hy; injection hy with hy; subst hy; exact h, fun c hc => by rw [hst] at hc; cases hc⟩
      have s1 : (if 4 < 256 then a * 2 ^ 4 % 115792089237316195423570985008687907853269984665640564039457584007913129639936 else 0) = 16 * a := by
        unfold Big at hb16
        simp; omega
      have k1 : ∀ w, Calls Try.prog 32 #[.int .u64 4] w (RetW 4 w) := fun w => of_c 4 (by unfold Lim; omega) w
      have k2 : ∀ w, Calls Try.prog 31 #[W 4, W a] w (RetW (16 * a) w) := fun w => by rw [← s1]; exact shl_c (by unfold Big; omega) hba w
      have k3 : ∀ w, Calls Try.prog 32 #[.int .u64 (v : Int)] w (RetW v w) := fun w => of_c v (by unfold Lim; omega) w
      obtain ⟨r, hr⟩ : ∃ r, r = 16 * a + v := ⟨_, rfl⟩
      have k4 : ∀ w, Calls Try.prog 30 #[W (16 * a), W v] w (RetW r w) := fun w => by rw [hr, ← num_or hb16 hv16]; exact or_c w
      rw [← hr]
      have K1 := Lib.hid k1
      have K2 := Lib.hid k2
      have K3 := Lib.hid k3
      have K4 := Lib.hid k4
      have HI : Hid (Arr w Bv 30 [lim 0 a, lim 1 a, lim 2 a, lim 3 a]) := hinv
      have HH1 := Lib.hid h1
      have HBa := Lib.hid hba
      have hk64' : ¬ (k : Int) = 64 := by omega
      have hk64'' : ((k : Int) == 64) = false := beq_eq_false_iff_ne.2 hk64'
      generalize hs : 16 * a = s at *
      by_cases hk1 : k = 1
      · subst hk1
        have ha16 : a < 16 := ha
        have ha0 : a ≠ 0 := fun e => h1 ⟨rfl, e⟩
        have l0 : lim 0 a = a := by unfold lim; simp; omega
        obtain ⟨c0, c1, c2, c3⟩ := hinv.cells4
        rw [l0] at c0
        have qZ : ∀ w, (Op.equalIn 10000 30 (.agg #[.int .u64 (a : Nat), .int .u64 (lim 1 a : Nat), .int .u64 (lim 2 a : Nat), .int .u64 (lim 3 a : Nat)]) (.agg #[.int .u64 0, .int .u64 0, .int .u64 0, .int .u64 0])).run Try.prog w = .ok false w := fun w => by
          have h := eqIn a (lim 1 a) (lim 2 a) (lim 3 a) 0 0 0 0 w
          rw [decide_eq_false (by omega)] at h
          exact h
        clear k1 k2 k3 k4 s1 hr h1 h2 hst ha hb16 hba hlt same hinv hs hk64 ha0 ha16 hk64' hk64''
        go_enter Try.func29, Try.ntmps29
        go_wp2_with fail
        refine wp_region_see 7 [17, 18, 19, 20, 21, 22, 23] [(17, .is (W 4)), (18, .is (W a)), (19, .is (W s)), (20, .is (.int .u8 (v : Nat))), (21, .is (.int .u64 (v : Nat))), (22, .is (W v)), (23, .is (W r))] (by kernel_rfl) (by kernel_rfl) (by rfl) ?_ ?_
        · refine seeOps_cons ?_ (seeOps_cons ?_ (seeOps_cons ?_ (seeOps_cons ?_ (seeOps_cons ?_ (seeOps_cons ?_ (seeOps_cons ?_ seeOps_nil))))))
          · intro w' hb' fr hout hin
            clear hout hin
            exact relStep_callW 32 #[.int .u64 4] (wanted_none rfl) (K1.out _) (fun _ => rfl) (by go_simp)
          · intro w' hb' fr hout hin
            have e2 : fr.tmps.getD 2 undef = .pointer (some ⟨Bv, 0, none⟩) := hout 2 (by decide)
            clear hout hin
            exact op_load (n := a) (.tmp 2) rfl e2 ((HI.out.below hb' HI.out.lt).cells4) (wanted_none rfl) rfl
          · intro w' hb' fr hout hin
            have h17 : fr.tmps.getD 17 undef = W 4 := hin 17 (by decide) (by decide)
            have h18 : fr.tmps.getD 18 undef = W a := hin 18 (by decide) (by decide)
            clear hout hin
            exact relStep_callW 31 #[W 4, W a] (wanted_none rfl) (K2.out _) (fun _ => rfl) (by have hh := And.intro h17 h18; go_simp)
          · intro w' hb' fr hout hin
            have e1 : fr.tmps.getD 1 undef = .int .u8 (v : Nat) := hout 1 (by decide)
            clear hout hin
            exact relStep_move (.tmp 1) rfl (wanted_none rfl) (by show fr.tmps.getD 1 undef = _; rw [e1])
          · intro w' hb' fr hout hin
            have h20 : fr.tmps.getD 20 undef = .int .u8 (v : Nat) := hin 20 (by decide) (by decide)
            clear hout hin
            exact op_conv8 (m := v) (.tmp 20) rfl (by omega) h20 (wanted_none rfl) rfl
          · intro w' hb' fr hout hin
            have h21 : fr.tmps.getD 21 undef = .int .u64 (v : Nat) := hin 21 (by decide) (by decide)
            clear hout hin
            exact relStep_callW 32 #[.int .u64 (v : Nat)] (wanted_none rfl) (K3.out _) (fun _ => rfl) (by have hh := h21; go_simp)
          · intro w' hb' fr hout hin
            have h19 : fr.tmps.getD 19 undef = W s := hin 19 (by decide) (by decide)
            have h22 : fr.tmps.getD 22 undef = W v := hin 22 (by decide) (by decide)
            clear hout hin
            exact relStep_callW 30 #[W s, W v] (wanted_none rfl) (K4.out _) (fun _ => rfl) (by have hh := And.intro h19 h22; go_simp)
        · intro w' hb'
          refine relAsk_in (by rfl) ?_
          intro v17 h17
          refine relAsk_in (by rfl) ?_
          intro v18 h18
          refine relAsk_in (by rfl) ?_
          intro v19 h19
          refine relAsk_in (by rfl) ?_
          intro v20 h20
          refine relAsk_in (by rfl) ?_
          intro v21 h21
          refine relAsk_in (by rfl) ?_
          intro v22 h22
          refine relAsk_in (by rfl) ?_
          intro v23 h23
          obtain rfl : v23 = W r := h23
          refine relAsk_nil ?_
          clear h17 h18 h19 h20 h21 h22
          have hI := HI.out.below hb' HI.out.lt
          obtain ⟨f0, f1, f2, f3⟩ := hI.free4
          obtain ⟨x0, x1, x2, x3⟩ := hI.cells4
          have hB' : B0 ≤ w'.heap.size := Nat.le_trans hB hb'.size
          have FIN : InvN Bv r ((((w'.setCell ⟨Bv, 0, none⟩ (.int .u64 (lim 0 r : Nat))).setCell ⟨Bv, 1, none⟩ (.int .u64 (lim 1 r : Nat))).setCell ⟨Bv, 2, none⟩ (.int .u64 (lim 2 r : Nat))).setCell ⟨Bv, 3, none⟩ (.int .u64 (lim 3 r : Nat))) ∧ Kp w ((((w'.setCell ⟨Bv, 0, none⟩ (.int .u64 (lim 0 r : Nat))).setCell ⟨Bv, 1, none⟩ (.int .u64 (lim 1 r : Nat))).setCell ⟨Bv, 2, none⟩ (.int .u64 (lim 2 r : Nat))).setCell ⟨Bv, 3, none⟩ (.int .u64 (lim 3 r : Nat))) ∧ Below B0 w ((((w'.setCell ⟨Bv, 0, none⟩ (.int .u64 (lim 0 r : Nat))).setCell ⟨Bv, 1, none⟩ (.int .u64 (lim 1 r : Nat))).setCell ⟨Bv, 2, none⟩ (.int .u64 (lim 2 r : Nat))).setCell ⟨Bv, 3, none⟩ (.int .u64 (lim 3 r : Nat))) := by
            refine ⟨hI.put4 _ _ _ _, kp_of fun i hi => ?_, below_put4 (hb'.mono hB) hv _ _ _ _⟩
            by_cases e : i = Bv
            · subst e; exact .inr ⟨_, _, _, HI.out, by decide⟩
            · left
              rw [Below.heap_setCell _ ⟨Bv, 3, none⟩ _ i e, Below.heap_setCell _ ⟨Bv, 2, none⟩ _ i e, Below.heap_setCell _ ⟨Bv, 1, none⟩ _ i e, Below.heap_setCell _ ⟨Bv, 0, none⟩ _ i e]
              exact hb'.block i hi
          have FINH := Lib.hid FIN
          clear FIN hI hb' K1 K2 K3 K4 HI HBa
          go_simp
          go_wp2_with fail
          go_ret
          exact ⟨rfl, FINH.out⟩
      · have e1 : ¬ (k : Int) = 1 := by omega
        have e2 : ((k : Int) == 1) = false := beq_eq_false_iff_ne.2 e1
        clear k1 k2 k3 k4 s1 hr h1 h2 hst ha hb16 hba hlt same hinv hs hk64 hk1
        go_enter Try.func29, Try.ntmps29
        go_wp2_with fail
        refine wp_region_see 7 [17, 18, 19, 20, 21, 22, 23] [(17, .is (W 4)), (18, .is (W a)), (19, .is (W s)), (20, .is (.int .u8 (v : Nat))), (21, .is (.int .u64 (v : Nat))), (22, .is (W v)), (23, .is (W r))] (by kernel_rfl) (by kernel_rfl) (by rfl) ?_ ?_
        · refine seeOps_cons ?_ (seeOps_cons ?_ (seeOps_cons ?_ (seeOps_cons ?_ (seeOps_cons ?_ (seeOps_cons ?_ (seeOps_cons ?_ seeOps_nil))))))
          · intro w' hb' fr hout hin
            clear hout hin
            exact relStep_callW 32 #[.int .u64 4] (wanted_none rfl) (K1.out _) (fun _ => rfl) (by go_simp)
          · intro w' hb' fr hout hin
            have e2 : fr.tmps.getD 2 undef = .pointer (some ⟨Bv, 0, none⟩) := hout 2 (by decide)
            clear hout hin
            exact op_load (n := a) (.tmp 2) rfl e2 ((HI.out.below hb' HI.out.lt).cells4) (wanted_none rfl) rfl
          · intro w' hb' fr hout hin
            have h17 : fr.tmps.getD 17 undef = W 4 := hin 17 (by decide) (by decide)
            have h18 : fr.tmps.getD 18 undef = W a := hin 18 (by decide) (by decide)
            clear hout hin
            exact relStep_callW 31 #[W 4, W a] (wanted_none rfl) (K2.out _) (fun _ => rfl) (by have hh := And.intro h17 h18; go_simp)
          · intro w' hb' fr hout hin
            have e1 : fr.tmps.getD 1 undef = .int .u8 (v : Nat) := hout 1 (by decide)
            clear hout hin
            exact relStep_move (.tmp 1) rfl (wanted_none rfl) (by show fr.tmps.getD 1 undef = _; rw [e1])
          · intro w' hb' fr hout hin
            have h20 : fr.tmps.getD 20 undef = .int .u8 (v : Nat) := hin 20 (by decide) (by decide)
            clear hout hin
            exact op_conv8 (m := v) (.tmp 20) rfl (by omega) h20 (wanted_none rfl) rfl
          · intro w' hb' fr hout hin
            have h21 : fr.tmps.getD 21 undef = .int .u64 (v : Nat) := hin 21 (by decide) (by decide)
            clear hout hin
            exact relStep_callW 32 #[.int .u64 (v : Nat)] (wanted_none rfl) (K3.out _) (fun _ => rfl) (by have hh := h21; go_simp)
          · intro w' hb' fr hout hin
            have h19 : fr.tmps.getD 19 undef = W s := hin 19 (by decide) (by decide)
            have h22 : fr.tmps.getD 22 undef = W v := hin 22 (by decide) (by decide)
            clear hout hin
            exact relStep_callW 30 #[W s, W v] (wanted_none rfl) (K4.out _) (fun _ => rfl) (by have hh := And.intro h19 h22; go_simp)
        · intro w' hb'
          refine relAsk_in (by rfl) ?_
          intro v17 h17
          refine relAsk_in (by rfl) ?_
          intro v18 h18
          refine relAsk_in (by rfl) ?_
          intro v19 h19
          refine relAsk_in (by rfl) ?_
          intro v20 h20
          refine relAsk_in (by rfl) ?_
          intro v21 h21
          refine relAsk_in (by rfl) ?_
          intro v22 h22
          refine relAsk_in (by rfl) ?_
          intro v23 h23
          obtain rfl : v23 = W r := h23
          refine relAsk_nil ?_
          clear h17 h18 h19 h20 h21 h22
          have hI := HI.out.below hb' HI.out.lt
          obtain ⟨f0, f1, f2, f3⟩ := hI.free4
          obtain ⟨x0, x1, x2, x3⟩ := hI.cells4
          have hB' : B0 ≤ w'.heap.size := Nat.le_trans hB hb'.size
          have FIN : InvN Bv r ((((w'.setCell ⟨Bv, 0, none⟩ (.int .u64 (lim 0 r : Nat))).setCell ⟨Bv, 1, none⟩ (.int .u64 (lim 1 r : Nat))).setCell ⟨Bv, 2, none⟩ (.int .u64 (lim 2 r : Nat))).setCell ⟨Bv, 3, none⟩ (.int .u64 (lim 3 r : Nat))) ∧ Kp w ((((w'.setCell ⟨Bv, 0, none⟩ (.int .u64 (lim 0 r : Nat))).setCell ⟨Bv, 1, none⟩ (.int .u64 (lim 1 r : Nat))).setCell ⟨Bv, 2, none⟩ (.int .u64 (lim 2 r : Nat))).setCell ⟨Bv, 3, none⟩ (.int .u64 (lim 3 r : Nat))) ∧ Below B0 w ((((w'.setCell ⟨Bv, 0, none⟩ (.int .u64 (lim 0 r : Nat))).setCell ⟨Bv, 1, none⟩ (.int .u64 (lim 1 r : Nat))).setCell ⟨Bv, 2, none⟩ (.int .u64 (lim 2 r : Nat))).setCell ⟨Bv, 3, none⟩ (.int .u64 (lim 3 r : Nat))) := by
            refine ⟨hI.put4 _ _ _ _, kp_of fun i hi => ?_, below_put4 (hb'.mono hB) hv _ _ _ _⟩
            by_cases e : i = Bv
            · subst e; exact .inr ⟨_, _, _, HI.out, by decide⟩
            · left
              rw [Below.heap_setCell _ ⟨Bv, 3, none⟩ _ i e, Below.heap_setCell _ ⟨Bv, 2, none⟩ _ i e, Below.heap_setCell _ ⟨Bv, 1, none⟩ _ i e, Below.heap_setCell _ ⟨Bv, 0, none⟩ _ i e]
              exact hb'.block i hi
          have FINH := Lib.hid FIN
          clear FIN hI hb' K1 K2 K3 K4 HI HBa
          go_simp
          go_wp2_with fail
          go_ret
          exact ⟨rfl, FINH.out⟩

theorem W_zero : W 0 = .agg #[.int .u64 0, .int .u64 0, .int .u64 0, .int .u64 0] := by simp [lim]
/-- The number of a text, and what is wrong with it. -/
def numQ (q : (Nat × Nat × Nat) × Nat) : Nat × Nat × Nat := if q.1.2.1 = 0 then (if q.1.1 = 0 then (0, 2, 2) else (q.2, 0, q.1.2.2)) else (0, q.1.2.1, q.1.2.2)
def nres (s : ByteArray) : Nat × Nat × Nat := numQ (scan stepN (runesAt s 0) 0 0)
theorem invN_q (x : Nat) (Bv : Nat) (w w' : World) (h : InvN Bv x w) (hq : Kq w w') : InvN Bv x w' := hq.2 _ _ _ _ (by decide) h

set_option maxRecDepth 100000 in
set_option maxHeartbeats 6400000 in
theorem number_h (s : ByteArray) (w : World) (hs : s.size ≤ 1073741824) : Calls Try.prog 9 #[.string s] w fun e w' =>
    e = .returned (.tuple #[W (nres s).1, .agg #[.int .i64 ((nres s).2.1 : Nat), .int .i64 ((nres s).2.2 : Nat)]]) ∧ Below w.heap.size w w' := by
  obtain ⟨q, hqq⟩ : ∃ q, q = scan stepN (runesAt s 0) 0 0 := ⟨_, rfl⟩
  have hbr : nres s = numQ q := by unfold nres; rw [← hqq]
  rw [hbr]
  have HQQ := Lib.hid hqq
  clear hqq hbr
  go_enter Try.func9, Try.ntmps9
  go_upto_region 2 with (fail)
  have r0 := Arr.new4z w 30
  have r1 := (r0.alloc (.cells #[.int .i64 0, .int .i64 0] 25)).alloc (.cells #[.int .u64 0, .int .u64 0, .int .u64 0, .int .u64 0] 30)
  have hI := Arr.new4z ((w.alloc (.cells #[.int .u64 0, .int .u64 0, .int .u64 0, .int .u64 0] 30)).alloc (.cells #[.int .i64 0, .int .i64 0] 25)) 30
  have b1 := (Below.refl w.heap.size w).alloc (Nat.le_refl _) (.cells #[.int .u64 0, .int .u64 0, .int .u64 0, .int .u64 0] 30)
  have b2 := b1.alloc (by simp) (.cells #[.int .i64 0, .int .i64 0] 25)
  have b3 := b2.alloc (by simp; omega) (.cells #[.int .u64 0, .int .u64 0, .int .u64 0, .int .u64 0] 30)
  have hf : (((w.alloc (.cells #[.int .u64 0, .int .u64 0, .int .u64 0, .int .u64 0] 30)).alloc (.cells #[.int .i64 0, .int .i64 0] 25)).alloc (.cells #[.int .u64 0, .int .u64 0, .int .u64 0, .int .u64 0] 30)).heap[w.heap.size + 1]? = some (.cells #[.int .i64 0, .int .i64 0] 25 (0, 0)) := by
    rw [Below.heap_alloc _ _ _ (by simp)]
    have := heap_alloc_new (w.alloc (.cells #[.int .u64 0, .int .u64 0, .int .u64 0, .int .u64 0] 30)) (.cells #[.int .i64 0, .int .i64 0] 25)
    simpa using this
  have hXs : w.heap.size + 3 ≤ (((w.alloc (.cells #[.int .u64 0, .int .u64 0, .int .u64 0, .int .u64 0] 30)).alloc (.cells #[.int .i64 0, .int .i64 0] 25)).alloc (.cells #[.int .u64 0, .int .u64 0, .int .u64 0, .int .u64 0] 30)).heap.size := by simp
  have hn2 : ((w.alloc (.cells #[.int .u64 0, .int .u64 0, .int .u64 0, .int .u64 0] 30)).alloc (.cells #[.int .i64 0, .int .i64 0] 25)).heap.size = w.heap.size + 2 := by simp
  rw [hn2] at hI
  generalize (((w.alloc (.cells #[.int .u64 0, .int .u64 0, .int .u64 0, .int .u64 0] 30)).alloc (.cells #[.int .i64 0, .int .i64 0] 25)).alloc (.cells #[.int .u64 0, .int .u64 0, .int .u64 0, .int .u64 0] 30)) = X at *
  clear b1 b2 r0 hn2
  have C1 := digits_c (Inv := InvN (w.heap.size + 2)) (ok := okN) (step := stepN) (x0 := 0) (c := .pointer (some ⟨w.heap.size + 2, 0, none⟩)) s X (Nat.le_trans hs (by decide)) (by omega) (number_reader (w.heap.size + 2) (w.heap.size + 2) (Nat.le_refl _)) ⟨by decide, by decide⟩ (fun x k v y hv h hy => okN_step x k v y hv h hy) hI (fun x w w' h hq => invN_q x _ w w' h hq) (fun args w => by go_simp)
  rw [← HQQ.out] at C1
  have C1 := Lib.hid C1
  have HB3 := Lib.hid b3
  have HF := Lib.hid hf
  have HR := Lib.hid r1
  clear hI hf b3 r1
  go_wp2_with fail
  (with_reducible refine C1.out.mono ?_)
  rintro e w1 ⟨rfl, hinv, hbel⟩
  have hf1 := (hbel.block (w.heap.size + 1) (by omega)).trans HF.out
  have hr1 := HR.out.below hbel (by omega)
  have hs1 : w.heap.size + 3 ≤ w1.heap.size := Nat.le_trans hXs hbel.size
  have HB4 := Lib.hid (HB3.out.trans (hbel.mono (by omega)))
  have HINV := Lib.hid hinv
  have HF1 := Lib.hid hf1
  have HR1 := Lib.hid hr1
  clear C1 hbel hinv hf1 hr1 HF HB3 HR
  by_cases hq0 : q.1.2.1 = 0
  · have HI := Lib.hid (HINV.out hq0)
    clear HINV
    by_cases hn0 : q.1.1 = 0
    · have hbr : numQ q = (0, 2, 2) := by unfold numQ; rw [if_pos hq0, if_pos hn0]
      have hat : q.1.2.2 = q.1.2.2 := rfl
      generalize q.1.1 = n at *
      rw [hq0]
      generalize q.1.2.2 = at_ at *
      have HBR := Lib.hid hbr
      have n1 : (n : Int) = 0 := by omega
      have n2 : ((n : Int) == 0) = true := by rw [n1]; rfl
      clear hat hq0 HQQ hbr hn0
      have c2 : Calls Try.prog 26 #[.int .i64 0] (w1.alloc (.cells #[.int .i64 0, .int .i64 (at_ : Nat)] 25)) fun e w' => e = .returned (.agg #[.int .i64 2, .int .i64 2]) ∧ Below (w1.alloc (.cells #[.int .i64 0, .int .i64 (at_ : Nat)] 25)).heap.size (w1.alloc (.cells #[.int .i64 0, .int .i64 (at_ : Nat)] 25)) w' := early_c 0 (by omega) (by omega) _
      have C2 := Lib.hid c2
      clear c2
      have hg1 := heap_alloc_new w1 (.cells #[.int .i64 0, .int .i64 (at_ : Nat)] 25)
      have HF2 := Lib.hid ((Below.heap_alloc w1 (.cells #[.int .i64 0, .int .i64 (at_ : Nat)] 25) (w.heap.size + 1) (by omega)).trans HF1.out)
      have HR2 := Lib.hid (HR1.out.alloc (.cells #[.int .i64 0, .int .i64 (at_ : Nat)] 25))
      have HB5 := Lib.hid (HB4.out.alloc (by omega) (.cells #[.int .i64 0, .int .i64 (at_ : Nat)] 25))
      have HS5 := Lib.hid (show (w1.alloc (.cells #[.int .i64 0, .int .i64 (at_ : Nat)] 25)).heap.size = w1.heap.size + 1 by simp)
      have HG1 := Lib.hid hg1
      obtain ⟨d0, d1, g0, g1⟩ := two_cells hg1
      have hn1 : n = 0 := by omega
      clear hg1
      go_wp2_with fail
      (with_reducible refine C2.out.mono ?_)
      rintro e w2 ⟨rfl, hb2⟩
      have hg2 := (hb2.block w1.heap.size (by have := HS5.out; omega)).trans HG1.out
      have hf2 := (hb2.block (w.heap.size + 1) (by have := HS5.out; omega)).trans HF2.out
      have hr2 := HR2.out.below hb2 (by have := HS5.out; omega)
      have HB6 := Lib.hid (HB5.out.trans (hb2.mono (by have := HS5.out; omega)))
      have hs2 : w1.heap.size + 1 ≤ w2.heap.size := by have := hb2.size; have := HS5.out; omega
      clear d0 d1 g0 g1 C2 hb2 HG1 HF2 HB5 HS5 HI HR2
      obtain ⟨c0, c1, f0, f1⟩ := two_cells hf2
      obtain ⟨d0, d1, g0, g1⟩ := two_cells hg2
      obtain ⟨y0, y1, y2, y3⟩ := hr2.cells4
      obtain ⟨z0, z1, z2, z3⟩ := hr2.free4
      go_wp2_with fail
      go_region
      all_goals (go_wp2_with fail)
      all_goals
        refine bodyPost_ret (v := .tuple #[W4 0 0 0 0, .agg #[.int .i64 2, .int .i64 2]]) (by simp [results, Try.results9, go_sem, c0, c1, y0, y1, y2, y3]) rfl ⟨?_, ?_⟩
      · rw [HBR.out]; show _ = Ending.returned (.tuple #[W 0, _]); rw [W_zero]; rfl
      · exact (below_put4 (HB6.out.setCell (p := ⟨w1.heap.size, 0, none⟩) (by show w.heap.size ≤ w1.heap.size; omega) _ |>.setCell (p := ⟨w1.heap.size, 1, none⟩) (by show w.heap.size ≤ w1.heap.size; omega) _) (f := w.heap.size) (Nat.le_refl _) _ _ _ _).setCell (p := ⟨w.heap.size + 1, 0, none⟩) (by show w.heap.size ≤ w.heap.size + 1; omega) _ |>.setCell (p := ⟨w.heap.size + 1, 1, none⟩) (by show w.heap.size ≤ w.heap.size + 1; omega) _ |>.drew
    · have hbr : numQ q = (q.2, 0, q.1.2.2) := by unfold numQ; rw [if_pos hq0, if_neg hn0]
      have hat : q.1.2.2 = q.1.2.2 := rfl
      have hI : Arr w1 (w.heap.size + 2) 30 [lim 0 q.2, lim 1 q.2, lim 2 q.2, lim 3 q.2] := HI.out
      have hkk : q.2 = q.2 := rfl
      generalize q.1.1 = n at *
      rw [hq0]
      generalize q.1.2.2 = at_ at *
      generalize q.2 = r at *
      have HBR := Lib.hid hbr
      have n1 : ¬ (n : Int) = 0 := by omega
      have n2 : ((n : Int) == 0) = false := beq_eq_false_iff_ne.2 n1
      clear hat hq0 HQQ hbr hn0 HI hkk
      have hg1 := heap_alloc_new w1 (.cells #[.int .i64 0, .int .i64 (at_ : Nat)] 25)
      have hf2 := (Below.heap_alloc w1 (.cells #[.int .i64 0, .int .i64 (at_ : Nat)] 25) (w.heap.size + 1) (by omega)).trans HF1.out
      have hr2 := HR1.out.alloc (.cells #[.int .i64 0, .int .i64 (at_ : Nat)] 25)
      have hi2 := hI.alloc (.cells #[.int .i64 0, .int .i64 (at_ : Nat)] 25)
      have HB5 := Lib.hid (HB4.out.alloc (by omega) (.cells #[.int .i64 0, .int .i64 (at_ : Nat)] 25))
      obtain ⟨c0, c1, f0, f1⟩ := two_cells hf2
      obtain ⟨d0, d1, g0, g1⟩ := two_cells hg1
      obtain ⟨y0, y1, y2, y3⟩ := hr2.cells4
      obtain ⟨z0, z1, z2, z3⟩ := hr2.free4
      obtain ⟨x0, x1, x2, x3⟩ := hi2.cells4
      clear hf2 hg1 hr2 hi2 hI
      go_wp2_with fail
      go_region
      all_goals (go_wp2_with fail)
      all_goals
        refine bodyPost_ret (v := .tuple #[W r, .agg #[.int .i64 0, .int .i64 (at_ : Nat)]]) (by simp [results, Try.results9, go_sem, c0, c1, y0, y1, y2, y3]) rfl ⟨?_, ?_⟩
      · rw [HBR.out]; rfl
      · exact (below_put4 HB5.out (f := w.heap.size) (Nat.le_refl _) _ _ _ _).setCell (p := ⟨w.heap.size + 1, 0, none⟩) (by show w.heap.size ≤ w.heap.size + 1; omega) _ |>.setCell (p := ⟨w.heap.size + 1, 1, none⟩) (by show w.heap.size ≤ w.heap.size + 1; omega) _ |>.drew
  · have hbr : numQ q = (0, q.1.2.1, q.1.2.2) := by unfold numQ; rw [if_neg hq0]
    have hat : q.1.2.2 = q.1.2.2 := rfl
    generalize q.1.1 = n at *
    generalize q.1.2.1 = y at *
    generalize q.1.2.2 = at_ at *
    have HBR := Lib.hid hbr
    clear HINV hat HQQ hbr
    have hne : ((y : Int) == 0) = false := beq_eq_false_iff_ne.2 (by omega)
    have hne2 : ((y : Int) != 0) = true := by simp; omega
    have hne3 : ¬ ((y : Int) = 0) := by omega
    have hg1 := heap_alloc_new w1 (.cells #[.int .i64 (y : Nat), .int .i64 (at_ : Nat)] 25)
    have hf2 := (Below.heap_alloc w1 (.cells #[.int .i64 (y : Nat), .int .i64 (at_ : Nat)] 25) (w.heap.size + 1) (by omega)).trans HF1.out
    have hr2 := HR1.out.alloc (.cells #[.int .i64 (y : Nat), .int .i64 (at_ : Nat)] 25)
    have HB5 := Lib.hid (HB4.out.alloc (by omega) (.cells #[.int .i64 (y : Nat), .int .i64 (at_ : Nat)] 25))
    obtain ⟨c0, c1, f0, f1⟩ := two_cells hf2
    obtain ⟨d0, d1, g0, g1⟩ := two_cells hg1
    obtain ⟨y0, y1, y2, y3⟩ := hr2.cells4
    obtain ⟨z0, z1, z2, z3⟩ := hr2.free4
    clear hf2 hg1 hq0 hr2
    go_wp2_with fail
    go_region
    all_goals (go_wp2_with fail)
    all_goals
      refine bodyPost_ret (v := .tuple #[W4 0 0 0 0, .agg #[.int .i64 (y : Nat), .int .i64 (at_ : Nat)]]) (by simp [results, Try.results9, go_sem, c0, c1, y0, y1, y2, y3]) rfl ⟨?_, ?_⟩
    · rw [HBR.out]; show _ = Ending.returned (.tuple #[W 0, _]); rw [W_zero]; rfl
    · exact (below_put4 HB5.out (f := w.heap.size) (Nat.le_refl _) _ _ _ _).setCell (p := ⟨w.heap.size + 1, 0, none⟩) (by show w.heap.size ≤ w.heap.size + 1; omega) _ |>.setCell (p := ⟨w.heap.size + 1, 1, none⟩) (by show w.heap.size ≤ w.heap.size + 1; omega) _ |>.drew
end Go.Proofs.Ytgmpoefgcimaiaa
