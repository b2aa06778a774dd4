/- The law GasSteps. (Written by wip/gengsstepslaw.py.) -/
import Derived.Test.YtiflfcdegpmhnaaLawGasGrow
namespace Go.Proofs.Ytiflfcdegpmhnaa
open Go.RowKit

section
variable {ops : Array Oper} {T : Facts} {o : Oper} {a : Act} {w : World}
theorem gs_buildW {n : Nat} (x : Operand) (ho : o.op = .build 24 #[(0, x)]) (hx : a.eval x = .int .u64 (n : Nat)) (hw : Region.wanted o (yielded ops a.tmps) = true) (hf : factTo T o.dst (.agg #[.int .u64 (n : Nat), .int .u64 0, .int .u64 0, .int .u64 0]) w) : relStep Try.prog ops T o a w :=
  relStep_val _ hw hf (by
    clear hw hf
    generalize a.eval = p at *
    unfold execOp
    rw [ho]
    go_simp)
end
/-- Grow with words of one limb. -/
theorem gGrow_lit {s a n : Nat} (hs : s ≤ 1099511627776) (h32 : s % 32 = 0) (ha : a < 18446744073709551616) (hn : n < 18446744073709551616) (v : World) : Calls Try.prog 20 #[.int .u64 (s : Nat), .agg #[.int .u64 (a : Nat), .int .u64 0, .int .u64 0, .int .u64 0], .agg #[.int .u64 (n : Nat), .int .u64 0, .int .u64 0, .int .u64 0]] v (RetV (growV s a n) v) := by
  have h := gGrow hs h32 (a := a) (n := n) (by unfold Big; omega) (by unfold Big; omega) v
  rw [W_lit a ha, W_lit n hn] at h
  exact h
theorem steps_math (x y m : Nat) (hxy : x ≤ y) (hy : y < 549755813888) (hm : 1 ≤ m) (hm2 : m ≤ 1048576) :
    ∃ p q c d e : Nat, (∀ v, Calls Try.prog 20 #[.int .u64 0, .agg #[.int .u64 (x : Nat), .int .u64 0, .int .u64 0, .int .u64 0], .agg #[.int .u64 (m : Nat), .int .u64 0, .int .u64 0, .int .u64 0]] v (RetV (.tuple #[.int .u64 (p : Nat), .int .u64 (c : Nat), .bool true]) v)) ∧
      (∀ v, Calls Try.prog 20 #[.int .u64 (p : Nat), .agg #[.int .u64 (y : Nat), .int .u64 0, .int .u64 0, .int .u64 0], .agg #[.int .u64 (m : Nat), .int .u64 0, .int .u64 0, .int .u64 0]] v (RetV (.tuple #[.int .u64 (q : Nat), .int .u64 (d : Nat), .bool true]) v)) ∧
      (∀ v, Calls Try.prog 20 #[.int .u64 0, .agg #[.int .u64 (y : Nat), .int .u64 0, .int .u64 0, .int .u64 0], .agg #[.int .u64 (m : Nat), .int .u64 0, .int .u64 0, .int .u64 0]] v (RetV (.tuple #[.int .u64 (q : Nat), .int .u64 (e : Nat), .bool true]) v)) ∧
      (∀ v, Calls Try.prog 20 #[.int .u64 (q : Nat), .agg #[.int .u64 (x : Nat), .int .u64 0, .int .u64 0, .int .u64 0], .agg #[.int .u64 (m : Nat), .int .u64 0, .int .u64 0, .int .u64 0]] v (RetV (.tuple #[.int .u64 (q : Nat), .int .u64 0, .bool true]) v)) ∧
      IntKind.u64.wrap ((c : Int) + (d : Int)) = (e : Int) ∧ y + m ≤ q ∧ q % 32 = 0 ∧ q < y + m + 32 := by
  obtain ⟨a, ha⟩ : ∃ a, a = growW x m := ⟨_, rfl⟩
  obtain ⟨b, hb⟩ : ∃ b, b = growW y m := ⟨_, rfl⟩
  have hab : a ≤ b := by rw [ha, hb]; unfold growW; omega
  have hb2 : b ≤ 34359738368 := by rw [hb]; unfold growW; omega
  have hm1 := cZ_mono hab
  have hm3 := cZ_small hb2
  have e0 : cZ 0 = 0 := by decide
  have ea : 32 * a / 32 = a := by omega
  have eb : 32 * b / 32 = b := by omega
  have tx0 : growTo 0 x m = 32 * a := by unfold growTo; rw [← ha, if_neg (by omega)]
  have ty0 : growTo 0 y m = 32 * b := by unfold growTo; rw [← hb, if_neg (by omega)]
  have ty1 : growTo (32 * a) y m = 32 * b := by unfold growTo; rw [← hb, if_neg (by omega)]
  have tx1 : growTo (32 * b) x m = 32 * b := by unfold growTo; rw [← ha]; split <;> omega
  refine ⟨32 * a, 32 * b, cZ a, cZ b - cZ a, cZ b, fun v => ?_, fun v => ?_, fun v => ?_, fun v => ?_, ?_, ?_, ?_, ?_⟩
  · have h := gGrow_lit (s := 0) (a := x) (n := m) (by omega) rfl (by omega) (by omega) v
    unfold growV at h
    rw [if_neg (by omega), if_neg (by rw [← ha]; omega), tx0, ea, show 0 / 32 = 0 from rfl, e0, Nat.sub_zero] at h
    exact h
  · have h := gGrow_lit (s := 32 * a) (a := y) (n := m) (by omega) (by omega) (by omega) (by omega) v
    unfold growV at h
    rw [if_neg (by omega), if_neg (by rw [← hb]; omega), ty1, ea, eb] at h
    exact h
  · have h := gGrow_lit (s := 0) (a := y) (n := m) (by omega) rfl (by omega) (by omega) v
    unfold growV at h
    rw [if_neg (by omega), if_neg (by rw [← hb]; omega), ty0, eb, show 0 / 32 = 0 from rfl, e0, Nat.sub_zero] at h
    exact h
  · have h := gGrow_lit (s := 32 * b) (a := x) (n := m) (by omega) (by omega) (by omega) (by omega) v
    unfold growV at h
    rw [if_neg (by omega), if_neg (by rw [← ha]; omega), tx1, eb, Nat.sub_self] at h
    exact h
  · rw [IntKind.wrap_u64]; omega
  · rw [hb]; unfold growW; omega
  · omega
  · rw [hb]; unfold growW; omega

set_option maxRecDepth 100000 in
set_option maxHeartbeats 12800000 in
theorem gasSteps_c (w : World) (a : Nat) (ha : a < 18446744073709551616) (b : Nat) (hb : b < 18446744073709551616) (n : Nat) (hn : n < 18446744073709551616) : Calls Try.prog 5 #[.int .u64 (a : Nat), .int .u64 (b : Nat), .int .u64 (n : Nat)] w (RetV (.bool true) w) := by
  obtain ⟨x, hx⟩ : ∃ x, x = a % 549755813888 := ⟨_, rfl⟩
  obtain ⟨y, hy⟩ : ∃ y, y = b % 549755813888 := ⟨_, rfl⟩
  obtain ⟨r, hr0⟩ : ∃ r, r = n % 1048576 := ⟨_, rfl⟩
  obtain ⟨m, hm⟩ : ∃ m, m = r + 1 := ⟨_, rfl⟩
  have a1 : (a : Int).tmod 549755813888 = (x : Int) := by rw [Int.tmod_eq_emod_of_nonneg (by omega)]; omega
  have a2 : (a : Int) % 549755813888 = (x : Int) := by omega
  have a3 : IntKind.u64.wrap (x : Int) = (x : Int) := by rw [IntKind.wrap_u64]; omega
  have b1 : (b : Int).tmod 549755813888 = (y : Int) := by rw [Int.tmod_eq_emod_of_nonneg (by omega)]; omega
  have b2 : (b : Int) % 549755813888 = (y : Int) := by omega
  have b3 : IntKind.u64.wrap (y : Int) = (y : Int) := by rw [IntKind.wrap_u64]; omega
  have n1 : (n : Int).tmod 1048576 = (r : Int) := by rw [Int.tmod_eq_emod_of_nonneg (by omega)]; omega
  have n2 : (n : Int) % 1048576 = (r : Int) := by omega
  have n3 : IntKind.u64.wrap (r : Int) = (r : Int) := by rw [IntKind.wrap_u64]; omega
  have n4 : IntKind.u64.wrap ((r : Int) + 1) = (m : Int) := by rw [IntKind.wrap_u64]; omega
  have hx2 : x < 549755813888 := by omega
  have hy2 : y < 549755813888 := by omega
  have hm1 : 1 ≤ m := by omega
  have hm2 : m ≤ 1048576 := by omega
  clear hx hy hr0 hm ha hb hn
  have HM : Hid (x < 549755813888 ∧ y < 549755813888 ∧ 1 ≤ m ∧ m ≤ 1048576) := ⟨hx2, hy2, hm1, hm2⟩
  clear hx2 hy2 hm1 hm2
  by_cases hord : (x : Int) ≤ (y : Int)
  · go_enter Try.func5, Try.ntmps5
    go_upto_region 5 with (fail)
    clear a1 a2 a3 b1 b2 b3 n1 n2 n3 n4
    obtain ⟨hx2, hy2, hm1, hm2⟩ := HM.out
    obtain ⟨p, q, c, d, e, k1, k2, k3, k4, he, hg1, hr, hg2⟩ := steps_math x y m (by omega) (by omega) (by omega) (by omega)
    have hq3 : q < 18446744073709551616 := by omega
    obtain ⟨s1, hs1⟩ : ∃ s1, s1 = y + m := ⟨_, rfl⟩
    obtain ⟨s2, hs2⟩ : ∃ s2, s2 = y + m + 32 := ⟨_, rfl⟩
    have HE : Hid (IntKind.u64.wrap ((c : Int) + (d : Int)) = (e : Int)) := he
    have HS1 : Hid (IntKind.u64.wrap ((y : Int) + (m : Int)) = (s1 : Int)) := by show IntKind.u64.wrap _ = _; rw [IntKind.wrap_u64]; omega
    have HS2 : Hid (IntKind.u64.wrap ((s1 : Int) + 32) = (s2 : Int)) := by show IntKind.u64.wrap _ = _; rw [IntKind.wrap_u64]; omega
    have HG1 : Hid ((s1 : Int) ≤ (q : Int)) := by show (s1 : Int) ≤ _; omega
    have HG2 : Hid ((q : Int) < (s2 : Int)) := by show (q : Int) < _; omega
    have HR1 : Hid ((q : Int).tmod 32 = 0) := by show (q : Int).tmod 32 = 0; rw [Int.tmod_eq_emod_of_nonneg (by omega)]; omega
    have HR2 : Hid ((q : Int) % 32 = 0) := by show (q : Int) % 32 = 0; omega
    have KG1 : Hid (∀ v, Calls Try.prog 20 #[.int .u64 0, .agg #[.int .u64 (x : Nat), .int .u64 0, .int .u64 0, .int .u64 0], .agg #[.int .u64 (m : Nat), .int .u64 0, .int .u64 0, .int .u64 0]] v (RetV (.tuple #[.int .u64 (p : Nat), .int .u64 (c : Nat), .bool true]) v)) := k1
    have KG2 : Hid (∀ v, Calls Try.prog 20 #[.int .u64 (p : Nat), .agg #[.int .u64 (y : Nat), .int .u64 0, .int .u64 0, .int .u64 0], .agg #[.int .u64 (m : Nat), .int .u64 0, .int .u64 0, .int .u64 0]] v (RetV (.tuple #[.int .u64 (q : Nat), .int .u64 (d : Nat), .bool true]) v)) := k2
    have KG3 : Hid (∀ v, Calls Try.prog 20 #[.int .u64 0, .agg #[.int .u64 (y : Nat), .int .u64 0, .int .u64 0, .int .u64 0], .agg #[.int .u64 (m : Nat), .int .u64 0, .int .u64 0, .int .u64 0]] v (RetV (.tuple #[.int .u64 (q : Nat), .int .u64 (e : Nat), .bool true]) v)) := k3
    have KG4 : Hid (∀ v, Calls Try.prog 20 #[.int .u64 (q : Nat), .agg #[.int .u64 (x : Nat), .int .u64 0, .int .u64 0, .int .u64 0], .agg #[.int .u64 (m : Nat), .int .u64 0, .int .u64 0, .int .u64 0]] v (RetV (.tuple #[.int .u64 (q : Nat), .int .u64 0, .bool true]) v)) := k4
    clear k1 k2 k3 k4 he hg1 hr hg2 hq3 hs1 hs2 hx2 hy2 hm1 hm2 hord
    have HB : Hid (Below w.heap.size w w) := Below.refl _ _
    refine wp_region_seq 12 [35, 36, 37, 38, 39, 34, 40, 41, 42, 10, 11, 12] [(35, .is (.int .u64 (x : Nat))), (36, .is (.agg #[.int .u64 (x : Nat), .int .u64 0, .int .u64 0, .int .u64 0])), (37, .is (.int .u64 (m : Nat))), (38, .is (.agg #[.int .u64 (m : Nat), .int .u64 0, .int .u64 0, .int .u64 0])), (39, .is (.tuple #[.int .u64 (p : Nat), .int .u64 (c : Nat), .bool true])), (34, .is (.tuple #[.int .u64 (p : Nat), .int .u64 (c : Nat), .bool true])), (40, .is (.int .u64 (p : Nat))), (41, .is (.int .u64 (c : Nat))), (42, .is (.bool true)), (10, .is (.int .u64 (p : Nat))), (11, .is (.int .u64 (c : Nat))), (12, .is (.bool true))] (by kernel_rfl) (by rfl) ?_ ?_
    · refine seeOps_cons ?_ (seeOps_cons ?_ (seeOps_cons ?_ (seeOps_cons ?_ (seeOps_cons ?_ (seeOps_cons ?_ (seeOps_cons ?_ (seeOps_cons ?_ (seeOps_cons ?_ (seeOps_cons ?_ (seeOps_cons ?_ (seeOps_cons ?_ seeOps_nil)))))))))))
      · intro w9 hb9 fr hout hin
        have h7 : fr.tmps.getD 7 undef = .int .u64 (x : Nat) := hout 7 (by decide)
        clear hout hin
        exact relStep_move (.tmp 7) rfl (wanted_none rfl) (by show fr.tmps.getD 7 undef = _; rw [h7])
      · intro w9 hb9 fr hout hin
        have h35 : fr.tmps.getD 35 undef = .int .u64 (x : Nat) := hin 35 (by decide) (by decide)
        clear hout hin
        exact gs_buildW (.tmp 35) rfl h35 (wanted_none rfl) rfl
      · intro w9 hb9 fr hout hin
        have h9 : fr.tmps.getD 9 undef = .int .u64 (m : Nat) := hout 9 (by decide)
        clear hout hin
        exact relStep_move (.tmp 9) rfl (wanted_none rfl) (by show fr.tmps.getD 9 undef = _; rw [h9])
      · intro w9 hb9 fr hout hin
        have h37 : fr.tmps.getD 37 undef = .int .u64 (m : Nat) := hin 37 (by decide) (by decide)
        clear hout hin
        exact gs_buildW (.tmp 37) rfl h37 (wanted_none rfl) rfl
      · intro w9 hb9 fr hout hin
        have h36 : fr.tmps.getD 36 undef = .agg #[.int .u64 (x : Nat), .int .u64 0, .int .u64 0, .int .u64 0] := hin 36 (by decide) (by decide)
        have h38 : fr.tmps.getD 38 undef = .agg #[.int .u64 (m : Nat), .int .u64 0, .int .u64 0, .int .u64 0] := hin 38 (by decide) (by decide)
        clear hout hin
        exact gs_call3 (.const (.int .u64 0)) (.tmp 36) (.tmp 38) rfl en_gsGrow (wanted_none rfl) (by rw [show fr.eval (.tmp 36) = _ from h36, show fr.eval (.tmp 38) = _ from h38]; exact (KG1.out w9).mono fun _ _ h => RetV.gs h) (fun _ _ h => h)
      · intro w9 hb9 fr hout hin
        have h39 : fr.tmps.getD 39 undef = .tuple #[.int .u64 (p : Nat), .int .u64 (c : Nat), .bool true] := hin 39 (by decide) (by decide)
        clear hout hin
        exact relStep_move (.tmp 39) rfl (wanted_none rfl) (by show fr.tmps.getD 39 undef = _; rw [h39])
      · intro w9 hb9 fr hout hin
        have h34 : fr.tmps.getD 34 undef = .tuple #[.int .u64 (p : Nat), .int .u64 (c : Nat), .bool true] := hin 34 (by decide) (by decide)
        clear hout hin
        exact gs_ext (.tmp 34) 0 rfl h34 rfl (wanted_none rfl) rfl
      · intro w9 hb9 fr hout hin
        have h34 : fr.tmps.getD 34 undef = .tuple #[.int .u64 (p : Nat), .int .u64 (c : Nat), .bool true] := hin 34 (by decide) (by decide)
        clear hout hin
        exact gs_ext (.tmp 34) 1 rfl h34 rfl (wanted_none rfl) rfl
      · intro w9 hb9 fr hout hin
        have h34 : fr.tmps.getD 34 undef = .tuple #[.int .u64 (p : Nat), .int .u64 (c : Nat), .bool true] := hin 34 (by decide) (by decide)
        clear hout hin
        exact gs_ext (.tmp 34) 2 rfl h34 rfl (wanted_none rfl) rfl
      · intro w9 hb9 fr hout hin
        have h40 : fr.tmps.getD 40 undef = .int .u64 (p : Nat) := hin 40 (by decide) (by decide)
        clear hout hin
        exact relStep_assign (.tmp 40) rfl (wanted_none rfl) (by show fr.tmps.getD 40 undef = _; rw [h40])
      · intro w9 hb9 fr hout hin
        have h41 : fr.tmps.getD 41 undef = .int .u64 (c : Nat) := hin 41 (by decide) (by decide)
        clear hout hin
        exact relStep_assign (.tmp 41) rfl (wanted_none rfl) (by show fr.tmps.getD 41 undef = _; rw [h41])
      · intro w9 hb9 fr hout hin
        have h42 : fr.tmps.getD 42 undef = .bool true := hin 42 (by decide) (by decide)
        clear hout hin
        exact relStep_assign (.tmp 42) rfl (wanted_none rfl) (by show fr.tmps.getD 42 undef = _; rw [h42])
    intro X5 hbn
    refine relAsk_in (by rfl) ?_
    intro v35 h35
    obtain rfl : v35 = .int .u64 (x : Nat) := h35
    refine relAsk_in (by rfl) ?_
    intro v36 h36
    obtain rfl : v36 = .agg #[.int .u64 (x : Nat), .int .u64 0, .int .u64 0, .int .u64 0] := h36
    refine relAsk_in (by rfl) ?_
    intro v37 h37
    obtain rfl : v37 = .int .u64 (m : Nat) := h37
    refine relAsk_in (by rfl) ?_
    intro v38 h38
    obtain rfl : v38 = .agg #[.int .u64 (m : Nat), .int .u64 0, .int .u64 0, .int .u64 0] := h38
    refine relAsk_in (by rfl) ?_
    intro v39 h39
    obtain rfl : v39 = .tuple #[.int .u64 (p : Nat), .int .u64 (c : Nat), .bool true] := h39
    refine relAsk_in (by rfl) ?_
    intro v34 h34
    obtain rfl : v34 = .tuple #[.int .u64 (p : Nat), .int .u64 (c : Nat), .bool true] := h34
    refine relAsk_in (by rfl) ?_
    intro v40 h40
    obtain rfl : v40 = .int .u64 (p : Nat) := h40
    refine relAsk_in (by rfl) ?_
    intro v41 h41
    obtain rfl : v41 = .int .u64 (c : Nat) := h41
    refine relAsk_in (by rfl) ?_
    intro v42 h42
    obtain rfl : v42 = .bool true := h42
    refine relAsk_in (by rfl) ?_
    intro v10 h10
    obtain rfl : v10 = .int .u64 (p : Nat) := h10
    refine relAsk_in (by rfl) ?_
    intro v11 h11
    obtain rfl : v11 = .int .u64 (c : Nat) := h11
    refine relAsk_in (by rfl) ?_
    intro v12 h12
    obtain rfl : v12 = .bool true := h12
    refine relAsk_nil ?_
    refine wpList_nil ?_
    have HB2 := Lib.hid (HB.out.trans (hbn.mono HB.out.size))
    replace HB := HB2
    clear hbn
    go_simp
    go_upto_region 6 with (fail)
    refine wp_region_seq 13 [44, 45, 46, 47, 48, 49, 43, 50, 51, 52, 13, 14, 15] [(44, .is (.int .u64 (p : Nat))), (45, .is (.int .u64 (y : Nat))), (46, .is (.agg #[.int .u64 (y : Nat), .int .u64 0, .int .u64 0, .int .u64 0])), (47, .is (.int .u64 (m : Nat))), (48, .is (.agg #[.int .u64 (m : Nat), .int .u64 0, .int .u64 0, .int .u64 0])), (49, .is (.tuple #[.int .u64 (q : Nat), .int .u64 (d : Nat), .bool true])), (43, .is (.tuple #[.int .u64 (q : Nat), .int .u64 (d : Nat), .bool true])), (50, .is (.int .u64 (q : Nat))), (51, .is (.int .u64 (d : Nat))), (52, .is (.bool true)), (13, .is (.int .u64 (q : Nat))), (14, .is (.int .u64 (d : Nat))), (15, .is (.bool true))] (by kernel_rfl) (by rfl) ?_ ?_
    · refine seeOps_cons ?_ (seeOps_cons ?_ (seeOps_cons ?_ (seeOps_cons ?_ (seeOps_cons ?_ (seeOps_cons ?_ (seeOps_cons ?_ (seeOps_cons ?_ (seeOps_cons ?_ (seeOps_cons ?_ (seeOps_cons ?_ (seeOps_cons ?_ (seeOps_cons ?_ seeOps_nil))))))))))))
      · intro w9 hb9 fr hout hin
        have h10 : fr.tmps.getD 10 undef = .int .u64 (p : Nat) := hout 10 (by decide)
        clear hout hin
        exact relStep_move (.tmp 10) rfl (wanted_none rfl) (by show fr.tmps.getD 10 undef = _; rw [h10])
      · intro w9 hb9 fr hout hin
        have h8 : fr.tmps.getD 8 undef = .int .u64 (y : Nat) := hout 8 (by decide)
        clear hout hin
        exact relStep_move (.tmp 8) rfl (wanted_none rfl) (by show fr.tmps.getD 8 undef = _; rw [h8])
      · intro w9 hb9 fr hout hin
        have h45 : fr.tmps.getD 45 undef = .int .u64 (y : Nat) := hin 45 (by decide) (by decide)
        clear hout hin
        exact gs_buildW (.tmp 45) rfl h45 (wanted_none rfl) rfl
      · intro w9 hb9 fr hout hin
        have h9 : fr.tmps.getD 9 undef = .int .u64 (m : Nat) := hout 9 (by decide)
        clear hout hin
        exact relStep_move (.tmp 9) rfl (wanted_none rfl) (by show fr.tmps.getD 9 undef = _; rw [h9])
      · intro w9 hb9 fr hout hin
        have h47 : fr.tmps.getD 47 undef = .int .u64 (m : Nat) := hin 47 (by decide) (by decide)
        clear hout hin
        exact gs_buildW (.tmp 47) rfl h47 (wanted_none rfl) rfl
      · intro w9 hb9 fr hout hin
        have h44 : fr.tmps.getD 44 undef = .int .u64 (p : Nat) := hin 44 (by decide) (by decide)
        have h46 : fr.tmps.getD 46 undef = .agg #[.int .u64 (y : Nat), .int .u64 0, .int .u64 0, .int .u64 0] := hin 46 (by decide) (by decide)
        have h48 : fr.tmps.getD 48 undef = .agg #[.int .u64 (m : Nat), .int .u64 0, .int .u64 0, .int .u64 0] := hin 48 (by decide) (by decide)
        clear hout hin
        exact gs_call3 (.tmp 44) (.tmp 46) (.tmp 48) rfl en_gsGrow (wanted_none rfl) (by rw [show fr.eval (.tmp 44) = _ from h44, show fr.eval (.tmp 46) = _ from h46, show fr.eval (.tmp 48) = _ from h48]; exact (KG2.out w9).mono fun _ _ h => RetV.gs h) (fun _ _ h => h)
      · intro w9 hb9 fr hout hin
        have h49 : fr.tmps.getD 49 undef = .tuple #[.int .u64 (q : Nat), .int .u64 (d : Nat), .bool true] := hin 49 (by decide) (by decide)
        clear hout hin
        exact relStep_move (.tmp 49) rfl (wanted_none rfl) (by show fr.tmps.getD 49 undef = _; rw [h49])
      · intro w9 hb9 fr hout hin
        have h43 : fr.tmps.getD 43 undef = .tuple #[.int .u64 (q : Nat), .int .u64 (d : Nat), .bool true] := hin 43 (by decide) (by decide)
        clear hout hin
        exact gs_ext (.tmp 43) 0 rfl h43 rfl (wanted_none rfl) rfl
      · intro w9 hb9 fr hout hin
        have h43 : fr.tmps.getD 43 undef = .tuple #[.int .u64 (q : Nat), .int .u64 (d : Nat), .bool true] := hin 43 (by decide) (by decide)
        clear hout hin
        exact gs_ext (.tmp 43) 1 rfl h43 rfl (wanted_none rfl) rfl
      · intro w9 hb9 fr hout hin
        have h43 : fr.tmps.getD 43 undef = .tuple #[.int .u64 (q : Nat), .int .u64 (d : Nat), .bool true] := hin 43 (by decide) (by decide)
        clear hout hin
        exact gs_ext (.tmp 43) 2 rfl h43 rfl (wanted_none rfl) rfl
      · intro w9 hb9 fr hout hin
        have h50 : fr.tmps.getD 50 undef = .int .u64 (q : Nat) := hin 50 (by decide) (by decide)
        clear hout hin
        exact relStep_assign (.tmp 50) rfl (wanted_none rfl) (by show fr.tmps.getD 50 undef = _; rw [h50])
      · intro w9 hb9 fr hout hin
        have h51 : fr.tmps.getD 51 undef = .int .u64 (d : Nat) := hin 51 (by decide) (by decide)
        clear hout hin
        exact relStep_assign (.tmp 51) rfl (wanted_none rfl) (by show fr.tmps.getD 51 undef = _; rw [h51])
      · intro w9 hb9 fr hout hin
        have h52 : fr.tmps.getD 52 undef = .bool true := hin 52 (by decide) (by decide)
        clear hout hin
        exact relStep_assign (.tmp 52) rfl (wanted_none rfl) (by show fr.tmps.getD 52 undef = _; rw [h52])
    intro X6 hbn
    refine relAsk_in (by rfl) ?_
    intro v44 h44
    obtain rfl : v44 = .int .u64 (p : Nat) := h44
    refine relAsk_in (by rfl) ?_
    intro v45 h45
    obtain rfl : v45 = .int .u64 (y : Nat) := h45
    refine relAsk_in (by rfl) ?_
    intro v46 h46
    obtain rfl : v46 = .agg #[.int .u64 (y : Nat), .int .u64 0, .int .u64 0, .int .u64 0] := h46
    refine relAsk_in (by rfl) ?_
    intro v47 h47
    obtain rfl : v47 = .int .u64 (m : Nat) := h47
    refine relAsk_in (by rfl) ?_
    intro v48 h48
    obtain rfl : v48 = .agg #[.int .u64 (m : Nat), .int .u64 0, .int .u64 0, .int .u64 0] := h48
    refine relAsk_in (by rfl) ?_
    intro v49 h49
    obtain rfl : v49 = .tuple #[.int .u64 (q : Nat), .int .u64 (d : Nat), .bool true] := h49
    refine relAsk_in (by rfl) ?_
    intro v43 h43
    obtain rfl : v43 = .tuple #[.int .u64 (q : Nat), .int .u64 (d : Nat), .bool true] := h43
    refine relAsk_in (by rfl) ?_
    intro v50 h50
    obtain rfl : v50 = .int .u64 (q : Nat) := h50
    refine relAsk_in (by rfl) ?_
    intro v51 h51
    obtain rfl : v51 = .int .u64 (d : Nat) := h51
    refine relAsk_in (by rfl) ?_
    intro v52 h52
    obtain rfl : v52 = .bool true := h52
    refine relAsk_in (by rfl) ?_
    intro v13 h13
    obtain rfl : v13 = .int .u64 (q : Nat) := h13
    refine relAsk_in (by rfl) ?_
    intro v14 h14
    obtain rfl : v14 = .int .u64 (d : Nat) := h14
    refine relAsk_in (by rfl) ?_
    intro v15 h15
    obtain rfl : v15 = .bool true := h15
    refine relAsk_nil ?_
    refine wpList_nil ?_
    have HB2 := Lib.hid (HB.out.trans (hbn.mono HB.out.size))
    replace HB := HB2
    clear hbn
    go_simp
    go_upto_region 7 with (fail)
    refine wp_region_seq 12 [54, 55, 56, 57, 58, 53, 59, 60, 61, 16, 17, 18] [(54, .is (.int .u64 (y : Nat))), (55, .is (.agg #[.int .u64 (y : Nat), .int .u64 0, .int .u64 0, .int .u64 0])), (56, .is (.int .u64 (m : Nat))), (57, .is (.agg #[.int .u64 (m : Nat), .int .u64 0, .int .u64 0, .int .u64 0])), (58, .is (.tuple #[.int .u64 (q : Nat), .int .u64 (e : Nat), .bool true])), (53, .is (.tuple #[.int .u64 (q : Nat), .int .u64 (e : Nat), .bool true])), (59, .is (.int .u64 (q : Nat))), (60, .is (.int .u64 (e : Nat))), (61, .is (.bool true)), (16, .is (.int .u64 (q : Nat))), (17, .is (.int .u64 (e : Nat))), (18, .is (.bool true))] (by kernel_rfl) (by rfl) ?_ ?_
    · refine seeOps_cons ?_ (seeOps_cons ?_ (seeOps_cons ?_ (seeOps_cons ?_ (seeOps_cons ?_ (seeOps_cons ?_ (seeOps_cons ?_ (seeOps_cons ?_ (seeOps_cons ?_ (seeOps_cons ?_ (seeOps_cons ?_ (seeOps_cons ?_ seeOps_nil)))))))))))
      · intro w9 hb9 fr hout hin
        have h8 : fr.tmps.getD 8 undef = .int .u64 (y : Nat) := hout 8 (by decide)
        clear hout hin
        exact relStep_move (.tmp 8) rfl (wanted_none rfl) (by show fr.tmps.getD 8 undef = _; rw [h8])
      · intro w9 hb9 fr hout hin
        have h54 : fr.tmps.getD 54 undef = .int .u64 (y : Nat) := hin 54 (by decide) (by decide)
        clear hout hin
        exact gs_buildW (.tmp 54) rfl h54 (wanted_none rfl) rfl
      · intro w9 hb9 fr hout hin
        have h9 : fr.tmps.getD 9 undef = .int .u64 (m : Nat) := hout 9 (by decide)
        clear hout hin
        exact relStep_move (.tmp 9) rfl (wanted_none rfl) (by show fr.tmps.getD 9 undef = _; rw [h9])
      · intro w9 hb9 fr hout hin
        have h56 : fr.tmps.getD 56 undef = .int .u64 (m : Nat) := hin 56 (by decide) (by decide)
        clear hout hin
        exact gs_buildW (.tmp 56) rfl h56 (wanted_none rfl) rfl
      · intro w9 hb9 fr hout hin
        have h55 : fr.tmps.getD 55 undef = .agg #[.int .u64 (y : Nat), .int .u64 0, .int .u64 0, .int .u64 0] := hin 55 (by decide) (by decide)
        have h57 : fr.tmps.getD 57 undef = .agg #[.int .u64 (m : Nat), .int .u64 0, .int .u64 0, .int .u64 0] := hin 57 (by decide) (by decide)
        clear hout hin
        exact gs_call3 (.const (.int .u64 0)) (.tmp 55) (.tmp 57) rfl en_gsGrow (wanted_none rfl) (by rw [show fr.eval (.tmp 55) = _ from h55, show fr.eval (.tmp 57) = _ from h57]; exact (KG3.out w9).mono fun _ _ h => RetV.gs h) (fun _ _ h => h)
      · intro w9 hb9 fr hout hin
        have h58 : fr.tmps.getD 58 undef = .tuple #[.int .u64 (q : Nat), .int .u64 (e : Nat), .bool true] := hin 58 (by decide) (by decide)
        clear hout hin
        exact relStep_move (.tmp 58) rfl (wanted_none rfl) (by show fr.tmps.getD 58 undef = _; rw [h58])
      · intro w9 hb9 fr hout hin
        have h53 : fr.tmps.getD 53 undef = .tuple #[.int .u64 (q : Nat), .int .u64 (e : Nat), .bool true] := hin 53 (by decide) (by decide)
        clear hout hin
        exact gs_ext (.tmp 53) 0 rfl h53 rfl (wanted_none rfl) rfl
      · intro w9 hb9 fr hout hin
        have h53 : fr.tmps.getD 53 undef = .tuple #[.int .u64 (q : Nat), .int .u64 (e : Nat), .bool true] := hin 53 (by decide) (by decide)
        clear hout hin
        exact gs_ext (.tmp 53) 1 rfl h53 rfl (wanted_none rfl) rfl
      · intro w9 hb9 fr hout hin
        have h53 : fr.tmps.getD 53 undef = .tuple #[.int .u64 (q : Nat), .int .u64 (e : Nat), .bool true] := hin 53 (by decide) (by decide)
        clear hout hin
        exact gs_ext (.tmp 53) 2 rfl h53 rfl (wanted_none rfl) rfl
      · intro w9 hb9 fr hout hin
        have h59 : fr.tmps.getD 59 undef = .int .u64 (q : Nat) := hin 59 (by decide) (by decide)
        clear hout hin
        exact relStep_assign (.tmp 59) rfl (wanted_none rfl) (by show fr.tmps.getD 59 undef = _; rw [h59])
      · intro w9 hb9 fr hout hin
        have h60 : fr.tmps.getD 60 undef = .int .u64 (e : Nat) := hin 60 (by decide) (by decide)
        clear hout hin
        exact relStep_assign (.tmp 60) rfl (wanted_none rfl) (by show fr.tmps.getD 60 undef = _; rw [h60])
      · intro w9 hb9 fr hout hin
        have h61 : fr.tmps.getD 61 undef = .bool true := hin 61 (by decide) (by decide)
        clear hout hin
        exact relStep_assign (.tmp 61) rfl (wanted_none rfl) (by show fr.tmps.getD 61 undef = _; rw [h61])
    intro X7 hbn
    refine relAsk_in (by rfl) ?_
    intro v54 h54
    obtain rfl : v54 = .int .u64 (y : Nat) := h54
    refine relAsk_in (by rfl) ?_
    intro v55 h55
    obtain rfl : v55 = .agg #[.int .u64 (y : Nat), .int .u64 0, .int .u64 0, .int .u64 0] := h55
    refine relAsk_in (by rfl) ?_
    intro v56 h56
    obtain rfl : v56 = .int .u64 (m : Nat) := h56
    refine relAsk_in (by rfl) ?_
    intro v57 h57
    obtain rfl : v57 = .agg #[.int .u64 (m : Nat), .int .u64 0, .int .u64 0, .int .u64 0] := h57
    refine relAsk_in (by rfl) ?_
    intro v58 h58
    obtain rfl : v58 = .tuple #[.int .u64 (q : Nat), .int .u64 (e : Nat), .bool true] := h58
    refine relAsk_in (by rfl) ?_
    intro v53 h53
    obtain rfl : v53 = .tuple #[.int .u64 (q : Nat), .int .u64 (e : Nat), .bool true] := h53
    refine relAsk_in (by rfl) ?_
    intro v59 h59
    obtain rfl : v59 = .int .u64 (q : Nat) := h59
    refine relAsk_in (by rfl) ?_
    intro v60 h60
    obtain rfl : v60 = .int .u64 (e : Nat) := h60
    refine relAsk_in (by rfl) ?_
    intro v61 h61
    obtain rfl : v61 = .bool true := h61
    refine relAsk_in (by rfl) ?_
    intro v16 h16
    obtain rfl : v16 = .int .u64 (q : Nat) := h16
    refine relAsk_in (by rfl) ?_
    intro v17 h17
    obtain rfl : v17 = .int .u64 (e : Nat) := h17
    refine relAsk_in (by rfl) ?_
    intro v18 h18
    obtain rfl : v18 = .bool true := h18
    refine relAsk_nil ?_
    refine wpList_nil ?_
    have HB2 := Lib.hid (HB.out.trans (hbn.mono HB.out.size))
    replace HB := HB2
    clear hbn
    go_simp
    go_upto_region 8 with (fail)
    refine wp_region_seq 14 [62, 63, 64, 65, 66, 67, 68, 69, 70, 71, 72, 73, 74, 75] [(62, .is (.bool true)), (63, .is (.bool false)), (64, .is (.bool false)), (65, .is (.bool true)), (66, .is (.bool false)), (67, .is (.bool false)), (68, .is (.bool false)), (69, .is (.bool true)), (70, .is (.bool false)), (71, .is (.bool false)), (72, .is (.bool false)), (73, .is (.bool true)), (74, .is (.bool false)), (75, .is (.bool false))] (by kernel_rfl) (by rfl) ?_ ?_
    · refine seeOps_cons ?_ (seeOps_cons ?_ (seeOps_cons ?_ (seeOps_cons ?_ (seeOps_cons ?_ (seeOps_cons ?_ (seeOps_cons ?_ (seeOps_cons ?_ (seeOps_cons ?_ (seeOps_cons ?_ (seeOps_cons ?_ (seeOps_cons ?_ (seeOps_cons ?_ (seeOps_cons ?_ seeOps_nil)))))))))))))
      · intro w9 hb9 fr hout hin
        have h12 : fr.tmps.getD 12 undef = .bool true := hout 12 (by decide)
        clear hout hin
        exact relStep_move (.tmp 12) rfl (wanted_none rfl) (by show fr.tmps.getD 12 undef = _; rw [h12])
      · intro w9 hb9 fr hout hin
        have h62 : fr.tmps.getD 62 undef = .bool true := hin 62 (by decide) (by decide)
        clear hout hin
        exact gs_not (b := true) (.tmp 62) _ rfl h62 (wanted_none rfl) rfl
      · intro w9 hb9 fr hout hin
        have h63 : fr.tmps.getD 63 undef = .bool false := hin 63 (by decide) (by decide)
        clear hout hin
        exact relStep_move (.tmp 63) rfl (wanted_none rfl) (by show fr.tmps.getD 63 undef = _; rw [h63])
      · intro w9 hb9 fr hout hin
        have h15 : fr.tmps.getD 15 undef = .bool true := hout 15 (by decide)
        have h64 : fr.tmps.getD 64 undef = .bool false := hin 64 (by decide) (by decide)
        clear hout hin
        exact relStep_move (.tmp 15) rfl (wanted_some (g := 2) (t := 64) (b := false) rfl rfl h64) (by show fr.tmps.getD 15 undef = _; rw [h15])
      · intro w9 hb9 fr hout hin
        have h65 : fr.tmps.getD 65 undef = .bool true := hin 65 (by decide) (by decide)
        have h64 : fr.tmps.getD 64 undef = .bool false := hin 64 (by decide) (by decide)
        clear hout hin
        exact gs_not (b := true) (.tmp 65) _ rfl h65 (wanted_some (g := 2) (t := 64) (b := false) rfl rfl h64) rfl
      · intro w9 hb9 fr hout hin
        have h64 : fr.tmps.getD 64 undef = .bool false := hin 64 (by decide) (by decide)
        have h66 : fr.tmps.getD 66 undef = .bool false := hin 66 (by decide) (by decide)
        clear hout hin
        exact relStep_pickF (.tmp 64) (.const (.bool true)) (.tmp 66) rfl h64 (wanted_none rfl) (by show fr.tmps.getD 66 undef = _; rw [h66])
      · intro w9 hb9 fr hout hin
        have h67 : fr.tmps.getD 67 undef = .bool false := hin 67 (by decide) (by decide)
        clear hout hin
        exact relStep_move (.tmp 67) rfl (wanted_none rfl) (by show fr.tmps.getD 67 undef = _; rw [h67])
      · intro w9 hb9 fr hout hin
        have h18 : fr.tmps.getD 18 undef = .bool true := hout 18 (by decide)
        have h68 : fr.tmps.getD 68 undef = .bool false := hin 68 (by decide) (by decide)
        clear hout hin
        exact relStep_move (.tmp 18) rfl (wanted_some (g := 6) (t := 68) (b := false) rfl rfl h68) (by show fr.tmps.getD 18 undef = _; rw [h18])
      · intro w9 hb9 fr hout hin
        have h69 : fr.tmps.getD 69 undef = .bool true := hin 69 (by decide) (by decide)
        have h68 : fr.tmps.getD 68 undef = .bool false := hin 68 (by decide) (by decide)
        clear hout hin
        exact gs_not (b := true) (.tmp 69) _ rfl h69 (wanted_some (g := 6) (t := 68) (b := false) rfl rfl h68) rfl
      · intro w9 hb9 fr hout hin
        have h68 : fr.tmps.getD 68 undef = .bool false := hin 68 (by decide) (by decide)
        have h70 : fr.tmps.getD 70 undef = .bool false := hin 70 (by decide) (by decide)
        clear hout hin
        exact relStep_pickF (.tmp 68) (.const (.bool true)) (.tmp 70) rfl h68 (wanted_none rfl) (by show fr.tmps.getD 70 undef = _; rw [h70])
      · intro w9 hb9 fr hout hin
        have h71 : fr.tmps.getD 71 undef = .bool false := hin 71 (by decide) (by decide)
        clear hout hin
        exact relStep_move (.tmp 71) rfl (wanted_none rfl) (by show fr.tmps.getD 71 undef = _; rw [h71])
      · intro w9 hb9 fr hout hin
        have h72 : fr.tmps.getD 72 undef = .bool false := hin 72 (by decide) (by decide)
        clear hout hin
        exact gs_call0 rfl en_gsWakes (wanted_some (g := 10) (t := 72) (b := false) rfl rfl h72) (by exact (gswakes_c w9).mono fun _ _ h => RetV.gs h) (fun _ _ h => h)
      · intro w9 hb9 fr hout hin
        have h73 : fr.tmps.getD 73 undef = .bool true := hin 73 (by decide) (by decide)
        have h72 : fr.tmps.getD 72 undef = .bool false := hin 72 (by decide) (by decide)
        clear hout hin
        exact gs_not (b := true) (.tmp 73) _ rfl h73 (wanted_some (g := 10) (t := 72) (b := false) rfl rfl h72) rfl
      · intro w9 hb9 fr hout hin
        have h72 : fr.tmps.getD 72 undef = .bool false := hin 72 (by decide) (by decide)
        have h74 : fr.tmps.getD 74 undef = .bool false := hin 74 (by decide) (by decide)
        clear hout hin
        exact relStep_pickF (.tmp 72) (.const (.bool true)) (.tmp 74) rfl h72 (wanted_none rfl) (by show fr.tmps.getD 74 undef = _; rw [h74])
    intro X8 hbn
    refine relAsk_in (by rfl) ?_
    intro v62 h62
    obtain rfl : v62 = .bool true := h62
    refine relAsk_in (by rfl) ?_
    intro v63 h63
    obtain rfl : v63 = .bool false := h63
    refine relAsk_in (by rfl) ?_
    intro v64 h64
    obtain rfl : v64 = .bool false := h64
    refine relAsk_in (by rfl) ?_
    intro v65 h65
    obtain rfl : v65 = .bool true := h65
    refine relAsk_in (by rfl) ?_
    intro v66 h66
    obtain rfl : v66 = .bool false := h66
    refine relAsk_in (by rfl) ?_
    intro v67 h67
    obtain rfl : v67 = .bool false := h67
    refine relAsk_in (by rfl) ?_
    intro v68 h68
    obtain rfl : v68 = .bool false := h68
    refine relAsk_in (by rfl) ?_
    intro v69 h69
    obtain rfl : v69 = .bool true := h69
    refine relAsk_in (by rfl) ?_
    intro v70 h70
    obtain rfl : v70 = .bool false := h70
    refine relAsk_in (by rfl) ?_
    intro v71 h71
    obtain rfl : v71 = .bool false := h71
    refine relAsk_in (by rfl) ?_
    intro v72 h72
    obtain rfl : v72 = .bool false := h72
    refine relAsk_in (by rfl) ?_
    intro v73 h73
    obtain rfl : v73 = .bool true := h73
    refine relAsk_in (by rfl) ?_
    intro v74 h74
    obtain rfl : v74 = .bool false := h74
    refine relAsk_in (by rfl) ?_
    intro v75 h75
    obtain rfl : v75 = .bool false := h75
    refine relAsk_nil ?_
    refine wpList_nil ?_
    have HB2 := Lib.hid (HB.out.trans (hbn.mono HB.out.size))
    replace HB := HB2
    clear hbn
    go_simp
    go_upto_region 10 with (fail)
    refine wp_region_seq 13 [77, 78, 79, 80, 81, 82, 76, 83, 84, 85, 19, 20, 21] [(77, .is (.int .u64 (q : Nat))), (78, .is (.int .u64 (x : Nat))), (79, .is (.agg #[.int .u64 (x : Nat), .int .u64 0, .int .u64 0, .int .u64 0])), (80, .is (.int .u64 (m : Nat))), (81, .is (.agg #[.int .u64 (m : Nat), .int .u64 0, .int .u64 0, .int .u64 0])), (82, .is (.tuple #[.int .u64 (q : Nat), .int .u64 0, .bool true])), (76, .is (.tuple #[.int .u64 (q : Nat), .int .u64 0, .bool true])), (83, .is (.int .u64 (q : Nat))), (84, .is (.int .u64 0)), (85, .is (.bool true)), (19, .is (.int .u64 (q : Nat))), (20, .is (.int .u64 0)), (21, .is (.bool true))] (by kernel_rfl) (by rfl) ?_ ?_
    · refine seeOps_cons ?_ (seeOps_cons ?_ (seeOps_cons ?_ (seeOps_cons ?_ (seeOps_cons ?_ (seeOps_cons ?_ (seeOps_cons ?_ (seeOps_cons ?_ (seeOps_cons ?_ (seeOps_cons ?_ (seeOps_cons ?_ (seeOps_cons ?_ (seeOps_cons ?_ seeOps_nil))))))))))))
      · intro w9 hb9 fr hout hin
        have h13 : fr.tmps.getD 13 undef = .int .u64 (q : Nat) := hout 13 (by decide)
        clear hout hin
        exact relStep_move (.tmp 13) rfl (wanted_none rfl) (by show fr.tmps.getD 13 undef = _; rw [h13])
      · intro w9 hb9 fr hout hin
        have h7 : fr.tmps.getD 7 undef = .int .u64 (x : Nat) := hout 7 (by decide)
        clear hout hin
        exact relStep_move (.tmp 7) rfl (wanted_none rfl) (by show fr.tmps.getD 7 undef = _; rw [h7])
      · intro w9 hb9 fr hout hin
        have h78 : fr.tmps.getD 78 undef = .int .u64 (x : Nat) := hin 78 (by decide) (by decide)
        clear hout hin
        exact gs_buildW (.tmp 78) rfl h78 (wanted_none rfl) rfl
      · intro w9 hb9 fr hout hin
        have h9 : fr.tmps.getD 9 undef = .int .u64 (m : Nat) := hout 9 (by decide)
        clear hout hin
        exact relStep_move (.tmp 9) rfl (wanted_none rfl) (by show fr.tmps.getD 9 undef = _; rw [h9])
      · intro w9 hb9 fr hout hin
        have h80 : fr.tmps.getD 80 undef = .int .u64 (m : Nat) := hin 80 (by decide) (by decide)
        clear hout hin
        exact gs_buildW (.tmp 80) rfl h80 (wanted_none rfl) rfl
      · intro w9 hb9 fr hout hin
        have h77 : fr.tmps.getD 77 undef = .int .u64 (q : Nat) := hin 77 (by decide) (by decide)
        have h79 : fr.tmps.getD 79 undef = .agg #[.int .u64 (x : Nat), .int .u64 0, .int .u64 0, .int .u64 0] := hin 79 (by decide) (by decide)
        have h81 : fr.tmps.getD 81 undef = .agg #[.int .u64 (m : Nat), .int .u64 0, .int .u64 0, .int .u64 0] := hin 81 (by decide) (by decide)
        clear hout hin
        exact gs_call3 (.tmp 77) (.tmp 79) (.tmp 81) rfl en_gsGrow (wanted_none rfl) (by rw [show fr.eval (.tmp 77) = _ from h77, show fr.eval (.tmp 79) = _ from h79, show fr.eval (.tmp 81) = _ from h81]; exact (KG4.out w9).mono fun _ _ h => RetV.gs h) (fun _ _ h => h)
      · intro w9 hb9 fr hout hin
        have h82 : fr.tmps.getD 82 undef = .tuple #[.int .u64 (q : Nat), .int .u64 0, .bool true] := hin 82 (by decide) (by decide)
        clear hout hin
        exact relStep_move (.tmp 82) rfl (wanted_none rfl) (by show fr.tmps.getD 82 undef = _; rw [h82])
      · intro w9 hb9 fr hout hin
        have h76 : fr.tmps.getD 76 undef = .tuple #[.int .u64 (q : Nat), .int .u64 0, .bool true] := hin 76 (by decide) (by decide)
        clear hout hin
        exact gs_ext (.tmp 76) 0 rfl h76 rfl (wanted_none rfl) rfl
      · intro w9 hb9 fr hout hin
        have h76 : fr.tmps.getD 76 undef = .tuple #[.int .u64 (q : Nat), .int .u64 0, .bool true] := hin 76 (by decide) (by decide)
        clear hout hin
        exact gs_ext (.tmp 76) 1 rfl h76 rfl (wanted_none rfl) rfl
      · intro w9 hb9 fr hout hin
        have h76 : fr.tmps.getD 76 undef = .tuple #[.int .u64 (q : Nat), .int .u64 0, .bool true] := hin 76 (by decide) (by decide)
        clear hout hin
        exact gs_ext (.tmp 76) 2 rfl h76 rfl (wanted_none rfl) rfl
      · intro w9 hb9 fr hout hin
        have h83 : fr.tmps.getD 83 undef = .int .u64 (q : Nat) := hin 83 (by decide) (by decide)
        clear hout hin
        exact relStep_assign (.tmp 83) rfl (wanted_none rfl) (by show fr.tmps.getD 83 undef = _; rw [h83])
      · intro w9 hb9 fr hout hin
        have h84 : fr.tmps.getD 84 undef = .int .u64 0 := hin 84 (by decide) (by decide)
        clear hout hin
        exact relStep_assign (.tmp 84) rfl (wanted_none rfl) (by show fr.tmps.getD 84 undef = _; rw [h84])
      · intro w9 hb9 fr hout hin
        have h85 : fr.tmps.getD 85 undef = .bool true := hin 85 (by decide) (by decide)
        clear hout hin
        exact relStep_assign (.tmp 85) rfl (wanted_none rfl) (by show fr.tmps.getD 85 undef = _; rw [h85])
    intro X10 hbn
    refine relAsk_in (by rfl) ?_
    intro v77 h77
    obtain rfl : v77 = .int .u64 (q : Nat) := h77
    refine relAsk_in (by rfl) ?_
    intro v78 h78
    obtain rfl : v78 = .int .u64 (x : Nat) := h78
    refine relAsk_in (by rfl) ?_
    intro v79 h79
    obtain rfl : v79 = .agg #[.int .u64 (x : Nat), .int .u64 0, .int .u64 0, .int .u64 0] := h79
    refine relAsk_in (by rfl) ?_
    intro v80 h80
    obtain rfl : v80 = .int .u64 (m : Nat) := h80
    refine relAsk_in (by rfl) ?_
    intro v81 h81
    obtain rfl : v81 = .agg #[.int .u64 (m : Nat), .int .u64 0, .int .u64 0, .int .u64 0] := h81
    refine relAsk_in (by rfl) ?_
    intro v82 h82
    obtain rfl : v82 = .tuple #[.int .u64 (q : Nat), .int .u64 0, .bool true] := h82
    refine relAsk_in (by rfl) ?_
    intro v76 h76
    obtain rfl : v76 = .tuple #[.int .u64 (q : Nat), .int .u64 0, .bool true] := h76
    refine relAsk_in (by rfl) ?_
    intro v83 h83
    obtain rfl : v83 = .int .u64 (q : Nat) := h83
    refine relAsk_in (by rfl) ?_
    intro v84 h84
    obtain rfl : v84 = .int .u64 0 := h84
    refine relAsk_in (by rfl) ?_
    intro v85 h85
    obtain rfl : v85 = .bool true := h85
    refine relAsk_in (by rfl) ?_
    intro v19 h19
    obtain rfl : v19 = .int .u64 (q : Nat) := h19
    refine relAsk_in (by rfl) ?_
    intro v20 h20
    obtain rfl : v20 = .int .u64 0 := h20
    refine relAsk_in (by rfl) ?_
    intro v21 h21
    obtain rfl : v21 = .bool true := h21
    refine relAsk_nil ?_
    refine wpList_nil ?_
    have HB2 := Lib.hid (HB.out.trans (hbn.mono HB.out.size))
    replace HB := HB2
    clear hbn
    go_simp
    go_upto_region 11 with (fail)
    refine wp_region_seq 43 [86, 87, 88, 89, 90, 91, 92, 93, 94, 95, 96, 97, 98, 99, 100, 101, 102, 103, 104, 105, 106, 107, 108, 109, 110, 111, 112, 113, 114, 115, 116, 117, 118, 119, 120, 121, 122, 123, 124, 125, 126, 127, 6] [(86, .is (.int .u64 (q : Nat))), (87, .is (.int .u64 (q : Nat))), (88, .is (.bool true)), (89, .is (.bool true)), (90, .is (.int .u64 (c : Nat))), (91, .is (.int .u64 (d : Nat))), (92, .is (.int .u64 (e : Nat))), (93, .is (.int .u64 (e : Nat))), (94, .is (.bool true)), (95, .is (.bool true)), (96, .is (.bool true)), (97, .is (.int .u64 (q : Nat))), (98, .is (.int .u64 (y : Nat))), (99, .is (.int .u64 (m : Nat))), (100, .is (.int .u64 (s1 : Nat))), (101, .is (.bool true)), (102, .is (.bool true)), (103, .is (.bool true)), (104, .is (.int .u64 (q : Nat))), (105, .is (.int .u64 0)), (106, .is (.bool true)), (107, .is (.bool true)), (108, .is (.bool true)), (109, .is (.int .u64 (q : Nat))), (110, .is (.int .u64 (y : Nat))), (111, .is (.int .u64 (m : Nat))), (112, .is (.int .u64 (s1 : Nat))), (113, .is (.int .u64 (s2 : Nat))), (114, .is (.bool true)), (115, .is (.bool true)), (116, .is (.bool true)), (117, .is (.int .u64 (q : Nat))), (118, .is (.int .u64 (q : Nat))), (119, .is (.bool true)), (120, .is (.bool true)), (121, .is (.bool true)), (122, .is (.int .u64 0)), (123, .is (.bool true)), (124, .is (.bool true)), (125, .is (.bool true)), (126, .is (.bool true)), (127, .is (.bool true)), (6, .is (.bool true))] (by kernel_rfl) (by rfl) ?_ ?_
    · refine seeOps_cons ?_ (seeOps_cons ?_ (seeOps_cons ?_ (seeOps_cons ?_ (seeOps_cons ?_ (seeOps_cons ?_ (seeOps_cons ?_ (seeOps_cons ?_ (seeOps_cons ?_ (seeOps_cons ?_ (seeOps_cons ?_ (seeOps_cons ?_ (seeOps_cons ?_ (seeOps_cons ?_ (seeOps_cons ?_ (seeOps_cons ?_ (seeOps_cons ?_ (seeOps_cons ?_ (seeOps_cons ?_ (seeOps_cons ?_ (seeOps_cons ?_ (seeOps_cons ?_ (seeOps_cons ?_ (seeOps_cons ?_ (seeOps_cons ?_ (seeOps_cons ?_ (seeOps_cons ?_ (seeOps_cons ?_ (seeOps_cons ?_ (seeOps_cons ?_ (seeOps_cons ?_ (seeOps_cons ?_ (seeOps_cons ?_ (seeOps_cons ?_ (seeOps_cons ?_ (seeOps_cons ?_ (seeOps_cons ?_ (seeOps_cons ?_ (seeOps_cons ?_ (seeOps_cons ?_ (seeOps_cons ?_ (seeOps_cons ?_ (seeOps_cons ?_ seeOps_nil))))))))))))))))))))))))))))))))))))))))))
      · intro w9 hb9 fr hout hin
        have h13 : fr.tmps.getD 13 undef = .int .u64 (q : Nat) := hout 13 (by decide)
        clear hout hin
        exact relStep_move (.tmp 13) rfl (wanted_none rfl) (by show fr.tmps.getD 13 undef = _; rw [h13])
      · intro w9 hb9 fr hout hin
        have h16 : fr.tmps.getD 16 undef = .int .u64 (q : Nat) := hout 16 (by decide)
        clear hout hin
        exact relStep_move (.tmp 16) rfl (wanted_none rfl) (by show fr.tmps.getD 16 undef = _; rw [h16])
      · intro w9 hb9 fr hout hin
        have h86 : fr.tmps.getD 86 undef = .int .u64 (q : Nat) := hin 86 (by decide) (by decide)
        have h87 : fr.tmps.getD 87 undef = .int .u64 (q : Nat) := hin 87 (by decide) (by decide)
        clear hout hin
        exact op_eqU (.tmp 86) (.tmp 87) _ rfl h86 h87 (wanted_none rfl) rfl
      · intro w9 hb9 fr hout hin
        have h88 : fr.tmps.getD 88 undef = .bool true := hin 88 (by decide) (by decide)
        clear hout hin
        exact relStep_move (.tmp 88) rfl (wanted_none rfl) (by show fr.tmps.getD 88 undef = _; rw [h88])
      · intro w9 hb9 fr hout hin
        have h11 : fr.tmps.getD 11 undef = .int .u64 (c : Nat) := hout 11 (by decide)
        have h89 : fr.tmps.getD 89 undef = .bool true := hin 89 (by decide) (by decide)
        clear hout hin
        exact relStep_move (.tmp 11) rfl (wanted_some (g := 3) (t := 89) (b := true) rfl rfl h89) (by show fr.tmps.getD 11 undef = _; rw [h11])
      · intro w9 hb9 fr hout hin
        have h14 : fr.tmps.getD 14 undef = .int .u64 (d : Nat) := hout 14 (by decide)
        have h89 : fr.tmps.getD 89 undef = .bool true := hin 89 (by decide) (by decide)
        clear hout hin
        exact relStep_move (.tmp 14) rfl (wanted_some (g := 3) (t := 89) (b := true) rfl rfl h89) (by show fr.tmps.getD 14 undef = _; rw [h14])
      · intro w9 hb9 fr hout hin
        have h90 : fr.tmps.getD 90 undef = .int .u64 (c : Nat) := hin 90 (by decide) (by decide)
        have h91 : fr.tmps.getD 91 undef = .int .u64 (d : Nat) := hin 91 (by decide) (by decide)
        have h89 : fr.tmps.getD 89 undef = .bool true := hin 89 (by decide) (by decide)
        clear hout hin
        exact gs_bin .add 22 (.tmp 90) (.tmp 91) _ rfl h90 h91 (fun w => by go_simp) (fun w => by have := HE.out; go_simp) (wanted_some (g := 3) (t := 89) (b := true) rfl rfl h89) rfl
      · intro w9 hb9 fr hout hin
        have h17 : fr.tmps.getD 17 undef = .int .u64 (e : Nat) := hout 17 (by decide)
        have h89 : fr.tmps.getD 89 undef = .bool true := hin 89 (by decide) (by decide)
        clear hout hin
        exact relStep_move (.tmp 17) rfl (wanted_some (g := 3) (t := 89) (b := true) rfl rfl h89) (by show fr.tmps.getD 17 undef = _; rw [h17])
      · intro w9 hb9 fr hout hin
        have h92 : fr.tmps.getD 92 undef = .int .u64 (e : Nat) := hin 92 (by decide) (by decide)
        have h93 : fr.tmps.getD 93 undef = .int .u64 (e : Nat) := hin 93 (by decide) (by decide)
        have h89 : fr.tmps.getD 89 undef = .bool true := hin 89 (by decide) (by decide)
        clear hout hin
        exact op_eqU (.tmp 92) (.tmp 93) _ rfl h92 h93 (wanted_some (g := 3) (t := 89) (b := true) rfl rfl h89) rfl
      · intro w9 hb9 fr hout hin
        have h89 : fr.tmps.getD 89 undef = .bool true := hin 89 (by decide) (by decide)
        have h94 : fr.tmps.getD 94 undef = .bool true := hin 94 (by decide) (by decide)
        clear hout hin
        exact relStep_pick (.tmp 89) (.tmp 94) (.const (.bool false)) rfl h89 (wanted_none rfl) (by show fr.tmps.getD 94 undef = _; rw [h94])
      · intro w9 hb9 fr hout hin
        have h95 : fr.tmps.getD 95 undef = .bool true := hin 95 (by decide) (by decide)
        clear hout hin
        exact relStep_move (.tmp 95) rfl (wanted_none rfl) (by show fr.tmps.getD 95 undef = _; rw [h95])
      · intro w9 hb9 fr hout hin
        have h13 : fr.tmps.getD 13 undef = .int .u64 (q : Nat) := hout 13 (by decide)
        have h96 : fr.tmps.getD 96 undef = .bool true := hin 96 (by decide) (by decide)
        clear hout hin
        exact relStep_move (.tmp 13) rfl (wanted_some (g := 10) (t := 96) (b := true) rfl rfl h96) (by show fr.tmps.getD 13 undef = _; rw [h13])
      · intro w9 hb9 fr hout hin
        have h8 : fr.tmps.getD 8 undef = .int .u64 (y : Nat) := hout 8 (by decide)
        have h96 : fr.tmps.getD 96 undef = .bool true := hin 96 (by decide) (by decide)
        clear hout hin
        exact relStep_move (.tmp 8) rfl (wanted_some (g := 10) (t := 96) (b := true) rfl rfl h96) (by show fr.tmps.getD 8 undef = _; rw [h8])
      · intro w9 hb9 fr hout hin
        have h9 : fr.tmps.getD 9 undef = .int .u64 (m : Nat) := hout 9 (by decide)
        have h96 : fr.tmps.getD 96 undef = .bool true := hin 96 (by decide) (by decide)
        clear hout hin
        exact relStep_move (.tmp 9) rfl (wanted_some (g := 10) (t := 96) (b := true) rfl rfl h96) (by show fr.tmps.getD 9 undef = _; rw [h9])
      · intro w9 hb9 fr hout hin
        have h98 : fr.tmps.getD 98 undef = .int .u64 (y : Nat) := hin 98 (by decide) (by decide)
        have h99 : fr.tmps.getD 99 undef = .int .u64 (m : Nat) := hin 99 (by decide) (by decide)
        have h96 : fr.tmps.getD 96 undef = .bool true := hin 96 (by decide) (by decide)
        clear hout hin
        exact gs_bin .add 22 (.tmp 98) (.tmp 99) _ rfl h98 h99 (fun w => by go_simp) (fun w => by have := HS1.out; go_simp) (wanted_some (g := 10) (t := 96) (b := true) rfl rfl h96) rfl
      · intro w9 hb9 fr hout hin
        have h97 : fr.tmps.getD 97 undef = .int .u64 (q : Nat) := hin 97 (by decide) (by decide)
        have h100 : fr.tmps.getD 100 undef = .int .u64 (s1 : Nat) := hin 100 (by decide) (by decide)
        have h96 : fr.tmps.getD 96 undef = .bool true := hin 96 (by decide) (by decide)
        clear hout hin
        exact gs_bin .geq 22 (.tmp 97) (.tmp 100) _ rfl h97 h100 (fun w => by go_simp) (fun w => by have := HG1.out; go_simp) (wanted_some (g := 10) (t := 96) (b := true) rfl rfl h96) rfl
      · intro w9 hb9 fr hout hin
        have h96 : fr.tmps.getD 96 undef = .bool true := hin 96 (by decide) (by decide)
        have h101 : fr.tmps.getD 101 undef = .bool true := hin 101 (by decide) (by decide)
        clear hout hin
        exact relStep_pick (.tmp 96) (.tmp 101) (.const (.bool false)) rfl h96 (wanted_none rfl) (by show fr.tmps.getD 101 undef = _; rw [h101])
      · intro w9 hb9 fr hout hin
        have h102 : fr.tmps.getD 102 undef = .bool true := hin 102 (by decide) (by decide)
        clear hout hin
        exact relStep_move (.tmp 102) rfl (wanted_none rfl) (by show fr.tmps.getD 102 undef = _; rw [h102])
      · intro w9 hb9 fr hout hin
        have h13 : fr.tmps.getD 13 undef = .int .u64 (q : Nat) := hout 13 (by decide)
        have h103 : fr.tmps.getD 103 undef = .bool true := hin 103 (by decide) (by decide)
        clear hout hin
        exact relStep_move (.tmp 13) rfl (wanted_some (g := 17) (t := 103) (b := true) rfl rfl h103) (by show fr.tmps.getD 13 undef = _; rw [h13])
      · intro w9 hb9 fr hout hin
        have h104 : fr.tmps.getD 104 undef = .int .u64 (q : Nat) := hin 104 (by decide) (by decide)
        have h103 : fr.tmps.getD 103 undef = .bool true := hin 103 (by decide) (by decide)
        clear hout hin
        exact gs_bin .rem 22 (.tmp 104) (.const (.int .u64 32)) _ rfl h104 rfl (fun w => by go_simp) (fun w => by have := HR1.out; have := HR2.out; go_simp) (wanted_some (g := 17) (t := 103) (b := true) rfl rfl h103) rfl
      · intro w9 hb9 fr hout hin
        have h105 : fr.tmps.getD 105 undef = .int .u64 0 := hin 105 (by decide) (by decide)
        have h103 : fr.tmps.getD 103 undef = .bool true := hin 103 (by decide) (by decide)
        clear hout hin
        exact gs_bin .eql 22 (.tmp 105) (.const (.int .u64 0)) _ rfl h105 rfl (fun w => by go_simp) (fun w => by go_simp) (wanted_some (g := 17) (t := 103) (b := true) rfl rfl h103) rfl
      · intro w9 hb9 fr hout hin
        have h103 : fr.tmps.getD 103 undef = .bool true := hin 103 (by decide) (by decide)
        have h106 : fr.tmps.getD 106 undef = .bool true := hin 106 (by decide) (by decide)
        clear hout hin
        exact relStep_pick (.tmp 103) (.tmp 106) (.const (.bool false)) rfl h103 (wanted_none rfl) (by show fr.tmps.getD 106 undef = _; rw [h106])
      · intro w9 hb9 fr hout hin
        have h107 : fr.tmps.getD 107 undef = .bool true := hin 107 (by decide) (by decide)
        clear hout hin
        exact relStep_move (.tmp 107) rfl (wanted_none rfl) (by show fr.tmps.getD 107 undef = _; rw [h107])
      · intro w9 hb9 fr hout hin
        have h13 : fr.tmps.getD 13 undef = .int .u64 (q : Nat) := hout 13 (by decide)
        have h108 : fr.tmps.getD 108 undef = .bool true := hin 108 (by decide) (by decide)
        clear hout hin
        exact relStep_move (.tmp 13) rfl (wanted_some (g := 22) (t := 108) (b := true) rfl rfl h108) (by show fr.tmps.getD 13 undef = _; rw [h13])
      · intro w9 hb9 fr hout hin
        have h8 : fr.tmps.getD 8 undef = .int .u64 (y : Nat) := hout 8 (by decide)
        have h108 : fr.tmps.getD 108 undef = .bool true := hin 108 (by decide) (by decide)
        clear hout hin
        exact relStep_move (.tmp 8) rfl (wanted_some (g := 22) (t := 108) (b := true) rfl rfl h108) (by show fr.tmps.getD 8 undef = _; rw [h8])
      · intro w9 hb9 fr hout hin
        have h9 : fr.tmps.getD 9 undef = .int .u64 (m : Nat) := hout 9 (by decide)
        have h108 : fr.tmps.getD 108 undef = .bool true := hin 108 (by decide) (by decide)
        clear hout hin
        exact relStep_move (.tmp 9) rfl (wanted_some (g := 22) (t := 108) (b := true) rfl rfl h108) (by show fr.tmps.getD 9 undef = _; rw [h9])
      · intro w9 hb9 fr hout hin
        have h110 : fr.tmps.getD 110 undef = .int .u64 (y : Nat) := hin 110 (by decide) (by decide)
        have h111 : fr.tmps.getD 111 undef = .int .u64 (m : Nat) := hin 111 (by decide) (by decide)
        have h108 : fr.tmps.getD 108 undef = .bool true := hin 108 (by decide) (by decide)
        clear hout hin
        exact gs_bin .add 22 (.tmp 110) (.tmp 111) _ rfl h110 h111 (fun w => by go_simp) (fun w => by have := HS1.out; go_simp) (wanted_some (g := 22) (t := 108) (b := true) rfl rfl h108) rfl
      · intro w9 hb9 fr hout hin
        have h112 : fr.tmps.getD 112 undef = .int .u64 (s1 : Nat) := hin 112 (by decide) (by decide)
        have h108 : fr.tmps.getD 108 undef = .bool true := hin 108 (by decide) (by decide)
        clear hout hin
        exact gs_bin .add 22 (.tmp 112) (.const (.int .u64 32)) _ rfl h112 rfl (fun w => by go_simp) (fun w => by have := HS2.out; go_simp) (wanted_some (g := 22) (t := 108) (b := true) rfl rfl h108) rfl
      · intro w9 hb9 fr hout hin
        have h109 : fr.tmps.getD 109 undef = .int .u64 (q : Nat) := hin 109 (by decide) (by decide)
        have h113 : fr.tmps.getD 113 undef = .int .u64 (s2 : Nat) := hin 113 (by decide) (by decide)
        have h108 : fr.tmps.getD 108 undef = .bool true := hin 108 (by decide) (by decide)
        clear hout hin
        exact gs_bin .lss 22 (.tmp 109) (.tmp 113) _ rfl h109 h113 (fun w => by go_simp) (fun w => by have := HG2.out; go_simp) (wanted_some (g := 22) (t := 108) (b := true) rfl rfl h108) rfl
      · intro w9 hb9 fr hout hin
        have h108 : fr.tmps.getD 108 undef = .bool true := hin 108 (by decide) (by decide)
        have h114 : fr.tmps.getD 114 undef = .bool true := hin 114 (by decide) (by decide)
        clear hout hin
        exact relStep_pick (.tmp 108) (.tmp 114) (.const (.bool false)) rfl h108 (wanted_none rfl) (by show fr.tmps.getD 114 undef = _; rw [h114])
      · intro w9 hb9 fr hout hin
        have h115 : fr.tmps.getD 115 undef = .bool true := hin 115 (by decide) (by decide)
        clear hout hin
        exact relStep_move (.tmp 115) rfl (wanted_none rfl) (by show fr.tmps.getD 115 undef = _; rw [h115])
      · intro w9 hb9 fr hout hin
        have h19 : fr.tmps.getD 19 undef = .int .u64 (q : Nat) := hout 19 (by decide)
        have h116 : fr.tmps.getD 116 undef = .bool true := hin 116 (by decide) (by decide)
        clear hout hin
        exact relStep_move (.tmp 19) rfl (wanted_some (g := 30) (t := 116) (b := true) rfl rfl h116) (by show fr.tmps.getD 19 undef = _; rw [h19])
      · intro w9 hb9 fr hout hin
        have h13 : fr.tmps.getD 13 undef = .int .u64 (q : Nat) := hout 13 (by decide)
        have h116 : fr.tmps.getD 116 undef = .bool true := hin 116 (by decide) (by decide)
        clear hout hin
        exact relStep_move (.tmp 13) rfl (wanted_some (g := 30) (t := 116) (b := true) rfl rfl h116) (by show fr.tmps.getD 13 undef = _; rw [h13])
      · intro w9 hb9 fr hout hin
        have h117 : fr.tmps.getD 117 undef = .int .u64 (q : Nat) := hin 117 (by decide) (by decide)
        have h118 : fr.tmps.getD 118 undef = .int .u64 (q : Nat) := hin 118 (by decide) (by decide)
        have h116 : fr.tmps.getD 116 undef = .bool true := hin 116 (by decide) (by decide)
        clear hout hin
        exact op_eqU (.tmp 117) (.tmp 118) _ rfl h117 h118 (wanted_some (g := 30) (t := 116) (b := true) rfl rfl h116) rfl
      · intro w9 hb9 fr hout hin
        have h116 : fr.tmps.getD 116 undef = .bool true := hin 116 (by decide) (by decide)
        have h119 : fr.tmps.getD 119 undef = .bool true := hin 119 (by decide) (by decide)
        clear hout hin
        exact relStep_pick (.tmp 116) (.tmp 119) (.const (.bool false)) rfl h116 (wanted_none rfl) (by show fr.tmps.getD 119 undef = _; rw [h119])
      · intro w9 hb9 fr hout hin
        have h120 : fr.tmps.getD 120 undef = .bool true := hin 120 (by decide) (by decide)
        clear hout hin
        exact relStep_move (.tmp 120) rfl (wanted_none rfl) (by show fr.tmps.getD 120 undef = _; rw [h120])
      · intro w9 hb9 fr hout hin
        have h20 : fr.tmps.getD 20 undef = .int .u64 0 := hout 20 (by decide)
        have h121 : fr.tmps.getD 121 undef = .bool true := hin 121 (by decide) (by decide)
        clear hout hin
        exact relStep_move (.tmp 20) rfl (wanted_some (g := 35) (t := 121) (b := true) rfl rfl h121) (by show fr.tmps.getD 20 undef = _; rw [h20])
      · intro w9 hb9 fr hout hin
        have h122 : fr.tmps.getD 122 undef = .int .u64 0 := hin 122 (by decide) (by decide)
        have h121 : fr.tmps.getD 121 undef = .bool true := hin 121 (by decide) (by decide)
        clear hout hin
        exact gs_bin .eql 22 (.tmp 122) (.const (.int .u64 0)) _ rfl h122 rfl (fun w => by go_simp) (fun w => by go_simp) (wanted_some (g := 35) (t := 121) (b := true) rfl rfl h121) rfl
      · intro w9 hb9 fr hout hin
        have h121 : fr.tmps.getD 121 undef = .bool true := hin 121 (by decide) (by decide)
        have h123 : fr.tmps.getD 123 undef = .bool true := hin 123 (by decide) (by decide)
        clear hout hin
        exact relStep_pick (.tmp 121) (.tmp 123) (.const (.bool false)) rfl h121 (wanted_none rfl) (by show fr.tmps.getD 123 undef = _; rw [h123])
      · intro w9 hb9 fr hout hin
        have h124 : fr.tmps.getD 124 undef = .bool true := hin 124 (by decide) (by decide)
        clear hout hin
        exact relStep_move (.tmp 124) rfl (wanted_none rfl) (by show fr.tmps.getD 124 undef = _; rw [h124])
      · intro w9 hb9 fr hout hin
        have h21 : fr.tmps.getD 21 undef = .bool true := hout 21 (by decide)
        have h125 : fr.tmps.getD 125 undef = .bool true := hin 125 (by decide) (by decide)
        clear hout hin
        exact relStep_move (.tmp 21) rfl (wanted_some (g := 39) (t := 125) (b := true) rfl rfl h125) (by show fr.tmps.getD 21 undef = _; rw [h21])
      · intro w9 hb9 fr hout hin
        have h125 : fr.tmps.getD 125 undef = .bool true := hin 125 (by decide) (by decide)
        have h126 : fr.tmps.getD 126 undef = .bool true := hin 126 (by decide) (by decide)
        clear hout hin
        exact relStep_pick (.tmp 125) (.tmp 126) (.const (.bool false)) rfl h125 (wanted_none rfl) (by show fr.tmps.getD 126 undef = _; rw [h126])
      · intro w9 hb9 fr hout hin
        have h127 : fr.tmps.getD 127 undef = .bool true := hin 127 (by decide) (by decide)
        clear hout hin
        exact relStep_assign (.tmp 127) rfl (wanted_none rfl) (by show fr.tmps.getD 127 undef = _; rw [h127])
    intro X11 hb9
    refine relAsk_in (by rfl) ?_
    intro v86 h86
    obtain rfl : v86 = .int .u64 (q : Nat) := h86
    refine relAsk_in (by rfl) ?_
    intro v87 h87
    obtain rfl : v87 = .int .u64 (q : Nat) := h87
    refine relAsk_in (by rfl) ?_
    intro v88 h88
    obtain rfl : v88 = .bool true := h88
    refine relAsk_in (by rfl) ?_
    intro v89 h89
    obtain rfl : v89 = .bool true := h89
    refine relAsk_in (by rfl) ?_
    intro v90 h90
    obtain rfl : v90 = .int .u64 (c : Nat) := h90
    refine relAsk_in (by rfl) ?_
    intro v91 h91
    obtain rfl : v91 = .int .u64 (d : Nat) := h91
    refine relAsk_in (by rfl) ?_
    intro v92 h92
    obtain rfl : v92 = .int .u64 (e : Nat) := h92
    refine relAsk_in (by rfl) ?_
    intro v93 h93
    obtain rfl : v93 = .int .u64 (e : Nat) := h93
    refine relAsk_in (by rfl) ?_
    intro v94 h94
    obtain rfl : v94 = .bool true := h94
    refine relAsk_in (by rfl) ?_
    intro v95 h95
    obtain rfl : v95 = .bool true := h95
    refine relAsk_in (by rfl) ?_
    intro v96 h96
    obtain rfl : v96 = .bool true := h96
    refine relAsk_in (by rfl) ?_
    intro v97 h97
    obtain rfl : v97 = .int .u64 (q : Nat) := h97
    refine relAsk_in (by rfl) ?_
    intro v98 h98
    obtain rfl : v98 = .int .u64 (y : Nat) := h98
    refine relAsk_in (by rfl) ?_
    intro v99 h99
    obtain rfl : v99 = .int .u64 (m : Nat) := h99
    refine relAsk_in (by rfl) ?_
    intro v100 h100
    obtain rfl : v100 = .int .u64 (s1 : Nat) := h100
    refine relAsk_in (by rfl) ?_
    intro v101 h101
    obtain rfl : v101 = .bool true := h101
    refine relAsk_in (by rfl) ?_
    intro v102 h102
    obtain rfl : v102 = .bool true := h102
    refine relAsk_in (by rfl) ?_
    intro v103 h103
    obtain rfl : v103 = .bool true := h103
    refine relAsk_in (by rfl) ?_
    intro v104 h104
    obtain rfl : v104 = .int .u64 (q : Nat) := h104
    refine relAsk_in (by rfl) ?_
    intro v105 h105
    obtain rfl : v105 = .int .u64 0 := h105
    refine relAsk_in (by rfl) ?_
    intro v106 h106
    obtain rfl : v106 = .bool true := h106
    refine relAsk_in (by rfl) ?_
    intro v107 h107
    obtain rfl : v107 = .bool true := h107
    refine relAsk_in (by rfl) ?_
    intro v108 h108
    obtain rfl : v108 = .bool true := h108
    refine relAsk_in (by rfl) ?_
    intro v109 h109
    obtain rfl : v109 = .int .u64 (q : Nat) := h109
    refine relAsk_in (by rfl) ?_
    intro v110 h110
    obtain rfl : v110 = .int .u64 (y : Nat) := h110
    refine relAsk_in (by rfl) ?_
    intro v111 h111
    obtain rfl : v111 = .int .u64 (m : Nat) := h111
    refine relAsk_in (by rfl) ?_
    intro v112 h112
    obtain rfl : v112 = .int .u64 (s1 : Nat) := h112
    refine relAsk_in (by rfl) ?_
    intro v113 h113
    obtain rfl : v113 = .int .u64 (s2 : Nat) := h113
    refine relAsk_in (by rfl) ?_
    intro v114 h114
    obtain rfl : v114 = .bool true := h114
    refine relAsk_in (by rfl) ?_
    intro v115 h115
    obtain rfl : v115 = .bool true := h115
    refine relAsk_in (by rfl) ?_
    intro v116 h116
    obtain rfl : v116 = .bool true := h116
    refine relAsk_in (by rfl) ?_
    intro v117 h117
    obtain rfl : v117 = .int .u64 (q : Nat) := h117
    refine relAsk_in (by rfl) ?_
    intro v118 h118
    obtain rfl : v118 = .int .u64 (q : Nat) := h118
    refine relAsk_in (by rfl) ?_
    intro v119 h119
    obtain rfl : v119 = .bool true := h119
    refine relAsk_in (by rfl) ?_
    intro v120 h120
    obtain rfl : v120 = .bool true := h120
    refine relAsk_in (by rfl) ?_
    intro v121 h121
    obtain rfl : v121 = .bool true := h121
    refine relAsk_in (by rfl) ?_
    intro v122 h122
    obtain rfl : v122 = .int .u64 0 := h122
    refine relAsk_in (by rfl) ?_
    intro v123 h123
    obtain rfl : v123 = .bool true := h123
    refine relAsk_in (by rfl) ?_
    intro v124 h124
    obtain rfl : v124 = .bool true := h124
    refine relAsk_in (by rfl) ?_
    intro v125 h125
    obtain rfl : v125 = .bool true := h125
    refine relAsk_in (by rfl) ?_
    intro v126 h126
    obtain rfl : v126 = .bool true := h126
    refine relAsk_in (by rfl) ?_
    intro v127 h127
    obtain rfl : v127 = .bool true := h127
    refine relAsk_in (by rfl) ?_
    intro v6 h6
    obtain rfl : v6 = .bool true := h6
    refine relAsk_nil ?_
    refine wpList_nil ?_
    go_simp
    have HB9 := Lib.hid (HB.out.trans (hb9.mono HB.out.size))
    go_wp2_with fail
    go_ret
    exact ⟨rfl, HB9.out⟩
  · go_enter Try.func5, Try.ntmps5
    go_upto_region 5 with (fail)
    clear a1 a2 a3 b1 b2 b3 n1 n2 n3 n4
    obtain ⟨hx2, hy2, hm1, hm2⟩ := HM.out
    obtain ⟨p, q, c, d, e, k1, k2, k3, k4, he, hg1, hr, hg2⟩ := steps_math y x m (by omega) (by omega) (by omega) (by omega)
    have hq3 : q < 18446744073709551616 := by omega
    obtain ⟨s1, hs1⟩ : ∃ s1, s1 = x + m := ⟨_, rfl⟩
    obtain ⟨s2, hs2⟩ : ∃ s2, s2 = x + m + 32 := ⟨_, rfl⟩
    have HE : Hid (IntKind.u64.wrap ((c : Int) + (d : Int)) = (e : Int)) := he
    have HS1 : Hid (IntKind.u64.wrap ((x : Int) + (m : Int)) = (s1 : Int)) := by show IntKind.u64.wrap _ = _; rw [IntKind.wrap_u64]; omega
    have HS2 : Hid (IntKind.u64.wrap ((s1 : Int) + 32) = (s2 : Int)) := by show IntKind.u64.wrap _ = _; rw [IntKind.wrap_u64]; omega
    have HG1 : Hid ((s1 : Int) ≤ (q : Int)) := by show (s1 : Int) ≤ _; omega
    have HG2 : Hid ((q : Int) < (s2 : Int)) := by show (q : Int) < _; omega
    have HR1 : Hid ((q : Int).tmod 32 = 0) := by show (q : Int).tmod 32 = 0; rw [Int.tmod_eq_emod_of_nonneg (by omega)]; omega
    have HR2 : Hid ((q : Int) % 32 = 0) := by show (q : Int) % 32 = 0; omega
    have KG1 : Hid (∀ v, Calls Try.prog 20 #[.int .u64 0, .agg #[.int .u64 (y : Nat), .int .u64 0, .int .u64 0, .int .u64 0], .agg #[.int .u64 (m : Nat), .int .u64 0, .int .u64 0, .int .u64 0]] v (RetV (.tuple #[.int .u64 (p : Nat), .int .u64 (c : Nat), .bool true]) v)) := k1
    have KG2 : Hid (∀ v, Calls Try.prog 20 #[.int .u64 (p : Nat), .agg #[.int .u64 (x : Nat), .int .u64 0, .int .u64 0, .int .u64 0], .agg #[.int .u64 (m : Nat), .int .u64 0, .int .u64 0, .int .u64 0]] v (RetV (.tuple #[.int .u64 (q : Nat), .int .u64 (d : Nat), .bool true]) v)) := k2
    have KG3 : Hid (∀ v, Calls Try.prog 20 #[.int .u64 0, .agg #[.int .u64 (x : Nat), .int .u64 0, .int .u64 0, .int .u64 0], .agg #[.int .u64 (m : Nat), .int .u64 0, .int .u64 0, .int .u64 0]] v (RetV (.tuple #[.int .u64 (q : Nat), .int .u64 (e : Nat), .bool true]) v)) := k3
    have KG4 : Hid (∀ v, Calls Try.prog 20 #[.int .u64 (q : Nat), .agg #[.int .u64 (y : Nat), .int .u64 0, .int .u64 0, .int .u64 0], .agg #[.int .u64 (m : Nat), .int .u64 0, .int .u64 0, .int .u64 0]] v (RetV (.tuple #[.int .u64 (q : Nat), .int .u64 0, .bool true]) v)) := k4
    clear k1 k2 k3 k4 he hg1 hr hg2 hq3 hs1 hs2 hx2 hy2 hm1 hm2 hord
    have HB : Hid (Below w.heap.size w w) := Below.refl _ _
    refine wp_region_seq 12 [35, 36, 37, 38, 39, 34, 40, 41, 42, 10, 11, 12] [(35, .is (.int .u64 (y : Nat))), (36, .is (.agg #[.int .u64 (y : Nat), .int .u64 0, .int .u64 0, .int .u64 0])), (37, .is (.int .u64 (m : Nat))), (38, .is (.agg #[.int .u64 (m : Nat), .int .u64 0, .int .u64 0, .int .u64 0])), (39, .is (.tuple #[.int .u64 (p : Nat), .int .u64 (c : Nat), .bool true])), (34, .is (.tuple #[.int .u64 (p : Nat), .int .u64 (c : Nat), .bool true])), (40, .is (.int .u64 (p : Nat))), (41, .is (.int .u64 (c : Nat))), (42, .is (.bool true)), (10, .is (.int .u64 (p : Nat))), (11, .is (.int .u64 (c : Nat))), (12, .is (.bool true))] (by kernel_rfl) (by rfl) ?_ ?_
    · refine seeOps_cons ?_ (seeOps_cons ?_ (seeOps_cons ?_ (seeOps_cons ?_ (seeOps_cons ?_ (seeOps_cons ?_ (seeOps_cons ?_ (seeOps_cons ?_ (seeOps_cons ?_ (seeOps_cons ?_ (seeOps_cons ?_ (seeOps_cons ?_ seeOps_nil)))))))))))
      · intro w9 hb9 fr hout hin
        have h7 : fr.tmps.getD 7 undef = .int .u64 (y : Nat) := hout 7 (by decide)
        clear hout hin
        exact relStep_move (.tmp 7) rfl (wanted_none rfl) (by show fr.tmps.getD 7 undef = _; rw [h7])
      · intro w9 hb9 fr hout hin
        have h35 : fr.tmps.getD 35 undef = .int .u64 (y : Nat) := hin 35 (by decide) (by decide)
        clear hout hin
        exact gs_buildW (.tmp 35) rfl h35 (wanted_none rfl) rfl
      · intro w9 hb9 fr hout hin
        have h9 : fr.tmps.getD 9 undef = .int .u64 (m : Nat) := hout 9 (by decide)
        clear hout hin
        exact relStep_move (.tmp 9) rfl (wanted_none rfl) (by show fr.tmps.getD 9 undef = _; rw [h9])
      · intro w9 hb9 fr hout hin
        have h37 : fr.tmps.getD 37 undef = .int .u64 (m : Nat) := hin 37 (by decide) (by decide)
        clear hout hin
        exact gs_buildW (.tmp 37) rfl h37 (wanted_none rfl) rfl
      · intro w9 hb9 fr hout hin
        have h36 : fr.tmps.getD 36 undef = .agg #[.int .u64 (y : Nat), .int .u64 0, .int .u64 0, .int .u64 0] := hin 36 (by decide) (by decide)
        have h38 : fr.tmps.getD 38 undef = .agg #[.int .u64 (m : Nat), .int .u64 0, .int .u64 0, .int .u64 0] := hin 38 (by decide) (by decide)
        clear hout hin
        exact gs_call3 (.const (.int .u64 0)) (.tmp 36) (.tmp 38) rfl en_gsGrow (wanted_none rfl) (by rw [show fr.eval (.tmp 36) = _ from h36, show fr.eval (.tmp 38) = _ from h38]; exact (KG1.out w9).mono fun _ _ h => RetV.gs h) (fun _ _ h => h)
      · intro w9 hb9 fr hout hin
        have h39 : fr.tmps.getD 39 undef = .tuple #[.int .u64 (p : Nat), .int .u64 (c : Nat), .bool true] := hin 39 (by decide) (by decide)
        clear hout hin
        exact relStep_move (.tmp 39) rfl (wanted_none rfl) (by show fr.tmps.getD 39 undef = _; rw [h39])
      · intro w9 hb9 fr hout hin
        have h34 : fr.tmps.getD 34 undef = .tuple #[.int .u64 (p : Nat), .int .u64 (c : Nat), .bool true] := hin 34 (by decide) (by decide)
        clear hout hin
        exact gs_ext (.tmp 34) 0 rfl h34 rfl (wanted_none rfl) rfl
      · intro w9 hb9 fr hout hin
        have h34 : fr.tmps.getD 34 undef = .tuple #[.int .u64 (p : Nat), .int .u64 (c : Nat), .bool true] := hin 34 (by decide) (by decide)
        clear hout hin
        exact gs_ext (.tmp 34) 1 rfl h34 rfl (wanted_none rfl) rfl
      · intro w9 hb9 fr hout hin
        have h34 : fr.tmps.getD 34 undef = .tuple #[.int .u64 (p : Nat), .int .u64 (c : Nat), .bool true] := hin 34 (by decide) (by decide)
        clear hout hin
        exact gs_ext (.tmp 34) 2 rfl h34 rfl (wanted_none rfl) rfl
      · intro w9 hb9 fr hout hin
        have h40 : fr.tmps.getD 40 undef = .int .u64 (p : Nat) := hin 40 (by decide) (by decide)
        clear hout hin
        exact relStep_assign (.tmp 40) rfl (wanted_none rfl) (by show fr.tmps.getD 40 undef = _; rw [h40])
      · intro w9 hb9 fr hout hin
        have h41 : fr.tmps.getD 41 undef = .int .u64 (c : Nat) := hin 41 (by decide) (by decide)
        clear hout hin
        exact relStep_assign (.tmp 41) rfl (wanted_none rfl) (by show fr.tmps.getD 41 undef = _; rw [h41])
      · intro w9 hb9 fr hout hin
        have h42 : fr.tmps.getD 42 undef = .bool true := hin 42 (by decide) (by decide)
        clear hout hin
        exact relStep_assign (.tmp 42) rfl (wanted_none rfl) (by show fr.tmps.getD 42 undef = _; rw [h42])
    intro X5 hbn
    refine relAsk_in (by rfl) ?_
    intro v35 h35
    obtain rfl : v35 = .int .u64 (y : Nat) := h35
    refine relAsk_in (by rfl) ?_
    intro v36 h36
    obtain rfl : v36 = .agg #[.int .u64 (y : Nat), .int .u64 0, .int .u64 0, .int .u64 0] := h36
    refine relAsk_in (by rfl) ?_
    intro v37 h37
    obtain rfl : v37 = .int .u64 (m : Nat) := h37
    refine relAsk_in (by rfl) ?_
    intro v38 h38
    obtain rfl : v38 = .agg #[.int .u64 (m : Nat), .int .u64 0, .int .u64 0, .int .u64 0] := h38
    refine relAsk_in (by rfl) ?_
    intro v39 h39
    obtain rfl : v39 = .tuple #[.int .u64 (p : Nat), .int .u64 (c : Nat), .bool true] := h39
    refine relAsk_in (by rfl) ?_
    intro v34 h34
    obtain rfl : v34 = .tuple #[.int .u64 (p : Nat), .int .u64 (c : Nat), .bool true] := h34
    refine relAsk_in (by rfl) ?_
    intro v40 h40
    obtain rfl : v40 = .int .u64 (p : Nat) := h40
    refine relAsk_in (by rfl) ?_
    intro v41 h41
    obtain rfl : v41 = .int .u64 (c : Nat) := h41
    refine relAsk_in (by rfl) ?_
    intro v42 h42
    obtain rfl : v42 = .bool true := h42
    refine relAsk_in (by rfl) ?_
    intro v10 h10
    obtain rfl : v10 = .int .u64 (p : Nat) := h10
    refine relAsk_in (by rfl) ?_
    intro v11 h11
    obtain rfl : v11 = .int .u64 (c : Nat) := h11
    refine relAsk_in (by rfl) ?_
    intro v12 h12
    obtain rfl : v12 = .bool true := h12
    refine relAsk_nil ?_
    refine wpList_nil ?_
    have HB2 := Lib.hid (HB.out.trans (hbn.mono HB.out.size))
    replace HB := HB2
    clear hbn
    go_simp
    go_upto_region 6 with (fail)
    refine wp_region_seq 13 [44, 45, 46, 47, 48, 49, 43, 50, 51, 52, 13, 14, 15] [(44, .is (.int .u64 (p : Nat))), (45, .is (.int .u64 (x : Nat))), (46, .is (.agg #[.int .u64 (x : Nat), .int .u64 0, .int .u64 0, .int .u64 0])), (47, .is (.int .u64 (m : Nat))), (48, .is (.agg #[.int .u64 (m : Nat), .int .u64 0, .int .u64 0, .int .u64 0])), (49, .is (.tuple #[.int .u64 (q : Nat), .int .u64 (d : Nat), .bool true])), (43, .is (.tuple #[.int .u64 (q : Nat), .int .u64 (d : Nat), .bool true])), (50, .is (.int .u64 (q : Nat))), (51, .is (.int .u64 (d : Nat))), (52, .is (.bool true)), (13, .is (.int .u64 (q : Nat))), (14, .is (.int .u64 (d : Nat))), (15, .is (.bool true))] (by kernel_rfl) (by rfl) ?_ ?_
    · refine seeOps_cons ?_ (seeOps_cons ?_ (seeOps_cons ?_ (seeOps_cons ?_ (seeOps_cons ?_ (seeOps_cons ?_ (seeOps_cons ?_ (seeOps_cons ?_ (seeOps_cons ?_ (seeOps_cons ?_ (seeOps_cons ?_ (seeOps_cons ?_ (seeOps_cons ?_ seeOps_nil))))))))))))
      · intro w9 hb9 fr hout hin
        have h10 : fr.tmps.getD 10 undef = .int .u64 (p : Nat) := hout 10 (by decide)
        clear hout hin
        exact relStep_move (.tmp 10) rfl (wanted_none rfl) (by show fr.tmps.getD 10 undef = _; rw [h10])
      · intro w9 hb9 fr hout hin
        have h8 : fr.tmps.getD 8 undef = .int .u64 (x : Nat) := hout 8 (by decide)
        clear hout hin
        exact relStep_move (.tmp 8) rfl (wanted_none rfl) (by show fr.tmps.getD 8 undef = _; rw [h8])
      · intro w9 hb9 fr hout hin
        have h45 : fr.tmps.getD 45 undef = .int .u64 (x : Nat) := hin 45 (by decide) (by decide)
        clear hout hin
        exact gs_buildW (.tmp 45) rfl h45 (wanted_none rfl) rfl
      · intro w9 hb9 fr hout hin
        have h9 : fr.tmps.getD 9 undef = .int .u64 (m : Nat) := hout 9 (by decide)
        clear hout hin
        exact relStep_move (.tmp 9) rfl (wanted_none rfl) (by show fr.tmps.getD 9 undef = _; rw [h9])
      · intro w9 hb9 fr hout hin
        have h47 : fr.tmps.getD 47 undef = .int .u64 (m : Nat) := hin 47 (by decide) (by decide)
        clear hout hin
        exact gs_buildW (.tmp 47) rfl h47 (wanted_none rfl) rfl
      · intro w9 hb9 fr hout hin
        have h44 : fr.tmps.getD 44 undef = .int .u64 (p : Nat) := hin 44 (by decide) (by decide)
        have h46 : fr.tmps.getD 46 undef = .agg #[.int .u64 (x : Nat), .int .u64 0, .int .u64 0, .int .u64 0] := hin 46 (by decide) (by decide)
        have h48 : fr.tmps.getD 48 undef = .agg #[.int .u64 (m : Nat), .int .u64 0, .int .u64 0, .int .u64 0] := hin 48 (by decide) (by decide)
        clear hout hin
        exact gs_call3 (.tmp 44) (.tmp 46) (.tmp 48) rfl en_gsGrow (wanted_none rfl) (by rw [show fr.eval (.tmp 44) = _ from h44, show fr.eval (.tmp 46) = _ from h46, show fr.eval (.tmp 48) = _ from h48]; exact (KG2.out w9).mono fun _ _ h => RetV.gs h) (fun _ _ h => h)
      · intro w9 hb9 fr hout hin
        have h49 : fr.tmps.getD 49 undef = .tuple #[.int .u64 (q : Nat), .int .u64 (d : Nat), .bool true] := hin 49 (by decide) (by decide)
        clear hout hin
        exact relStep_move (.tmp 49) rfl (wanted_none rfl) (by show fr.tmps.getD 49 undef = _; rw [h49])
      · intro w9 hb9 fr hout hin
        have h43 : fr.tmps.getD 43 undef = .tuple #[.int .u64 (q : Nat), .int .u64 (d : Nat), .bool true] := hin 43 (by decide) (by decide)
        clear hout hin
        exact gs_ext (.tmp 43) 0 rfl h43 rfl (wanted_none rfl) rfl
      · intro w9 hb9 fr hout hin
        have h43 : fr.tmps.getD 43 undef = .tuple #[.int .u64 (q : Nat), .int .u64 (d : Nat), .bool true] := hin 43 (by decide) (by decide)
        clear hout hin
        exact gs_ext (.tmp 43) 1 rfl h43 rfl (wanted_none rfl) rfl
      · intro w9 hb9 fr hout hin
        have h43 : fr.tmps.getD 43 undef = .tuple #[.int .u64 (q : Nat), .int .u64 (d : Nat), .bool true] := hin 43 (by decide) (by decide)
        clear hout hin
        exact gs_ext (.tmp 43) 2 rfl h43 rfl (wanted_none rfl) rfl
      · intro w9 hb9 fr hout hin
        have h50 : fr.tmps.getD 50 undef = .int .u64 (q : Nat) := hin 50 (by decide) (by decide)
        clear hout hin
        exact relStep_assign (.tmp 50) rfl (wanted_none rfl) (by show fr.tmps.getD 50 undef = _; rw [h50])
      · intro w9 hb9 fr hout hin
        have h51 : fr.tmps.getD 51 undef = .int .u64 (d : Nat) := hin 51 (by decide) (by decide)
        clear hout hin
        exact relStep_assign (.tmp 51) rfl (wanted_none rfl) (by show fr.tmps.getD 51 undef = _; rw [h51])
      · intro w9 hb9 fr hout hin
        have h52 : fr.tmps.getD 52 undef = .bool true := hin 52 (by decide) (by decide)
        clear hout hin
        exact relStep_assign (.tmp 52) rfl (wanted_none rfl) (by show fr.tmps.getD 52 undef = _; rw [h52])
    intro X6 hbn
    refine relAsk_in (by rfl) ?_
    intro v44 h44
    obtain rfl : v44 = .int .u64 (p : Nat) := h44
    refine relAsk_in (by rfl) ?_
    intro v45 h45
    obtain rfl : v45 = .int .u64 (x : Nat) := h45
    refine relAsk_in (by rfl) ?_
    intro v46 h46
    obtain rfl : v46 = .agg #[.int .u64 (x : Nat), .int .u64 0, .int .u64 0, .int .u64 0] := h46
    refine relAsk_in (by rfl) ?_
    intro v47 h47
    obtain rfl : v47 = .int .u64 (m : Nat) := h47
    refine relAsk_in (by rfl) ?_
    intro v48 h48
    obtain rfl : v48 = .agg #[.int .u64 (m : Nat), .int .u64 0, .int .u64 0, .int .u64 0] := h48
    refine relAsk_in (by rfl) ?_
    intro v49 h49
    obtain rfl : v49 = .tuple #[.int .u64 (q : Nat), .int .u64 (d : Nat), .bool true] := h49
    refine relAsk_in (by rfl) ?_
    intro v43 h43
    obtain rfl : v43 = .tuple #[.int .u64 (q : Nat), .int .u64 (d : Nat), .bool true] := h43
    refine relAsk_in (by rfl) ?_
    intro v50 h50
    obtain rfl : v50 = .int .u64 (q : Nat) := h50
    refine relAsk_in (by rfl) ?_
    intro v51 h51
    obtain rfl : v51 = .int .u64 (d : Nat) := h51
    refine relAsk_in (by rfl) ?_
    intro v52 h52
    obtain rfl : v52 = .bool true := h52
    refine relAsk_in (by rfl) ?_
    intro v13 h13
    obtain rfl : v13 = .int .u64 (q : Nat) := h13
    refine relAsk_in (by rfl) ?_
    intro v14 h14
    obtain rfl : v14 = .int .u64 (d : Nat) := h14
    refine relAsk_in (by rfl) ?_
    intro v15 h15
    obtain rfl : v15 = .bool true := h15
    refine relAsk_nil ?_
    refine wpList_nil ?_
    have HB2 := Lib.hid (HB.out.trans (hbn.mono HB.out.size))
    replace HB := HB2
    clear hbn
    go_simp
    go_upto_region 7 with (fail)
    refine wp_region_seq 12 [54, 55, 56, 57, 58, 53, 59, 60, 61, 16, 17, 18] [(54, .is (.int .u64 (x : Nat))), (55, .is (.agg #[.int .u64 (x : Nat), .int .u64 0, .int .u64 0, .int .u64 0])), (56, .is (.int .u64 (m : Nat))), (57, .is (.agg #[.int .u64 (m : Nat), .int .u64 0, .int .u64 0, .int .u64 0])), (58, .is (.tuple #[.int .u64 (q : Nat), .int .u64 (e : Nat), .bool true])), (53, .is (.tuple #[.int .u64 (q : Nat), .int .u64 (e : Nat), .bool true])), (59, .is (.int .u64 (q : Nat))), (60, .is (.int .u64 (e : Nat))), (61, .is (.bool true)), (16, .is (.int .u64 (q : Nat))), (17, .is (.int .u64 (e : Nat))), (18, .is (.bool true))] (by kernel_rfl) (by rfl) ?_ ?_
    · refine seeOps_cons ?_ (seeOps_cons ?_ (seeOps_cons ?_ (seeOps_cons ?_ (seeOps_cons ?_ (seeOps_cons ?_ (seeOps_cons ?_ (seeOps_cons ?_ (seeOps_cons ?_ (seeOps_cons ?_ (seeOps_cons ?_ (seeOps_cons ?_ seeOps_nil)))))))))))
      · intro w9 hb9 fr hout hin
        have h8 : fr.tmps.getD 8 undef = .int .u64 (x : Nat) := hout 8 (by decide)
        clear hout hin
        exact relStep_move (.tmp 8) rfl (wanted_none rfl) (by show fr.tmps.getD 8 undef = _; rw [h8])
      · intro w9 hb9 fr hout hin
        have h54 : fr.tmps.getD 54 undef = .int .u64 (x : Nat) := hin 54 (by decide) (by decide)
        clear hout hin
        exact gs_buildW (.tmp 54) rfl h54 (wanted_none rfl) rfl
      · intro w9 hb9 fr hout hin
        have h9 : fr.tmps.getD 9 undef = .int .u64 (m : Nat) := hout 9 (by decide)
        clear hout hin
        exact relStep_move (.tmp 9) rfl (wanted_none rfl) (by show fr.tmps.getD 9 undef = _; rw [h9])
      · intro w9 hb9 fr hout hin
        have h56 : fr.tmps.getD 56 undef = .int .u64 (m : Nat) := hin 56 (by decide) (by decide)
        clear hout hin
        exact gs_buildW (.tmp 56) rfl h56 (wanted_none rfl) rfl
      · intro w9 hb9 fr hout hin
        have h55 : fr.tmps.getD 55 undef = .agg #[.int .u64 (x : Nat), .int .u64 0, .int .u64 0, .int .u64 0] := hin 55 (by decide) (by decide)
        have h57 : fr.tmps.getD 57 undef = .agg #[.int .u64 (m : Nat), .int .u64 0, .int .u64 0, .int .u64 0] := hin 57 (by decide) (by decide)
        clear hout hin
        exact gs_call3 (.const (.int .u64 0)) (.tmp 55) (.tmp 57) rfl en_gsGrow (wanted_none rfl) (by rw [show fr.eval (.tmp 55) = _ from h55, show fr.eval (.tmp 57) = _ from h57]; exact (KG3.out w9).mono fun _ _ h => RetV.gs h) (fun _ _ h => h)
      · intro w9 hb9 fr hout hin
        have h58 : fr.tmps.getD 58 undef = .tuple #[.int .u64 (q : Nat), .int .u64 (e : Nat), .bool true] := hin 58 (by decide) (by decide)
        clear hout hin
        exact relStep_move (.tmp 58) rfl (wanted_none rfl) (by show fr.tmps.getD 58 undef = _; rw [h58])
      · intro w9 hb9 fr hout hin
        have h53 : fr.tmps.getD 53 undef = .tuple #[.int .u64 (q : Nat), .int .u64 (e : Nat), .bool true] := hin 53 (by decide) (by decide)
        clear hout hin
        exact gs_ext (.tmp 53) 0 rfl h53 rfl (wanted_none rfl) rfl
      · intro w9 hb9 fr hout hin
        have h53 : fr.tmps.getD 53 undef = .tuple #[.int .u64 (q : Nat), .int .u64 (e : Nat), .bool true] := hin 53 (by decide) (by decide)
        clear hout hin
        exact gs_ext (.tmp 53) 1 rfl h53 rfl (wanted_none rfl) rfl
      · intro w9 hb9 fr hout hin
        have h53 : fr.tmps.getD 53 undef = .tuple #[.int .u64 (q : Nat), .int .u64 (e : Nat), .bool true] := hin 53 (by decide) (by decide)
        clear hout hin
        exact gs_ext (.tmp 53) 2 rfl h53 rfl (wanted_none rfl) rfl
      · intro w9 hb9 fr hout hin
        have h59 : fr.tmps.getD 59 undef = .int .u64 (q : Nat) := hin 59 (by decide) (by decide)
        clear hout hin
        exact relStep_assign (.tmp 59) rfl (wanted_none rfl) (by show fr.tmps.getD 59 undef = _; rw [h59])
      · intro w9 hb9 fr hout hin
        have h60 : fr.tmps.getD 60 undef = .int .u64 (e : Nat) := hin 60 (by decide) (by decide)
        clear hout hin
        exact relStep_assign (.tmp 60) rfl (wanted_none rfl) (by show fr.tmps.getD 60 undef = _; rw [h60])
      · intro w9 hb9 fr hout hin
        have h61 : fr.tmps.getD 61 undef = .bool true := hin 61 (by decide) (by decide)
        clear hout hin
        exact relStep_assign (.tmp 61) rfl (wanted_none rfl) (by show fr.tmps.getD 61 undef = _; rw [h61])
    intro X7 hbn
    refine relAsk_in (by rfl) ?_
    intro v54 h54
    obtain rfl : v54 = .int .u64 (x : Nat) := h54
    refine relAsk_in (by rfl) ?_
    intro v55 h55
    obtain rfl : v55 = .agg #[.int .u64 (x : Nat), .int .u64 0, .int .u64 0, .int .u64 0] := h55
    refine relAsk_in (by rfl) ?_
    intro v56 h56
    obtain rfl : v56 = .int .u64 (m : Nat) := h56
    refine relAsk_in (by rfl) ?_
    intro v57 h57
    obtain rfl : v57 = .agg #[.int .u64 (m : Nat), .int .u64 0, .int .u64 0, .int .u64 0] := h57
    refine relAsk_in (by rfl) ?_
    intro v58 h58
    obtain rfl : v58 = .tuple #[.int .u64 (q : Nat), .int .u64 (e : Nat), .bool true] := h58
    refine relAsk_in (by rfl) ?_
    intro v53 h53
    obtain rfl : v53 = .tuple #[.int .u64 (q : Nat), .int .u64 (e : Nat), .bool true] := h53
    refine relAsk_in (by rfl) ?_
    intro v59 h59
    obtain rfl : v59 = .int .u64 (q : Nat) := h59
    refine relAsk_in (by rfl) ?_
    intro v60 h60
    obtain rfl : v60 = .int .u64 (e : Nat) := h60
    refine relAsk_in (by rfl) ?_
    intro v61 h61
    obtain rfl : v61 = .bool true := h61
    refine relAsk_in (by rfl) ?_
    intro v16 h16
    obtain rfl : v16 = .int .u64 (q : Nat) := h16
    refine relAsk_in (by rfl) ?_
    intro v17 h17
    obtain rfl : v17 = .int .u64 (e : Nat) := h17
    refine relAsk_in (by rfl) ?_
    intro v18 h18
    obtain rfl : v18 = .bool true := h18
    refine relAsk_nil ?_
    refine wpList_nil ?_
    have HB2 := Lib.hid (HB.out.trans (hbn.mono HB.out.size))
    replace HB := HB2
    clear hbn
    go_simp
    go_upto_region 8 with (fail)
    refine wp_region_seq 14 [62, 63, 64, 65, 66, 67, 68, 69, 70, 71, 72, 73, 74, 75] [(62, .is (.bool true)), (63, .is (.bool false)), (64, .is (.bool false)), (65, .is (.bool true)), (66, .is (.bool false)), (67, .is (.bool false)), (68, .is (.bool false)), (69, .is (.bool true)), (70, .is (.bool false)), (71, .is (.bool false)), (72, .is (.bool false)), (73, .is (.bool true)), (74, .is (.bool false)), (75, .is (.bool false))] (by kernel_rfl) (by rfl) ?_ ?_
    · refine seeOps_cons ?_ (seeOps_cons ?_ (seeOps_cons ?_ (seeOps_cons ?_ (seeOps_cons ?_ (seeOps_cons ?_ (seeOps_cons ?_ (seeOps_cons ?_ (seeOps_cons ?_ (seeOps_cons ?_ (seeOps_cons ?_ (seeOps_cons ?_ (seeOps_cons ?_ (seeOps_cons ?_ seeOps_nil)))))))))))))
      · intro w9 hb9 fr hout hin
        have h12 : fr.tmps.getD 12 undef = .bool true := hout 12 (by decide)
        clear hout hin
        exact relStep_move (.tmp 12) rfl (wanted_none rfl) (by show fr.tmps.getD 12 undef = _; rw [h12])
      · intro w9 hb9 fr hout hin
        have h62 : fr.tmps.getD 62 undef = .bool true := hin 62 (by decide) (by decide)
        clear hout hin
        exact gs_not (b := true) (.tmp 62) _ rfl h62 (wanted_none rfl) rfl
      · intro w9 hb9 fr hout hin
        have h63 : fr.tmps.getD 63 undef = .bool false := hin 63 (by decide) (by decide)
        clear hout hin
        exact relStep_move (.tmp 63) rfl (wanted_none rfl) (by show fr.tmps.getD 63 undef = _; rw [h63])
      · intro w9 hb9 fr hout hin
        have h15 : fr.tmps.getD 15 undef = .bool true := hout 15 (by decide)
        have h64 : fr.tmps.getD 64 undef = .bool false := hin 64 (by decide) (by decide)
        clear hout hin
        exact relStep_move (.tmp 15) rfl (wanted_some (g := 2) (t := 64) (b := false) rfl rfl h64) (by show fr.tmps.getD 15 undef = _; rw [h15])
      · intro w9 hb9 fr hout hin
        have h65 : fr.tmps.getD 65 undef = .bool true := hin 65 (by decide) (by decide)
        have h64 : fr.tmps.getD 64 undef = .bool false := hin 64 (by decide) (by decide)
        clear hout hin
        exact gs_not (b := true) (.tmp 65) _ rfl h65 (wanted_some (g := 2) (t := 64) (b := false) rfl rfl h64) rfl
      · intro w9 hb9 fr hout hin
        have h64 : fr.tmps.getD 64 undef = .bool false := hin 64 (by decide) (by decide)
        have h66 : fr.tmps.getD 66 undef = .bool false := hin 66 (by decide) (by decide)
        clear hout hin
        exact relStep_pickF (.tmp 64) (.const (.bool true)) (.tmp 66) rfl h64 (wanted_none rfl) (by show fr.tmps.getD 66 undef = _; rw [h66])
      · intro w9 hb9 fr hout hin
        have h67 : fr.tmps.getD 67 undef = .bool false := hin 67 (by decide) (by decide)
        clear hout hin
        exact relStep_move (.tmp 67) rfl (wanted_none rfl) (by show fr.tmps.getD 67 undef = _; rw [h67])
      · intro w9 hb9 fr hout hin
        have h18 : fr.tmps.getD 18 undef = .bool true := hout 18 (by decide)
        have h68 : fr.tmps.getD 68 undef = .bool false := hin 68 (by decide) (by decide)
        clear hout hin
        exact relStep_move (.tmp 18) rfl (wanted_some (g := 6) (t := 68) (b := false) rfl rfl h68) (by show fr.tmps.getD 18 undef = _; rw [h18])
      · intro w9 hb9 fr hout hin
        have h69 : fr.tmps.getD 69 undef = .bool true := hin 69 (by decide) (by decide)
        have h68 : fr.tmps.getD 68 undef = .bool false := hin 68 (by decide) (by decide)
        clear hout hin
        exact gs_not (b := true) (.tmp 69) _ rfl h69 (wanted_some (g := 6) (t := 68) (b := false) rfl rfl h68) rfl
      · intro w9 hb9 fr hout hin
        have h68 : fr.tmps.getD 68 undef = .bool false := hin 68 (by decide) (by decide)
        have h70 : fr.tmps.getD 70 undef = .bool false := hin 70 (by decide) (by decide)
        clear hout hin
        exact relStep_pickF (.tmp 68) (.const (.bool true)) (.tmp 70) rfl h68 (wanted_none rfl) (by show fr.tmps.getD 70 undef = _; rw [h70])
      · intro w9 hb9 fr hout hin
        have h71 : fr.tmps.getD 71 undef = .bool false := hin 71 (by decide) (by decide)
        clear hout hin
        exact relStep_move (.tmp 71) rfl (wanted_none rfl) (by show fr.tmps.getD 71 undef = _; rw [h71])
      · intro w9 hb9 fr hout hin
        have h72 : fr.tmps.getD 72 undef = .bool false := hin 72 (by decide) (by decide)
        clear hout hin
        exact gs_call0 rfl en_gsWakes (wanted_some (g := 10) (t := 72) (b := false) rfl rfl h72) (by exact (gswakes_c w9).mono fun _ _ h => RetV.gs h) (fun _ _ h => h)
      · intro w9 hb9 fr hout hin
        have h73 : fr.tmps.getD 73 undef = .bool true := hin 73 (by decide) (by decide)
        have h72 : fr.tmps.getD 72 undef = .bool false := hin 72 (by decide) (by decide)
        clear hout hin
        exact gs_not (b := true) (.tmp 73) _ rfl h73 (wanted_some (g := 10) (t := 72) (b := false) rfl rfl h72) rfl
      · intro w9 hb9 fr hout hin
        have h72 : fr.tmps.getD 72 undef = .bool false := hin 72 (by decide) (by decide)
        have h74 : fr.tmps.getD 74 undef = .bool false := hin 74 (by decide) (by decide)
        clear hout hin
        exact relStep_pickF (.tmp 72) (.const (.bool true)) (.tmp 74) rfl h72 (wanted_none rfl) (by show fr.tmps.getD 74 undef = _; rw [h74])
    intro X8 hbn
    refine relAsk_in (by rfl) ?_
    intro v62 h62
    obtain rfl : v62 = .bool true := h62
    refine relAsk_in (by rfl) ?_
    intro v63 h63
    obtain rfl : v63 = .bool false := h63
    refine relAsk_in (by rfl) ?_
    intro v64 h64
    obtain rfl : v64 = .bool false := h64
    refine relAsk_in (by rfl) ?_
    intro v65 h65
    obtain rfl : v65 = .bool true := h65
    refine relAsk_in (by rfl) ?_
    intro v66 h66
    obtain rfl : v66 = .bool false := h66
    refine relAsk_in (by rfl) ?_
    intro v67 h67
    obtain rfl : v67 = .bool false := h67
    refine relAsk_in (by rfl) ?_
    intro v68 h68
    obtain rfl : v68 = .bool false := h68
    refine relAsk_in (by rfl) ?_
    intro v69 h69
    obtain rfl : v69 = .bool true := h69
    refine relAsk_in (by rfl) ?_
    intro v70 h70
    obtain rfl : v70 = .bool false := h70
    refine relAsk_in (by rfl) ?_
    intro v71 h71
    obtain rfl : v71 = .bool false := h71
    refine relAsk_in (by rfl) ?_
    intro v72 h72
    obtain rfl : v72 = .bool false := h72
    refine relAsk_in (by rfl) ?_
    intro v73 h73
    obtain rfl : v73 = .bool true := h73
    refine relAsk_in (by rfl) ?_
    intro v74 h74
    obtain rfl : v74 = .bool false := h74
    refine relAsk_in (by rfl) ?_
    intro v75 h75
    obtain rfl : v75 = .bool false := h75
    refine relAsk_nil ?_
    refine wpList_nil ?_
    have HB2 := Lib.hid (HB.out.trans (hbn.mono HB.out.size))
    replace HB := HB2
    clear hbn
    go_simp
    go_upto_region 10 with (fail)
    refine wp_region_seq 13 [77, 78, 79, 80, 81, 82, 76, 83, 84, 85, 19, 20, 21] [(77, .is (.int .u64 (q : Nat))), (78, .is (.int .u64 (y : Nat))), (79, .is (.agg #[.int .u64 (y : Nat), .int .u64 0, .int .u64 0, .int .u64 0])), (80, .is (.int .u64 (m : Nat))), (81, .is (.agg #[.int .u64 (m : Nat), .int .u64 0, .int .u64 0, .int .u64 0])), (82, .is (.tuple #[.int .u64 (q : Nat), .int .u64 0, .bool true])), (76, .is (.tuple #[.int .u64 (q : Nat), .int .u64 0, .bool true])), (83, .is (.int .u64 (q : Nat))), (84, .is (.int .u64 0)), (85, .is (.bool true)), (19, .is (.int .u64 (q : Nat))), (20, .is (.int .u64 0)), (21, .is (.bool true))] (by kernel_rfl) (by rfl) ?_ ?_
    · refine seeOps_cons ?_ (seeOps_cons ?_ (seeOps_cons ?_ (seeOps_cons ?_ (seeOps_cons ?_ (seeOps_cons ?_ (seeOps_cons ?_ (seeOps_cons ?_ (seeOps_cons ?_ (seeOps_cons ?_ (seeOps_cons ?_ (seeOps_cons ?_ (seeOps_cons ?_ seeOps_nil))))))))))))
      · intro w9 hb9 fr hout hin
        have h13 : fr.tmps.getD 13 undef = .int .u64 (q : Nat) := hout 13 (by decide)
        clear hout hin
        exact relStep_move (.tmp 13) rfl (wanted_none rfl) (by show fr.tmps.getD 13 undef = _; rw [h13])
      · intro w9 hb9 fr hout hin
        have h7 : fr.tmps.getD 7 undef = .int .u64 (y : Nat) := hout 7 (by decide)
        clear hout hin
        exact relStep_move (.tmp 7) rfl (wanted_none rfl) (by show fr.tmps.getD 7 undef = _; rw [h7])
      · intro w9 hb9 fr hout hin
        have h78 : fr.tmps.getD 78 undef = .int .u64 (y : Nat) := hin 78 (by decide) (by decide)
        clear hout hin
        exact gs_buildW (.tmp 78) rfl h78 (wanted_none rfl) rfl
      · intro w9 hb9 fr hout hin
        have h9 : fr.tmps.getD 9 undef = .int .u64 (m : Nat) := hout 9 (by decide)
        clear hout hin
        exact relStep_move (.tmp 9) rfl (wanted_none rfl) (by show fr.tmps.getD 9 undef = _; rw [h9])
      · intro w9 hb9 fr hout hin
        have h80 : fr.tmps.getD 80 undef = .int .u64 (m : Nat) := hin 80 (by decide) (by decide)
        clear hout hin
        exact gs_buildW (.tmp 80) rfl h80 (wanted_none rfl) rfl
      · intro w9 hb9 fr hout hin
        have h77 : fr.tmps.getD 77 undef = .int .u64 (q : Nat) := hin 77 (by decide) (by decide)
        have h79 : fr.tmps.getD 79 undef = .agg #[.int .u64 (y : Nat), .int .u64 0, .int .u64 0, .int .u64 0] := hin 79 (by decide) (by decide)
        have h81 : fr.tmps.getD 81 undef = .agg #[.int .u64 (m : Nat), .int .u64 0, .int .u64 0, .int .u64 0] := hin 81 (by decide) (by decide)
        clear hout hin
        exact gs_call3 (.tmp 77) (.tmp 79) (.tmp 81) rfl en_gsGrow (wanted_none rfl) (by rw [show fr.eval (.tmp 77) = _ from h77, show fr.eval (.tmp 79) = _ from h79, show fr.eval (.tmp 81) = _ from h81]; exact (KG4.out w9).mono fun _ _ h => RetV.gs h) (fun _ _ h => h)
      · intro w9 hb9 fr hout hin
        have h82 : fr.tmps.getD 82 undef = .tuple #[.int .u64 (q : Nat), .int .u64 0, .bool true] := hin 82 (by decide) (by decide)
        clear hout hin
        exact relStep_move (.tmp 82) rfl (wanted_none rfl) (by show fr.tmps.getD 82 undef = _; rw [h82])
      · intro w9 hb9 fr hout hin
        have h76 : fr.tmps.getD 76 undef = .tuple #[.int .u64 (q : Nat), .int .u64 0, .bool true] := hin 76 (by decide) (by decide)
        clear hout hin
        exact gs_ext (.tmp 76) 0 rfl h76 rfl (wanted_none rfl) rfl
      · intro w9 hb9 fr hout hin
        have h76 : fr.tmps.getD 76 undef = .tuple #[.int .u64 (q : Nat), .int .u64 0, .bool true] := hin 76 (by decide) (by decide)
        clear hout hin
        exact gs_ext (.tmp 76) 1 rfl h76 rfl (wanted_none rfl) rfl
      · intro w9 hb9 fr hout hin
        have h76 : fr.tmps.getD 76 undef = .tuple #[.int .u64 (q : Nat), .int .u64 0, .bool true] := hin 76 (by decide) (by decide)
        clear hout hin
        exact gs_ext (.tmp 76) 2 rfl h76 rfl (wanted_none rfl) rfl
      · intro w9 hb9 fr hout hin
        have h83 : fr.tmps.getD 83 undef = .int .u64 (q : Nat) := hin 83 (by decide) (by decide)
        clear hout hin
        exact relStep_assign (.tmp 83) rfl (wanted_none rfl) (by show fr.tmps.getD 83 undef = _; rw [h83])
      · intro w9 hb9 fr hout hin
        have h84 : fr.tmps.getD 84 undef = .int .u64 0 := hin 84 (by decide) (by decide)
        clear hout hin
        exact relStep_assign (.tmp 84) rfl (wanted_none rfl) (by show fr.tmps.getD 84 undef = _; rw [h84])
      · intro w9 hb9 fr hout hin
        have h85 : fr.tmps.getD 85 undef = .bool true := hin 85 (by decide) (by decide)
        clear hout hin
        exact relStep_assign (.tmp 85) rfl (wanted_none rfl) (by show fr.tmps.getD 85 undef = _; rw [h85])
    intro X10 hbn
    refine relAsk_in (by rfl) ?_
    intro v77 h77
    obtain rfl : v77 = .int .u64 (q : Nat) := h77
    refine relAsk_in (by rfl) ?_
    intro v78 h78
    obtain rfl : v78 = .int .u64 (y : Nat) := h78
    refine relAsk_in (by rfl) ?_
    intro v79 h79
    obtain rfl : v79 = .agg #[.int .u64 (y : Nat), .int .u64 0, .int .u64 0, .int .u64 0] := h79
    refine relAsk_in (by rfl) ?_
    intro v80 h80
    obtain rfl : v80 = .int .u64 (m : Nat) := h80
    refine relAsk_in (by rfl) ?_
    intro v81 h81
    obtain rfl : v81 = .agg #[.int .u64 (m : Nat), .int .u64 0, .int .u64 0, .int .u64 0] := h81
    refine relAsk_in (by rfl) ?_
    intro v82 h82
    obtain rfl : v82 = .tuple #[.int .u64 (q : Nat), .int .u64 0, .bool true] := h82
    refine relAsk_in (by rfl) ?_
    intro v76 h76
    obtain rfl : v76 = .tuple #[.int .u64 (q : Nat), .int .u64 0, .bool true] := h76
    refine relAsk_in (by rfl) ?_
    intro v83 h83
    obtain rfl : v83 = .int .u64 (q : Nat) := h83
    refine relAsk_in (by rfl) ?_
    intro v84 h84
    obtain rfl : v84 = .int .u64 0 := h84
    refine relAsk_in (by rfl) ?_
    intro v85 h85
    obtain rfl : v85 = .bool true := h85
    refine relAsk_in (by rfl) ?_
    intro v19 h19
    obtain rfl : v19 = .int .u64 (q : Nat) := h19
    refine relAsk_in (by rfl) ?_
    intro v20 h20
    obtain rfl : v20 = .int .u64 0 := h20
    refine relAsk_in (by rfl) ?_
    intro v21 h21
    obtain rfl : v21 = .bool true := h21
    refine relAsk_nil ?_
    refine wpList_nil ?_
    have HB2 := Lib.hid (HB.out.trans (hbn.mono HB.out.size))
    replace HB := HB2
    clear hbn
    go_simp
    go_upto_region 11 with (fail)
    refine wp_region_seq 43 [86, 87, 88, 89, 90, 91, 92, 93, 94, 95, 96, 97, 98, 99, 100, 101, 102, 103, 104, 105, 106, 107, 108, 109, 110, 111, 112, 113, 114, 115, 116, 117, 118, 119, 120, 121, 122, 123, 124, 125, 126, 127, 6] [(86, .is (.int .u64 (q : Nat))), (87, .is (.int .u64 (q : Nat))), (88, .is (.bool true)), (89, .is (.bool true)), (90, .is (.int .u64 (c : Nat))), (91, .is (.int .u64 (d : Nat))), (92, .is (.int .u64 (e : Nat))), (93, .is (.int .u64 (e : Nat))), (94, .is (.bool true)), (95, .is (.bool true)), (96, .is (.bool true)), (97, .is (.int .u64 (q : Nat))), (98, .is (.int .u64 (x : Nat))), (99, .is (.int .u64 (m : Nat))), (100, .is (.int .u64 (s1 : Nat))), (101, .is (.bool true)), (102, .is (.bool true)), (103, .is (.bool true)), (104, .is (.int .u64 (q : Nat))), (105, .is (.int .u64 0)), (106, .is (.bool true)), (107, .is (.bool true)), (108, .is (.bool true)), (109, .is (.int .u64 (q : Nat))), (110, .is (.int .u64 (x : Nat))), (111, .is (.int .u64 (m : Nat))), (112, .is (.int .u64 (s1 : Nat))), (113, .is (.int .u64 (s2 : Nat))), (114, .is (.bool true)), (115, .is (.bool true)), (116, .is (.bool true)), (117, .is (.int .u64 (q : Nat))), (118, .is (.int .u64 (q : Nat))), (119, .is (.bool true)), (120, .is (.bool true)), (121, .is (.bool true)), (122, .is (.int .u64 0)), (123, .is (.bool true)), (124, .is (.bool true)), (125, .is (.bool true)), (126, .is (.bool true)), (127, .is (.bool true)), (6, .is (.bool true))] (by kernel_rfl) (by rfl) ?_ ?_
    · refine seeOps_cons ?_ (seeOps_cons ?_ (seeOps_cons ?_ (seeOps_cons ?_ (seeOps_cons ?_ (seeOps_cons ?_ (seeOps_cons ?_ (seeOps_cons ?_ (seeOps_cons ?_ (seeOps_cons ?_ (seeOps_cons ?_ (seeOps_cons ?_ (seeOps_cons ?_ (seeOps_cons ?_ (seeOps_cons ?_ (seeOps_cons ?_ (seeOps_cons ?_ (seeOps_cons ?_ (seeOps_cons ?_ (seeOps_cons ?_ (seeOps_cons ?_ (seeOps_cons ?_ (seeOps_cons ?_ (seeOps_cons ?_ (seeOps_cons ?_ (seeOps_cons ?_ (seeOps_cons ?_ (seeOps_cons ?_ (seeOps_cons ?_ (seeOps_cons ?_ (seeOps_cons ?_ (seeOps_cons ?_ (seeOps_cons ?_ (seeOps_cons ?_ (seeOps_cons ?_ (seeOps_cons ?_ (seeOps_cons ?_ (seeOps_cons ?_ (seeOps_cons ?_ (seeOps_cons ?_ (seeOps_cons ?_ (seeOps_cons ?_ (seeOps_cons ?_ seeOps_nil))))))))))))))))))))))))))))))))))))))))))
      · intro w9 hb9 fr hout hin
        have h13 : fr.tmps.getD 13 undef = .int .u64 (q : Nat) := hout 13 (by decide)
        clear hout hin
        exact relStep_move (.tmp 13) rfl (wanted_none rfl) (by show fr.tmps.getD 13 undef = _; rw [h13])
      · intro w9 hb9 fr hout hin
        have h16 : fr.tmps.getD 16 undef = .int .u64 (q : Nat) := hout 16 (by decide)
        clear hout hin
        exact relStep_move (.tmp 16) rfl (wanted_none rfl) (by show fr.tmps.getD 16 undef = _; rw [h16])
      · intro w9 hb9 fr hout hin
        have h86 : fr.tmps.getD 86 undef = .int .u64 (q : Nat) := hin 86 (by decide) (by decide)
        have h87 : fr.tmps.getD 87 undef = .int .u64 (q : Nat) := hin 87 (by decide) (by decide)
        clear hout hin
        exact op_eqU (.tmp 86) (.tmp 87) _ rfl h86 h87 (wanted_none rfl) rfl
      · intro w9 hb9 fr hout hin
        have h88 : fr.tmps.getD 88 undef = .bool true := hin 88 (by decide) (by decide)
        clear hout hin
        exact relStep_move (.tmp 88) rfl (wanted_none rfl) (by show fr.tmps.getD 88 undef = _; rw [h88])
      · intro w9 hb9 fr hout hin
        have h11 : fr.tmps.getD 11 undef = .int .u64 (c : Nat) := hout 11 (by decide)
        have h89 : fr.tmps.getD 89 undef = .bool true := hin 89 (by decide) (by decide)
        clear hout hin
        exact relStep_move (.tmp 11) rfl (wanted_some (g := 3) (t := 89) (b := true) rfl rfl h89) (by show fr.tmps.getD 11 undef = _; rw [h11])
      · intro w9 hb9 fr hout hin
        have h14 : fr.tmps.getD 14 undef = .int .u64 (d : Nat) := hout 14 (by decide)
        have h89 : fr.tmps.getD 89 undef = .bool true := hin 89 (by decide) (by decide)
        clear hout hin
        exact relStep_move (.tmp 14) rfl (wanted_some (g := 3) (t := 89) (b := true) rfl rfl h89) (by show fr.tmps.getD 14 undef = _; rw [h14])
      · intro w9 hb9 fr hout hin
        have h90 : fr.tmps.getD 90 undef = .int .u64 (c : Nat) := hin 90 (by decide) (by decide)
        have h91 : fr.tmps.getD 91 undef = .int .u64 (d : Nat) := hin 91 (by decide) (by decide)
        have h89 : fr.tmps.getD 89 undef = .bool true := hin 89 (by decide) (by decide)
        clear hout hin
        exact gs_bin .add 22 (.tmp 90) (.tmp 91) _ rfl h90 h91 (fun w => by go_simp) (fun w => by have := HE.out; go_simp) (wanted_some (g := 3) (t := 89) (b := true) rfl rfl h89) rfl
      · intro w9 hb9 fr hout hin
        have h17 : fr.tmps.getD 17 undef = .int .u64 (e : Nat) := hout 17 (by decide)
        have h89 : fr.tmps.getD 89 undef = .bool true := hin 89 (by decide) (by decide)
        clear hout hin
        exact relStep_move (.tmp 17) rfl (wanted_some (g := 3) (t := 89) (b := true) rfl rfl h89) (by show fr.tmps.getD 17 undef = _; rw [h17])
      · intro w9 hb9 fr hout hin
        have h92 : fr.tmps.getD 92 undef = .int .u64 (e : Nat) := hin 92 (by decide) (by decide)
        have h93 : fr.tmps.getD 93 undef = .int .u64 (e : Nat) := hin 93 (by decide) (by decide)
        have h89 : fr.tmps.getD 89 undef = .bool true := hin 89 (by decide) (by decide)
        clear hout hin
        exact op_eqU (.tmp 92) (.tmp 93) _ rfl h92 h93 (wanted_some (g := 3) (t := 89) (b := true) rfl rfl h89) rfl
      · intro w9 hb9 fr hout hin
        have h89 : fr.tmps.getD 89 undef = .bool true := hin 89 (by decide) (by decide)
        have h94 : fr.tmps.getD 94 undef = .bool true := hin 94 (by decide) (by decide)
        clear hout hin
        exact relStep_pick (.tmp 89) (.tmp 94) (.const (.bool false)) rfl h89 (wanted_none rfl) (by show fr.tmps.getD 94 undef = _; rw [h94])
      · intro w9 hb9 fr hout hin
        have h95 : fr.tmps.getD 95 undef = .bool true := hin 95 (by decide) (by decide)
        clear hout hin
        exact relStep_move (.tmp 95) rfl (wanted_none rfl) (by show fr.tmps.getD 95 undef = _; rw [h95])
      · intro w9 hb9 fr hout hin
        have h13 : fr.tmps.getD 13 undef = .int .u64 (q : Nat) := hout 13 (by decide)
        have h96 : fr.tmps.getD 96 undef = .bool true := hin 96 (by decide) (by decide)
        clear hout hin
        exact relStep_move (.tmp 13) rfl (wanted_some (g := 10) (t := 96) (b := true) rfl rfl h96) (by show fr.tmps.getD 13 undef = _; rw [h13])
      · intro w9 hb9 fr hout hin
        have h8 : fr.tmps.getD 8 undef = .int .u64 (x : Nat) := hout 8 (by decide)
        have h96 : fr.tmps.getD 96 undef = .bool true := hin 96 (by decide) (by decide)
        clear hout hin
        exact relStep_move (.tmp 8) rfl (wanted_some (g := 10) (t := 96) (b := true) rfl rfl h96) (by show fr.tmps.getD 8 undef = _; rw [h8])
      · intro w9 hb9 fr hout hin
        have h9 : fr.tmps.getD 9 undef = .int .u64 (m : Nat) := hout 9 (by decide)
        have h96 : fr.tmps.getD 96 undef = .bool true := hin 96 (by decide) (by decide)
        clear hout hin
        exact relStep_move (.tmp 9) rfl (wanted_some (g := 10) (t := 96) (b := true) rfl rfl h96) (by show fr.tmps.getD 9 undef = _; rw [h9])
      · intro w9 hb9 fr hout hin
        have h98 : fr.tmps.getD 98 undef = .int .u64 (x : Nat) := hin 98 (by decide) (by decide)
        have h99 : fr.tmps.getD 99 undef = .int .u64 (m : Nat) := hin 99 (by decide) (by decide)
        have h96 : fr.tmps.getD 96 undef = .bool true := hin 96 (by decide) (by decide)
        clear hout hin
        exact gs_bin .add 22 (.tmp 98) (.tmp 99) _ rfl h98 h99 (fun w => by go_simp) (fun w => by have := HS1.out; go_simp) (wanted_some (g := 10) (t := 96) (b := true) rfl rfl h96) rfl
      · intro w9 hb9 fr hout hin
        have h97 : fr.tmps.getD 97 undef = .int .u64 (q : Nat) := hin 97 (by decide) (by decide)
        have h100 : fr.tmps.getD 100 undef = .int .u64 (s1 : Nat) := hin 100 (by decide) (by decide)
        have h96 : fr.tmps.getD 96 undef = .bool true := hin 96 (by decide) (by decide)
        clear hout hin
        exact gs_bin .geq 22 (.tmp 97) (.tmp 100) _ rfl h97 h100 (fun w => by go_simp) (fun w => by have := HG1.out; go_simp) (wanted_some (g := 10) (t := 96) (b := true) rfl rfl h96) rfl
      · intro w9 hb9 fr hout hin
        have h96 : fr.tmps.getD 96 undef = .bool true := hin 96 (by decide) (by decide)
        have h101 : fr.tmps.getD 101 undef = .bool true := hin 101 (by decide) (by decide)
        clear hout hin
        exact relStep_pick (.tmp 96) (.tmp 101) (.const (.bool false)) rfl h96 (wanted_none rfl) (by show fr.tmps.getD 101 undef = _; rw [h101])
      · intro w9 hb9 fr hout hin
        have h102 : fr.tmps.getD 102 undef = .bool true := hin 102 (by decide) (by decide)
        clear hout hin
        exact relStep_move (.tmp 102) rfl (wanted_none rfl) (by show fr.tmps.getD 102 undef = _; rw [h102])
      · intro w9 hb9 fr hout hin
        have h13 : fr.tmps.getD 13 undef = .int .u64 (q : Nat) := hout 13 (by decide)
        have h103 : fr.tmps.getD 103 undef = .bool true := hin 103 (by decide) (by decide)
        clear hout hin
        exact relStep_move (.tmp 13) rfl (wanted_some (g := 17) (t := 103) (b := true) rfl rfl h103) (by show fr.tmps.getD 13 undef = _; rw [h13])
      · intro w9 hb9 fr hout hin
        have h104 : fr.tmps.getD 104 undef = .int .u64 (q : Nat) := hin 104 (by decide) (by decide)
        have h103 : fr.tmps.getD 103 undef = .bool true := hin 103 (by decide) (by decide)
        clear hout hin
        exact gs_bin .rem 22 (.tmp 104) (.const (.int .u64 32)) _ rfl h104 rfl (fun w => by go_simp) (fun w => by have := HR1.out; have := HR2.out; go_simp) (wanted_some (g := 17) (t := 103) (b := true) rfl rfl h103) rfl
      · intro w9 hb9 fr hout hin
        have h105 : fr.tmps.getD 105 undef = .int .u64 0 := hin 105 (by decide) (by decide)
        have h103 : fr.tmps.getD 103 undef = .bool true := hin 103 (by decide) (by decide)
        clear hout hin
        exact gs_bin .eql 22 (.tmp 105) (.const (.int .u64 0)) _ rfl h105 rfl (fun w => by go_simp) (fun w => by go_simp) (wanted_some (g := 17) (t := 103) (b := true) rfl rfl h103) rfl
      · intro w9 hb9 fr hout hin
        have h103 : fr.tmps.getD 103 undef = .bool true := hin 103 (by decide) (by decide)
        have h106 : fr.tmps.getD 106 undef = .bool true := hin 106 (by decide) (by decide)
        clear hout hin
        exact relStep_pick (.tmp 103) (.tmp 106) (.const (.bool false)) rfl h103 (wanted_none rfl) (by show fr.tmps.getD 106 undef = _; rw [h106])
      · intro w9 hb9 fr hout hin
        have h107 : fr.tmps.getD 107 undef = .bool true := hin 107 (by decide) (by decide)
        clear hout hin
        exact relStep_move (.tmp 107) rfl (wanted_none rfl) (by show fr.tmps.getD 107 undef = _; rw [h107])
      · intro w9 hb9 fr hout hin
        have h13 : fr.tmps.getD 13 undef = .int .u64 (q : Nat) := hout 13 (by decide)
        have h108 : fr.tmps.getD 108 undef = .bool true := hin 108 (by decide) (by decide)
        clear hout hin
        exact relStep_move (.tmp 13) rfl (wanted_some (g := 22) (t := 108) (b := true) rfl rfl h108) (by show fr.tmps.getD 13 undef = _; rw [h13])
      · intro w9 hb9 fr hout hin
        have h8 : fr.tmps.getD 8 undef = .int .u64 (x : Nat) := hout 8 (by decide)
        have h108 : fr.tmps.getD 108 undef = .bool true := hin 108 (by decide) (by decide)
        clear hout hin
        exact relStep_move (.tmp 8) rfl (wanted_some (g := 22) (t := 108) (b := true) rfl rfl h108) (by show fr.tmps.getD 8 undef = _; rw [h8])
      · intro w9 hb9 fr hout hin
        have h9 : fr.tmps.getD 9 undef = .int .u64 (m : Nat) := hout 9 (by decide)
        have h108 : fr.tmps.getD 108 undef = .bool true := hin 108 (by decide) (by decide)
        clear hout hin
        exact relStep_move (.tmp 9) rfl (wanted_some (g := 22) (t := 108) (b := true) rfl rfl h108) (by show fr.tmps.getD 9 undef = _; rw [h9])
      · intro w9 hb9 fr hout hin
        have h110 : fr.tmps.getD 110 undef = .int .u64 (x : Nat) := hin 110 (by decide) (by decide)
        have h111 : fr.tmps.getD 111 undef = .int .u64 (m : Nat) := hin 111 (by decide) (by decide)
        have h108 : fr.tmps.getD 108 undef = .bool true := hin 108 (by decide) (by decide)
        clear hout hin
        exact gs_bin .add 22 (.tmp 110) (.tmp 111) _ rfl h110 h111 (fun w => by go_simp) (fun w => by have := HS1.out; go_simp) (wanted_some (g := 22) (t := 108) (b := true) rfl rfl h108) rfl
      · intro w9 hb9 fr hout hin
        have h112 : fr.tmps.getD 112 undef = .int .u64 (s1 : Nat) := hin 112 (by decide) (by decide)
        have h108 : fr.tmps.getD 108 undef = .bool true := hin 108 (by decide) (by decide)
        clear hout hin
        exact gs_bin .add 22 (.tmp 112) (.const (.int .u64 32)) _ rfl h112 rfl (fun w => by go_simp) (fun w => by have := HS2.out; go_simp) (wanted_some (g := 22) (t := 108) (b := true) rfl rfl h108) rfl
      · intro w9 hb9 fr hout hin
        have h109 : fr.tmps.getD 109 undef = .int .u64 (q : Nat) := hin 109 (by decide) (by decide)
        have h113 : fr.tmps.getD 113 undef = .int .u64 (s2 : Nat) := hin 113 (by decide) (by decide)
        have h108 : fr.tmps.getD 108 undef = .bool true := hin 108 (by decide) (by decide)
        clear hout hin
        exact gs_bin .lss 22 (.tmp 109) (.tmp 113) _ rfl h109 h113 (fun w => by go_simp) (fun w => by have := HG2.out; go_simp) (wanted_some (g := 22) (t := 108) (b := true) rfl rfl h108) rfl
      · intro w9 hb9 fr hout hin
        have h108 : fr.tmps.getD 108 undef = .bool true := hin 108 (by decide) (by decide)
        have h114 : fr.tmps.getD 114 undef = .bool true := hin 114 (by decide) (by decide)
        clear hout hin
        exact relStep_pick (.tmp 108) (.tmp 114) (.const (.bool false)) rfl h108 (wanted_none rfl) (by show fr.tmps.getD 114 undef = _; rw [h114])
      · intro w9 hb9 fr hout hin
        have h115 : fr.tmps.getD 115 undef = .bool true := hin 115 (by decide) (by decide)
        clear hout hin
        exact relStep_move (.tmp 115) rfl (wanted_none rfl) (by show fr.tmps.getD 115 undef = _; rw [h115])
      · intro w9 hb9 fr hout hin
        have h19 : fr.tmps.getD 19 undef = .int .u64 (q : Nat) := hout 19 (by decide)
        have h116 : fr.tmps.getD 116 undef = .bool true := hin 116 (by decide) (by decide)
        clear hout hin
        exact relStep_move (.tmp 19) rfl (wanted_some (g := 30) (t := 116) (b := true) rfl rfl h116) (by show fr.tmps.getD 19 undef = _; rw [h19])
      · intro w9 hb9 fr hout hin
        have h13 : fr.tmps.getD 13 undef = .int .u64 (q : Nat) := hout 13 (by decide)
        have h116 : fr.tmps.getD 116 undef = .bool true := hin 116 (by decide) (by decide)
        clear hout hin
        exact relStep_move (.tmp 13) rfl (wanted_some (g := 30) (t := 116) (b := true) rfl rfl h116) (by show fr.tmps.getD 13 undef = _; rw [h13])
      · intro w9 hb9 fr hout hin
        have h117 : fr.tmps.getD 117 undef = .int .u64 (q : Nat) := hin 117 (by decide) (by decide)
        have h118 : fr.tmps.getD 118 undef = .int .u64 (q : Nat) := hin 118 (by decide) (by decide)
        have h116 : fr.tmps.getD 116 undef = .bool true := hin 116 (by decide) (by decide)
        clear hout hin
        exact op_eqU (.tmp 117) (.tmp 118) _ rfl h117 h118 (wanted_some (g := 30) (t := 116) (b := true) rfl rfl h116) rfl
      · intro w9 hb9 fr hout hin
        have h116 : fr.tmps.getD 116 undef = .bool true := hin 116 (by decide) (by decide)
        have h119 : fr.tmps.getD 119 undef = .bool true := hin 119 (by decide) (by decide)
        clear hout hin
        exact relStep_pick (.tmp 116) (.tmp 119) (.const (.bool false)) rfl h116 (wanted_none rfl) (by show fr.tmps.getD 119 undef = _; rw [h119])
      · intro w9 hb9 fr hout hin
        have h120 : fr.tmps.getD 120 undef = .bool true := hin 120 (by decide) (by decide)
        clear hout hin
        exact relStep_move (.tmp 120) rfl (wanted_none rfl) (by show fr.tmps.getD 120 undef = _; rw [h120])
      · intro w9 hb9 fr hout hin
        have h20 : fr.tmps.getD 20 undef = .int .u64 0 := hout 20 (by decide)
        have h121 : fr.tmps.getD 121 undef = .bool true := hin 121 (by decide) (by decide)
        clear hout hin
        exact relStep_move (.tmp 20) rfl (wanted_some (g := 35) (t := 121) (b := true) rfl rfl h121) (by show fr.tmps.getD 20 undef = _; rw [h20])
      · intro w9 hb9 fr hout hin
        have h122 : fr.tmps.getD 122 undef = .int .u64 0 := hin 122 (by decide) (by decide)
        have h121 : fr.tmps.getD 121 undef = .bool true := hin 121 (by decide) (by decide)
        clear hout hin
        exact gs_bin .eql 22 (.tmp 122) (.const (.int .u64 0)) _ rfl h122 rfl (fun w => by go_simp) (fun w => by go_simp) (wanted_some (g := 35) (t := 121) (b := true) rfl rfl h121) rfl
      · intro w9 hb9 fr hout hin
        have h121 : fr.tmps.getD 121 undef = .bool true := hin 121 (by decide) (by decide)
        have h123 : fr.tmps.getD 123 undef = .bool true := hin 123 (by decide) (by decide)
        clear hout hin
        exact relStep_pick (.tmp 121) (.tmp 123) (.const (.bool false)) rfl h121 (wanted_none rfl) (by show fr.tmps.getD 123 undef = _; rw [h123])
      · intro w9 hb9 fr hout hin
        have h124 : fr.tmps.getD 124 undef = .bool true := hin 124 (by decide) (by decide)
        clear hout hin
        exact relStep_move (.tmp 124) rfl (wanted_none rfl) (by show fr.tmps.getD 124 undef = _; rw [h124])
      · intro w9 hb9 fr hout hin
        have h21 : fr.tmps.getD 21 undef = .bool true := hout 21 (by decide)
        have h125 : fr.tmps.getD 125 undef = .bool true := hin 125 (by decide) (by decide)
        clear hout hin
        exact relStep_move (.tmp 21) rfl (wanted_some (g := 39) (t := 125) (b := true) rfl rfl h125) (by show fr.tmps.getD 21 undef = _; rw [h21])
      · intro w9 hb9 fr hout hin
        have h125 : fr.tmps.getD 125 undef = .bool true := hin 125 (by decide) (by decide)
        have h126 : fr.tmps.getD 126 undef = .bool true := hin 126 (by decide) (by decide)
        clear hout hin
        exact relStep_pick (.tmp 125) (.tmp 126) (.const (.bool false)) rfl h125 (wanted_none rfl) (by show fr.tmps.getD 126 undef = _; rw [h126])
      · intro w9 hb9 fr hout hin
        have h127 : fr.tmps.getD 127 undef = .bool true := hin 127 (by decide) (by decide)
        clear hout hin
        exact relStep_assign (.tmp 127) rfl (wanted_none rfl) (by show fr.tmps.getD 127 undef = _; rw [h127])
    intro X11 hb9
    refine relAsk_in (by rfl) ?_
    intro v86 h86
    obtain rfl : v86 = .int .u64 (q : Nat) := h86
    refine relAsk_in (by rfl) ?_
    intro v87 h87
    obtain rfl : v87 = .int .u64 (q : Nat) := h87
    refine relAsk_in (by rfl) ?_
    intro v88 h88
    obtain rfl : v88 = .bool true := h88
    refine relAsk_in (by rfl) ?_
    intro v89 h89
    obtain rfl : v89 = .bool true := h89
    refine relAsk_in (by rfl) ?_
    intro v90 h90
    obtain rfl : v90 = .int .u64 (c : Nat) := h90
    refine relAsk_in (by rfl) ?_
    intro v91 h91
    obtain rfl : v91 = .int .u64 (d : Nat) := h91
    refine relAsk_in (by rfl) ?_
    intro v92 h92
    obtain rfl : v92 = .int .u64 (e : Nat) := h92
    refine relAsk_in (by rfl) ?_
    intro v93 h93
    obtain rfl : v93 = .int .u64 (e : Nat) := h93
    refine relAsk_in (by rfl) ?_
    intro v94 h94
    obtain rfl : v94 = .bool true := h94
    refine relAsk_in (by rfl) ?_
    intro v95 h95
    obtain rfl : v95 = .bool true := h95
    refine relAsk_in (by rfl) ?_
    intro v96 h96
    obtain rfl : v96 = .bool true := h96
    refine relAsk_in (by rfl) ?_
    intro v97 h97
    obtain rfl : v97 = .int .u64 (q : Nat) := h97
    refine relAsk_in (by rfl) ?_
    intro v98 h98
    obtain rfl : v98 = .int .u64 (x : Nat) := h98
    refine relAsk_in (by rfl) ?_
    intro v99 h99
    obtain rfl : v99 = .int .u64 (m : Nat) := h99
    refine relAsk_in (by rfl) ?_
    intro v100 h100
    obtain rfl : v100 = .int .u64 (s1 : Nat) := h100
    refine relAsk_in (by rfl) ?_
    intro v101 h101
    obtain rfl : v101 = .bool true := h101
    refine relAsk_in (by rfl) ?_
    intro v102 h102
    obtain rfl : v102 = .bool true := h102
    refine relAsk_in (by rfl) ?_
    intro v103 h103
    obtain rfl : v103 = .bool true := h103
    refine relAsk_in (by rfl) ?_
    intro v104 h104
    obtain rfl : v104 = .int .u64 (q : Nat) := h104
    refine relAsk_in (by rfl) ?_
    intro v105 h105
    obtain rfl : v105 = .int .u64 0 := h105
    refine relAsk_in (by rfl) ?_
    intro v106 h106
    obtain rfl : v106 = .bool true := h106
    refine relAsk_in (by rfl) ?_
    intro v107 h107
    obtain rfl : v107 = .bool true := h107
    refine relAsk_in (by rfl) ?_
    intro v108 h108
    obtain rfl : v108 = .bool true := h108
    refine relAsk_in (by rfl) ?_
    intro v109 h109
    obtain rfl : v109 = .int .u64 (q : Nat) := h109
    refine relAsk_in (by rfl) ?_
    intro v110 h110
    obtain rfl : v110 = .int .u64 (x : Nat) := h110
    refine relAsk_in (by rfl) ?_
    intro v111 h111
    obtain rfl : v111 = .int .u64 (m : Nat) := h111
    refine relAsk_in (by rfl) ?_
    intro v112 h112
    obtain rfl : v112 = .int .u64 (s1 : Nat) := h112
    refine relAsk_in (by rfl) ?_
    intro v113 h113
    obtain rfl : v113 = .int .u64 (s2 : Nat) := h113
    refine relAsk_in (by rfl) ?_
    intro v114 h114
    obtain rfl : v114 = .bool true := h114
    refine relAsk_in (by rfl) ?_
    intro v115 h115
    obtain rfl : v115 = .bool true := h115
    refine relAsk_in (by rfl) ?_
    intro v116 h116
    obtain rfl : v116 = .bool true := h116
    refine relAsk_in (by rfl) ?_
    intro v117 h117
    obtain rfl : v117 = .int .u64 (q : Nat) := h117
    refine relAsk_in (by rfl) ?_
    intro v118 h118
    obtain rfl : v118 = .int .u64 (q : Nat) := h118
    refine relAsk_in (by rfl) ?_
    intro v119 h119
    obtain rfl : v119 = .bool true := h119
    refine relAsk_in (by rfl) ?_
    intro v120 h120
    obtain rfl : v120 = .bool true := h120
    refine relAsk_in (by rfl) ?_
    intro v121 h121
    obtain rfl : v121 = .bool true := h121
    refine relAsk_in (by rfl) ?_
    intro v122 h122
    obtain rfl : v122 = .int .u64 0 := h122
    refine relAsk_in (by rfl) ?_
    intro v123 h123
    obtain rfl : v123 = .bool true := h123
    refine relAsk_in (by rfl) ?_
    intro v124 h124
    obtain rfl : v124 = .bool true := h124
    refine relAsk_in (by rfl) ?_
    intro v125 h125
    obtain rfl : v125 = .bool true := h125
    refine relAsk_in (by rfl) ?_
    intro v126 h126
    obtain rfl : v126 = .bool true := h126
    refine relAsk_in (by rfl) ?_
    intro v127 h127
    obtain rfl : v127 = .bool true := h127
    refine relAsk_in (by rfl) ?_
    intro v6 h6
    obtain rfl : v6 = .bool true := h6
    refine relAsk_nil ?_
    refine wpList_nil ?_
    go_simp
    have HB9 := Lib.hid (HB.out.trans (hb9.mono HB.out.size))
    go_wp2_with fail
    go_ret
    exact ⟨rfl, HB9.out⟩
end Go.Proofs.Ytiflfcdegpmhnaa
