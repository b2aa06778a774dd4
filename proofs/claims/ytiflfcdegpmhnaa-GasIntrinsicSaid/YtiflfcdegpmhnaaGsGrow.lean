/- Package quarryref17: Grow. (Written by wip/gengsgrow.py.) -/
import Derived.Test.YtiflfcdegpmhnaaGsExp
namespace Go.Proofs.Ytiflfcdegpmhnaa
open Go.RowKit

theorem cZ_mono {n m : Nat} (h : n ≤ m) : cZ n ≤ cZ m := by
  unfold cZ
  have h1 : n * n ≤ m * m := Nat.mul_le_mul h h
  have h2 := Nat.div_le_div_right (c := 512) h1
  omega
theorem cZ_small {n : Nat} (h : n ≤ 34359738368) : cZ n ≤ 2305843112292909056 := by
  have := cZ_mono h
  exact Nat.le_trans this (by decide)
/-- How many words a memory needs to reach a place. -/
def growW (a n : Nat) : Nat := (a + n + 31) / 32
/-- To how many bytes it grows. -/
def growTo (s a n : Nat) : Nat := if 32 * growW a n < s then s else 32 * growW a n
/-- What Grow tells. -/
def growV (s a n : Nat) : Value :=
  if n = 0 then .tuple #[.int .u64 (s : Nat), .int .u64 0, .bool true] else
  if 34359738368 < growW a n then .tuple #[.int .u64 0, .int .u64 0, .bool false] else
  .tuple #[.int .u64 (growTo s a n : Nat), .int .u64 ((cZ (growTo s a n / 32) - cZ (s / 32) : Nat) : Int), .bool true]
theorem eqW_in {a b : Nat} (ha : Big a) (hb : Big b) (w : World) : (Op.equalIn 10000 24 (W a) (W b)).run Try.prog w = .ok (decide (a = b)) w := by
  have k := eqIn (lim 0 a) (lim 1 a) (lim 2 a) (lim 3 a) (lim 0 b) (lim 1 b) (lim 2 b) (lim 3 b) w
  by_cases h : a = b
  · subst h
    rw [decide_eq_true rfl]
    rw [decide_eq_true ⟨rfl, rfl, rfl, rfl⟩] at k
    exact k
  · rw [decide_eq_false h]
    rw [decide_eq_false ((isW_lim ha).ne (isW_lim hb) h)] at k
    exact k
theorem gsW_0 : W 0 = .agg #[.int .u64 0, .int .u64 0, .int .u64 0, .int .u64 0] := by simp [lim]
theorem eqW_zero {a : Nat} (ha : Big a) (w : World) : (Op.equalIn 10000 24 (W a) (.agg #[.int .u64 0, .int .u64 0, .int .u64 0, .int .u64 0])).run Try.prog w = .ok (decide (a = 0)) w := by
  rw [← gsW_0]; exact eqW_in ha (by unfold Big; omega) w
theorem shr5 {v : Value} {a n : Nat} (w : World) (h : Num w v (a + n + 31) 10) : Calls Try.prog 46 #[v, .int .i64 5] w (RetR (fun w' x => Num w' x (growW a n) 10) w) := rshr_n w h (by omega) 5 (by omega)
theorem en_gsN (args : Array Value) (w : World) : (callFunc 37 args).run Try.prog w = .ok (.enter 37 args) w := by go_simp
theorem en_gsAdd (args : Array Value) (w : World) : (callFunc 47 args).run Try.prog w = .ok (.enter 47 args) w := by go_simp
theorem en_gsShr (args : Array Value) (w : World) : (callFunc 46 args).run Try.prog w = .ok (.enter 46 args) w := by go_simp
theorem en_gsOf (args : Array Value) (w : World) : (callFunc 38 args).run Try.prog w = .ok (.enter 38 args) w := by go_simp

set_option maxRecDepth 100000 in
set_option maxHeartbeats 6400000 in
theorem rgrow_c {s a n : Nat} (hs : s ≤ 1099511627776) (ha : Big a) (hn : Big n) (w : World) : Calls Try.prog 22 #[.int .u64 (s : Nat), W a, W n] w (RetV (growV s a n) w) := by
  obtain ⟨V, hV⟩ : ∃ V, V = growV s a n := ⟨_, rfl⟩
  rw [← hV]
  have HV := Lib.hid hV
  obtain ⟨X, hX⟩ : ∃ X, X = (w.alloc (.cells #[.int .u64 (lim 0 a : Nat), .int .u64 (lim 1 a : Nat), .int .u64 (lim 2 a : Nat), .int .u64 (lim 3 a : Nat)] 24)).alloc (.cells #[.int .u64 (lim 0 n : Nat), .int .u64 (lim 1 n : Nat), .int .u64 (lim 2 n : Nat), .int .u64 (lim 3 n : Nat)] 24) := ⟨_, rfl⟩
  have HA : Hid (Arr X w.heap.size 24 [lim 0 a, lim 1 a, lim 2 a, lim 3 a]) := by rw [hX]; exact (Arr.new4 w _ _ _ _ _).alloc _
  have HN : Hid (Arr X (w.heap.size + 1) 24 [lim 0 n, lim 1 n, lim 2 n, lim 3 n]) := by
    rw [hX]; have h := Arr.new4 (w.alloc (.cells #[.int .u64 (lim 0 a : Nat), .int .u64 (lim 1 a : Nat), .int .u64 (lim 2 a : Nat), .int .u64 (lim 3 a : Nat)] 24)) 24 (lim 0 n) (lim 1 n) (lim 2 n) (lim 3 n); rw [show (w.alloc (.cells #[.int .u64 (lim 0 a : Nat), .int .u64 (lim 1 a : Nat), .int .u64 (lim 2 a : Nat), .int .u64 (lim 3 a : Nat)] 24)).heap.size = w.heap.size + 1 by simp] at h; exact h
  have HL : Hid (w.heap.size < X.heap.size ∧ w.heap.size + 1 < X.heap.size) := by rw [hX]; exact ⟨by simp; omega, by simp⟩
  have HB : Hid (Below w.heap.size w X) := by rw [hX]; exact ((Below.refl _ _).alloc (Nat.le_refl _) _).alloc (by simp) _
  have HBA := Lib.hid ha
  have HBN := Lib.hid hn
  have HS := Lib.hid hs
  have HX := Lib.hid hX
  clear hX ha hn hs hV
  obtain ⟨b, hb⟩ : ∃ b : Bool, b = decide (n = 0) := ⟨_, rfl⟩
  have qz : ∀ W : World, (Op.equalIn 10000 24 (.agg #[.int .u64 (lim 0 n : Nat), .int .u64 (lim 1 n : Nat), .int .u64 (lim 2 n : Nat), .int .u64 (lim 3 n : Nat)]) (.agg #[.int .u64 0, .int .u64 0, .int .u64 0, .int .u64 0])).run Try.prog W = .ok b W := fun W => by rw [hb]; exact eqW_zero HBN.out W
  have HBB := Lib.hid hb
  have hV := HV.out
  unfold growV at hV
  clear hb
  go_enter Try.func22, Try.ntmps22
  go_upto_region 1 with (fail)
  rw [show (w.alloc (.cells #[.int .u64 (lim 0 a : Nat), .int .u64 (lim 1 a : Nat), .int .u64 (lim 2 a : Nat), .int .u64 (lim 3 a : Nat)] 24)).alloc (.cells #[.int .u64 (lim 0 n : Nat), .int .u64 (lim 1 n : Nat), .int .u64 (lim 2 n : Nat), .int .u64 (lim 3 n : Nat)] 24) = X from HX.out.symm]
  obtain ⟨y0, y1, y2, y3⟩ := HN.out.cells4
  cases b with
  | true =>
    rw [if_pos (of_decide_eq_true HBB.out.symm)] at hV
    replace HV := Lib.hid hV
    clear hV
    go_wp2_with fail
    exact bodyPost_ret (v := .tuple #[.int .u64 (s : Nat), .int .u64 0, .bool true]) (by simp [results, Try.results22, go_sem]) rfl ⟨by rw [HV.out], HB.out⟩
  | false =>
  rw [if_neg (of_decide_eq_false HBB.out.symm)] at hV
  replace HV := Lib.hid hV
  clear hV HBB
  go_upto_region 3 with (fail)
  clear y0 y1 y2 y3 qz
  refine wp_region_see 9 [15, 16, 17, 18, 19, 20, 21, 22, 9] [(15, .is (W a)), (16, .num (a) 8), (17, .is (W n)), (18, .num (n) 8), (19, .num (a + n) 9), (20, .num (31) 2), (21, .num (a + n + 31) 10), (22, .num (growW a n) 10), (9, .num (growW a n) 10)] (by kernel_rfl) (by kernel_rfl) (by rfl) ?_ ?_
  · refine seeOps_cons ?_ (seeOps_cons ?_ (seeOps_cons ?_ (seeOps_cons ?_ (seeOps_cons ?_ (seeOps_cons ?_ (seeOps_cons ?_ (seeOps_cons ?_ (seeOps_cons ?_ seeOps_nil))))))))
    · intro w9 hb9 fr hout hin
      have h4 : fr.tmps.getD 4 undef = .pointer (some ⟨w.heap.size, 0, none⟩) := hout 4 (by decide)
      clear hout hin
      exact gs_loadW (n := a) (.tmp 4) rfl h4 (HA.out.below hb9 HL.out.1).cells4 (wanted_none rfl) rfl
    · intro w9 hb9 fr hout hin
      have h15 : fr.tmps.getD 15 undef = W a := hin 15 (by decide) (by decide)
      clear hout hin
      exact gs_call1 (.tmp 15) rfl en_gsN (wanted_none rfl) (by rw [show fr.eval (.tmp 15) = _ from h15]; exact rN_c (isW_lim HBA.out) w9) (fun _ _ h => h)
    · intro w9 hb9 fr hout hin
      have h5 : fr.tmps.getD 5 undef = .pointer (some ⟨w.heap.size + 1, 0, none⟩) := hout 5 (by decide)
      clear hout hin
      exact gs_loadW (n := n) (.tmp 5) rfl h5 (HN.out.below hb9 HL.out.2).cells4 (wanted_none rfl) rfl
    · intro w9 hb9 fr hout hin
      have h17 : fr.tmps.getD 17 undef = W n := hin 17 (by decide) (by decide)
      clear hout hin
      exact gs_call1 (.tmp 17) rfl en_gsN (wanted_none rfl) (by rw [show fr.eval (.tmp 17) = _ from h17]; exact rN_c (isW_lim HBN.out) w9) (fun _ _ h => h)
    · intro w9 hb9 fr hout hin
      have h16 : Num w9 (fr.tmps.getD 16 undef) (a) 8 := hin 16 (by decide) (by decide)
      have h18 : Num w9 (fr.tmps.getD 18 undef) (n) 8 := hin 18 (by decide) (by decide)
      clear hout hin
      exact gs_call2 (.tmp 16) (.tmp 18) rfl en_gsAdd (wanted_none rfl) (radd_n w9 h16 h18 (by omega) (by omega)) (fun _ _ h => h.mono (by omega))
    · intro w9 hb9 fr hout hin
      clear hout hin
      exact gs_call1 (.const (.int .u64 31)) rfl en_gsOf (wanted_none rfl) (rof_c 31 (by omega) w9) (fun _ _ h => h)
    · intro w9 hb9 fr hout hin
      have h19 : Num w9 (fr.tmps.getD 19 undef) (a + n) 9 := hin 19 (by decide) (by decide)
      have h20 : Num w9 (fr.tmps.getD 20 undef) (31) 2 := hin 20 (by decide) (by decide)
      clear hout hin
      exact gs_call2 (.tmp 19) (.tmp 20) rfl en_gsAdd (wanted_none rfl) (radd_n w9 h19 h20 (by omega) (by omega)) (fun _ _ h => h.mono (by omega))
    · intro w9 hb9 fr hout hin
      have h21 : Num w9 (fr.tmps.getD 21 undef) (a + n + 31) 10 := hin 21 (by decide) (by decide)
      clear hout hin
      exact gs_call2 (.tmp 21) (.const (.int .i64 5)) rfl en_gsShr (wanted_none rfl) (shr5 w9 h21) (fun _ _ h => h)
    · intro w9 hb9 fr hout hin
      have h22 : Num w9 (fr.tmps.getD 22 undef) (growW a n) 10 := hin 22 (by decide) (by decide)
      clear hout hin
      exact relStep_assign (.tmp 22) rfl (wanted_none rfl) h22
  intro X9 hb9
  refine relAsk_in (by rfl) ?_
  intro v15 h15
  obtain rfl : v15 = W a := h15
  refine relAsk_in (by rfl) ?_
  intro v16 h16
  refine relAsk_in (by rfl) ?_
  intro v17 h17
  obtain rfl : v17 = W n := h17
  refine relAsk_in (by rfl) ?_
  intro v18 h18
  refine relAsk_in (by rfl) ?_
  intro v19 h19
  refine relAsk_in (by rfl) ?_
  intro v20 h20
  refine relAsk_in (by rfl) ?_
  intro v21 h21
  refine relAsk_in (by rfl) ?_
  intro v22 h22
  refine relAsk_in (by rfl) ?_
  intro v9 h9
  refine relAsk_nil ?_
  refine wpList_nil ?_
  clear h16 h18 h19 h20 h21 h22
  have H9 := Lib.hid h9
  clear h9
  have HB9 := Lib.hid (HB.out.trans (hb9.mono HB.out.size))
  clear hb9
  go_simp
  obtain ⟨m, hm⟩ : ∃ m, m = growW a n := ⟨_, rfl⟩
  have hV := HV.out
  unfold growTo at hV
  rw [← hm] at H9 hV
  replace HV := Lib.hid hV
  clear hm hV HX HA HN HL HB HBA HBN
  have kO : ∀ w, Calls Try.prog 38 #[.int .u64 34359738368] w (RetR (fun w' v => Num w' v 34359738368 2) w) := fun w => rof_c 34359738368 (by omega) w
  have KO := Lib.hid kO
  clear kO
  go_wp2_with fail
  (with_reducible refine (KO.out _).mono ?_)
  rintro e2 w2 ⟨v2, rfl, h2, hb2⟩
  have H92 := Lib.hid (H9.out.below hb2)
  have HB2 := Lib.hid (HB9.out.trans (hb2.mono HB9.out.size))
  have hc := Lib.hid (rcmp_n w2 H92.out h2 (by omega))
  clear hb2 h2 KO H9 HB9
  obtain ⟨z, hz⟩ : ∃ z, z = ordI m 34359738368 := ⟨_, rfl⟩
  rw [← hz] at hc
  have HZ := Lib.hid hz
  clear hz
  go_wp2_with fail
  (with_reducible refine hc.out.mono ?_)
  rintro e3 w3 ⟨rfl, q, hw3⟩
  have H93 : Hid (Num w3 v9 m 10) := by rw [hw3]; exact H92.out.below ⟨rfl, rfl, rfl, Nat.le_refl _, fun _ _ => rfl⟩
  have HB3 : Hid (Below w.heap.size w w3) := by rw [hw3]; exact HB2.out.trans ⟨rfl, rfl, rfl, Nat.le_refl _, fun _ _ => rfl⟩
  clear hw3 hc H92 HB2
  have hV := HV.out
  by_cases c : 34359738368 < m
  · have hz : 0 < z := by rw [HZ.out]; unfold ordI; split <;> (try split) <;> omega
    rw [if_pos c] at hV
    replace HV := Lib.hid hV
    clear c HZ hV
    go_wp2_with fail
    exact bodyPost_ret (v := .tuple #[.int .u64 0, .int .u64 0, .bool false]) (by simp [results, Try.results22, go_sem]) rfl ⟨by rw [HV.out], HB3.out⟩
  have hz : ¬ 0 < z := by rw [HZ.out]; unfold ordI; split <;> (try split) <;> omega
  rw [if_neg c] at hV
  replace HV := Lib.hid hV
  have hw := Lib.hid (rW_n w3 H93.out (by omega))
  clear hV HZ H93
  go_wp2_with fail
  (with_reducible refine hw.out.mono ?_)
  rintro e5 w5 ⟨l0, l1, l2, l3, rfl, h5, hb5⟩
  have HB5 := Lib.hid (HB3.out.trans (hb5.mono HB3.out.size))
  clear hw hb5 HB3
  rw [Nat.mod_eq_of_lt (by omega)] at h5
  obtain ⟨la, lb, lc, ld, hv⟩ := h5
  have hl0 : l0 = m := by unfold Lim at *; omega
  subst hl0
  have e1 : IntKind.u64.wrap (32 * (l0 : Int)) = ((32 * l0 : Nat) : Int) := by rw [IntKind.wrap_u64]; omega
  obtain ⟨t, ht⟩ : ∃ t, t = if 32 * l0 < s then s else 32 * l0 := ⟨_, rfl⟩
  have hs := HS.out
  have ht2 : t ≤ 1099511627776 := by rw [ht]; split <;> omega
  have hts : s ≤ t := by rw [ht]; split <;> omega
  have hV := HV.out
  rw [← ht] at hV
  have kC1 : ∀ w, Calls Try.prog 49 #[.int .u64 ((t / 32 : Nat) : Int)] w (RetV (.int .u64 (cZ (t / 32) : Nat)) w) := fun w => rc_c (t / 32) (by omega) w
  have kC2 : ∀ w, Calls Try.prog 49 #[.int .u64 ((s / 32 : Nat) : Int)] w (RetV (.int .u64 (cZ (s / 32) : Nat)) w) := fun w => rc_c (s / 32) (by omega) w
  have d1 : (t : Int).tdiv 32 = ((t / 32 : Nat) : Int) := by rw [Int.tdiv_eq_ediv_of_nonneg (by omega)]; omega
  have d2 : (s : Int).tdiv 32 = ((s / 32 : Nat) : Int) := by rw [Int.tdiv_eq_ediv_of_nonneg (by omega)]; omega
  have d3 : (t : Int) / 32 = ((t / 32 : Nat) : Int) := by omega
  have d4 : (s : Int) / 32 = ((s / 32 : Nat) : Int) := by omega
  have g1 : IntKind.u64.wrap ((t / 32 : Nat) : Int) = ((t / 32 : Nat) : Int) := by rw [IntKind.wrap_u64]; omega
  have g2 : IntKind.u64.wrap ((s / 32 : Nat) : Int) = ((s / 32 : Nat) : Int) := by rw [IntKind.wrap_u64]; omega
  have m1 := cZ_mono (show s / 32 ≤ t / 32 by omega)
  have m2 := cZ_small (show t / 32 ≤ 34359738368 by omega)
  obtain ⟨p, hp⟩ : ∃ p, p = t / 32 := ⟨_, rfl⟩
  obtain ⟨r, hr⟩ : ∃ r, r = s / 32 := ⟨_, rfl⟩
  rw [← hp] at kC1 d1 d3 g1 m1 m2 hV
  rw [← hr] at kC2 d2 d4 g2 m1 hV
  obtain ⟨cp, hcp⟩ : ∃ x, x = cZ p := ⟨_, rfl⟩
  obtain ⟨cr, hcr⟩ : ∃ x, x = cZ r := ⟨_, rfl⟩
  rw [← hcp] at kC1 m1 m2 hV
  rw [← hcr] at kC2 m1 hV
  have e6 : IntKind.u64.wrap ((cp : Int) - (cr : Int)) = ((cp - cr : Nat) : Int) := by rw [IntKind.wrap_u64]; omega
  replace HV := Lib.hid hV
  have KC1 := Lib.hid kC1
  have KC2 := Lib.hid kC2
  have hx := index_w0 l0 l1 l2 l3 w5
  clear la lb lc ld hv hs ht2 hts hV kC1 kC2 m1 m2 c HS
  by_cases c2 : 32 * l0 < s
  · have c3 : ((32 * l0 : Nat) : Int) < (s : Int) := by omega
    rw [if_pos c2] at ht
    subst ht
    obtain rfl : p = r := by rw [hp, hr]
    obtain rfl : cp = cr := by rw [hcp, hcr]
    clear c2 hp hr hcp hcr d2 d4 g2
    obtain ⟨l32, h32⟩ : ∃ x, x = 32 * l0 := ⟨_, rfl⟩
    rw [← h32] at e1 c3
    clear h32
    go_wp2_with fail
    (with_reducible refine (KC1.out _).mono ?_)
    rintro e6 w6 ⟨rfl, hb6⟩
    have HB6 := Lib.hid (HB5.out.trans (hb6.mono HB5.out.size))
    clear hb6 HB5 KC1
    go_wp2_with fail
    (with_reducible refine (KC2.out _).mono ?_)
    rintro e7 w7 ⟨rfl, hb7⟩
    have HB7 := Lib.hid (HB6.out.trans (hb7.mono HB6.out.size))
    clear hb7 HB6 KC2
    go_wp2_with fail
    exact bodyPost_ret (v := .tuple #[.int .u64 (t : Nat), .int .u64 ((cp - cp : Nat) : Int), .bool true]) (by simp [results, Try.results22, go_sem]) rfl ⟨by rw [HV.out], HB7.out⟩
  · have c3 : ¬ ((32 * l0 : Nat) : Int) < (s : Int) := by omega
    rw [if_neg c2] at ht
    rw [← ht] at e1 c3
    clear c2 ht hp hr hcp hcr
    go_wp2_with fail
    (with_reducible refine (KC1.out _).mono ?_)
    rintro e6 w6 ⟨rfl, hb6⟩
    have HB6 := Lib.hid (HB5.out.trans (hb6.mono HB5.out.size))
    clear hb6 HB5 KC1
    go_wp2_with fail
    (with_reducible refine (KC2.out _).mono ?_)
    rintro e7 w7 ⟨rfl, hb7⟩
    have HB7 := Lib.hid (HB6.out.trans (hb7.mono HB6.out.size))
    clear hb7 HB6 KC2
    go_wp2_with fail
    exact bodyPost_ret (v := .tuple #[.int .u64 (t : Nat), .int .u64 ((cp - cr : Nat) : Int), .bool true]) (by simp [results, Try.results22, go_sem]) rfl ⟨by rw [HV.out], HB7.out⟩
end Go.Proofs.Ytiflfcdegpmhnaa
