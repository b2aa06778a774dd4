/- The contracts that WordForms wants besides: orders, bits, bytes, of package word and of the reference. -/
import Derived.Test.YtihffojljbgpcaaShort
import Derived.Test.YtihffojljbgpcaaRef4
import Derived.Test.YtihffojljbgpcaaOps2
import Derived.Test.YtihffojljbgpcaaRFrom
import Derived.Test.YtihffojljbgpcaaRBit
import Derived.Deep.DeepCutAuto
namespace Go.Proofs.Ytihffojljbgpcaa
open Go.RowKit

theorem start2b (w : World) (t : TypeId) (a0 a1 a2 a3 b0 b1 b2 b3 : Nat) (X : World)
    (hX : X = (w.alloc (.cells #[.int .u64 (a0 : Nat), .int .u64 (a1 : Nat), .int .u64 (a2 : Nat), .int .u64 (a3 : Nat)] t)).alloc (.cells #[.int .u64 (b0 : Nat), .int .u64 (b1 : Nat), .int .u64 (b2 : Nat), .int .u64 (b3 : Nat)] t)) :
    Arr X w.heap.size t [a0, a1, a2, a3] ∧ Arr X (w.heap.size + 1) t [b0, b1, b2, b3] ∧ X.heap.size = w.heap.size + 1 + 1 ∧ Below w.heap.size w X := by
  subst hX
  refine ⟨(Arr.new4 w t a0 a1 a2 a3).alloc _, ?_, by simp, ((Below.refl _ _).alloc (Nat.le_refl _) _).alloc (by simp) _⟩
  have h := Arr.new4 (w.alloc (.cells #[.int .u64 (a0 : Nat), .int .u64 (a1 : Nat), .int .u64 (a2 : Nat), .int .u64 (a3 : Nat)] t)) t b0 b1 b2 b3
  simpa using h
theorem ne_bne : ∀ u v : Bool, true = (u != v) → u ≠ v := by decide
theorem eq_bne : ∀ u v : Bool, false = (u != v) → u = v := by decide
theorem ord_cmp (a b : Nat) : ordI a b = cmpv a b := by
  unfold ordI cmpv
  first | rfl | (split <;> split <;> first | rfl | omega)
theorem xor63_lt {x : Nat} (h : x < 2 ^ 63) : x ^^^ 2 ^ 63 = 2 ^ 63 + x := by
  apply Nat.eq_of_testBit_eq
  intro j
  rw [Nat.testBit_xor, Nat.testBit_two_pow]
  rcases Nat.lt_trichotomy j 63 with hj | rfl | hj
  · rw [Nat.testBit_two_pow_add_gt hj]
    simp [show ¬ 63 = j by omega]
  · rw [Nat.testBit_two_pow_add_eq]
    simp
  · have h2 : 2 ^ 64 ≤ 2 ^ j := Nat.pow_le_pow_right (by omega) (by omega)
    rw [Nat.testBit_lt_two_pow (show x < 2 ^ j by omega), Nat.testBit_lt_two_pow (show 2 ^ 63 + x < 2 ^ j by omega)]
    simp [show ¬ 63 = j by omega]
/-- A limb with its highest bit turned round. -/
def fl (x : Nat) : Nat := if x < 9223372036854775808 then 9223372036854775808 + x else x - 9223372036854775808
theorem fl_xor {x : Nat} (h : Lim x) : bits .xor .u64 (x : Int) 9223372036854775808 = ((fl x : Nat) : Int) ∧ Lim (fl x) := by
  unfold Lim at *
  have h1 := bits_xor_u64_nat x 9223372036854775808 h (by omega)
  have e : x ^^^ 9223372036854775808 = fl x := by
    unfold fl
    rw [show (9223372036854775808 : Nat) = 2 ^ 63 by decide]
    by_cases hl : x < 2 ^ 63
    · rw [if_pos hl, xor63_lt hl]
    · rw [if_neg hl]
      obtain ⟨y, rfl⟩ : ∃ y, x = 2 ^ 63 + y := ⟨x - 2 ^ 63, by omega⟩
      rw [← xor63_lt (by omega), Nat.xor_assoc, Nat.xor_self, Nat.xor_zero]
      have := xor63_lt (x := y) (by omega)
      omega
  rw [e] at h1
  exact ⟨h1, by unfold fl; split <;> omega⟩
/-- A number with its sign bit turned round; the order of signed values. -/
def flip (a : Nat) : Nat := if a < 57896044618658097711785492504343953926634992332820282019728792003956564819968 then 57896044618658097711785492504343953926634992332820282019728792003956564819968 + a else a - 57896044618658097711785492504343953926634992332820282019728792003956564819968
def scmpv (a b : Nat) : Int := cmpv (flip a) (flip b)
theorem flip_isW {a : Nat} (h : Big a) : IsW (lim 0 a) (lim 1 a) (lim 2 a) (fl (lim 3 a)) (flip a) := by
  obtain ⟨l0, l1, l2, l3, hv⟩ := isW_lim h
  refine ⟨l0, l1, l2, (fl_xor l3).2, ?_⟩
  generalize lim 0 a = x0 at *
  generalize lim 1 a = x1 at *
  generalize lim 2 a = x2 at *
  generalize lim 3 a = x3 at *
  unfold flip fl
  split <;> split <;> omega
theorem scmp_sgn {a b : Nat} (ha : Big a) (hb : Big b) (h : sgn a ≠ sgn b) : scmpv a b = if sgn a = true then -1 else 1 := by
  unfold scmpv cmpv flip
  unfold sgn at *
  unfold Big at *
  by_cases h1 : 57896044618658097711785492504343953926634992332820282019728792003956564819968 ≤ a <;> by_cases h2 : 57896044618658097711785492504343953926634992332820282019728792003956564819968 ≤ b <;> simp [h1, h2] at h ⊢ <;> (repeat' split) <;> omega
theorem scmp_cmp {a b : Nat} (ha : Big a) (hb : Big b) (h : sgn a = sgn b) : scmpv a b = cmpv a b := by
  unfold scmpv cmpv flip
  unfold sgn at *
  unfold Big at *
  by_cases h1 : 57896044618658097711785492504343953926634992332820282019728792003956564819968 ≤ a <;> by_cases h2 : 57896044618658097711785492504343953926634992332820282019728792003956564819968 ≤ b <;> simp [h1, h2] at h ⊢ <;> (repeat' split) <;> omega
set_option maxRecDepth 100000 in
set_option maxHeartbeats 3200000 in
theorem cmp1_c {a b : Nat} (ha : Big a) (hb : Big b) (w : World) : Calls Try.prog 32 #[W a, W b] w (RetV (.int .i64 (cmpv a b)) w) := by
  have IA := Lib.hid (isW_lim ha)
  have IB := Lib.hid (isW_lim hb)
  clear ha hb
  go_enter Try.func32, Try.ntmps32
  go_upto_region 1 with (fail)
  obtain ⟨gA, gB, gS, gW⟩ := start2b w 24 (lim 0 a) (lim 1 a) (lim 2 a) (lim 3 a) (lim 0 b) (lim 1 b) (lim 2 b) (lim 3 b) _ rfl
  generalize (w.alloc (.cells #[.int .u64 (lim 0 a : Nat), .int .u64 (lim 1 a : Nat), .int .u64 (lim 2 a : Nat), .int .u64 (lim 3 a : Nat)] 24)).alloc (.cells #[.int .u64 (lim 0 b : Nat), .int .u64 (lim 1 b : Nat), .int .u64 (lim 2 b : Nat), .int .u64 (lim 3 b : Nat)] 24) = X at *
  clear gS
  go_wp2_with fail
  refine wp_region_rel 6 [(5, (.is (W a))), (6, .num (a) 8), (7, (.is (W b))), (8, .num (b) 8), (9, (.is (.int .i64 (cmpv a b)))), (4, (.is (.int .i64 (cmpv a b))))] (by kernel_rfl) (by kernel_rfl) ?_ ?_
  · refine relOps_cons ?_ (relOps_cons ?_ (relOps_cons ?_ (relOps_cons ?_ (relOps_cons ?_ (relOps_cons ?_ relOps_nil)))))
    · intro w' hb'
      refine relAsk_out (by rfl) ?_
      refine relAsk_nil ?_
      refine relStep_go (by rfl) ?_
      obtain ⟨x0, x1, x2, x3⟩ := (gA.below hb' gA.lt).cells4
      clear gA gB
      go_simp
      exact rel_val rfl
    · intro w' hb'
      refine relAsk_in (by rfl) ?_
      intro v5 h5
      obtain rfl : v5 = (W a) := h5
      refine relAsk_nil ?_
      refine relStep_go (by rfl) ?_
      go_simp
      exact rel_call (rN_c IA.out _) (fun _ _ h => h)
    · intro w' hb'
      refine relAsk_out (by rfl) ?_
      refine relAsk_nil ?_
      refine relStep_go (by rfl) ?_
      obtain ⟨x0, x1, x2, x3⟩ := (gB.below hb' gB.lt).cells4
      clear gA gB
      go_simp
      exact rel_val rfl
    · intro w' hb'
      refine relAsk_in (by rfl) ?_
      intro v7 h7
      obtain rfl : v7 = (W b) := h7
      refine relAsk_nil ?_
      refine relStep_go (by rfl) ?_
      go_simp
      exact rel_call (rN_c IB.out _) (fun _ _ h => h)
    · intro w' hb'
      refine relAsk_in (by rfl) ?_
      intro v6 h6
      replace h6 : Num w' v6 (a) 8 := h6
      refine relAsk_in (by rfl) ?_
      intro v8 h8
      replace h8 : Num w' v8 (b) 8 := h8
      refine relAsk_nil ?_
      refine relStep_go (by rfl) ?_
      have hE := rcmp_n w' h6 h8 (by omega)
      rw [ord_cmp] at hE
      go_simp
      exact rel_callD hE (fun _ => rfl)
    · intro w' hb'
      refine relAsk_in (by rfl) ?_
      intro v9 h9
      obtain rfl : v9 = (.int .i64 (cmpv a b)) := h9
      refine relAsk_nil ?_
      refine relStep_go (by rfl) ?_
      go_simp
      exact rel_val rfl
  · intro w' hb'
    refine relAsk_in (by rfl) ?_
    intro v5 h5
    obtain rfl : v5 = (W a) := h5
    refine relAsk_in (by rfl) ?_
    intro v6 h6
    replace h6 : Num w' v6 (a) 8 := h6
    refine relAsk_in (by rfl) ?_
    intro v7 h7
    obtain rfl : v7 = (W b) := h7
    refine relAsk_in (by rfl) ?_
    intro v8 h8
    replace h8 : Num w' v8 (b) 8 := h8
    refine relAsk_in (by rfl) ?_
    intro v9 h9
    obtain rfl : v9 = (.int .i64 (cmpv a b)) := h9
    refine relAsk_in (by rfl) ?_
    intro v4 h4
    obtain rfl : v4 = (.int .i64 (cmpv a b)) := h4
    refine relAsk_nil ?_
    refine wpList_nil ?_
    have kW := gW.trans (hb'.mono gW.size)
    clear gA gB hb' h6 h8
    go_simp
    go_wp2_with fail
    go_ret
    exact ⟨rfl, kW⟩
set_option maxRecDepth 100000 in
set_option maxHeartbeats 3200000 in
theorem scmp1_c {a b : Nat} (ha : Big a) (hb : Big b) (w : World) : Calls Try.prog 34 #[W a, W b] w (RetV (.int .i64 (scmpv a b)) w) := by
  have s1 := scmp_sgn ha hb
  have s2 := scmp_cmp ha hb
  obtain ⟨u, hu⟩ : ∃ u, u = sgn a := ⟨_, rfl⟩
  obtain ⟨v, hv⟩ : ∃ v, v = sgn b := ⟨_, rfl⟩
  have k1 : ∀ w, Calls Try.prog 106 #[W a] w (RetV (.bool u) w) := fun w => by rw [hu]; exact minus_W ha w
  have k1a : ∀ w, Calls Try.prog 106 #[.agg #[.int .u64 (lim 0 a : Nat), .int .u64 (lim 1 a : Nat), .int .u64 (lim 2 a : Nat), .int .u64 (lim 3 a : Nat)]] w (RetV (.bool u) w) := fun w => by rw [hu]; exact minus_W ha w
  have k2 : ∀ w, Calls Try.prog 106 #[W b] w (RetV (.bool v) w) := fun w => by rw [hv]; exact minus_W hb w
  have k3 : ∀ w, Calls Try.prog 32 #[.agg #[.int .u64 (lim 0 a : Nat), .int .u64 (lim 1 a : Nat), .int .u64 (lim 2 a : Nat), .int .u64 (lim 3 a : Nat)], .agg #[.int .u64 (lim 0 b : Nat), .int .u64 (lim 1 b : Nat), .int .u64 (lim 2 b : Nat), .int .u64 (lim 3 b : Nat)]] w (RetV (.int .i64 (cmpv a b)) w) := fun w => cmp1_c ha hb w
  rw [← hu, ← hv] at s1 s2
  have HU := Lib.hid k1
  have HUa := Lib.hid k1a
  have HV := Lib.hid k2
  have HC := Lib.hid k3
  have HS1 := Lib.hid s1
  have HS2 := Lib.hid s2
  clear k1 k1a k2 k3 s1 s2 hu hv ha hb
  go_enter Try.func34, Try.ntmps34
  go_upto_region 1 with (fail)
  obtain ⟨gA, gB, gS, gW⟩ := start2b w 24 (lim 0 a) (lim 1 a) (lim 2 a) (lim 3 a) (lim 0 b) (lim 1 b) (lim 2 b) (lim 3 b) _ rfl
  generalize (w.alloc (.cells #[.int .u64 (lim 0 a : Nat), .int .u64 (lim 1 a : Nat), .int .u64 (lim 2 a : Nat), .int .u64 (lim 3 a : Nat)] 24)).alloc (.cells #[.int .u64 (lim 0 b : Nat), .int .u64 (lim 1 b : Nat), .int .u64 (lim 2 b : Nat), .int .u64 (lim 3 b : Nat)] 24) = X at *
  clear gS
  go_wp2_with fail
  refine wp_region_see 5 [5, 6, 7, 8, 9] [(5, .is (W a)), (6, .is (.bool u)), (7, .is (W b)), (8, .is (.bool v)), (9, .is (.bool (u != v)))] (by kernel_rfl) (by kernel_rfl) (by rfl) ?_ ?_
  · refine seeOps_cons ?_ (seeOps_cons ?_ (seeOps_cons ?_ (seeOps_cons ?_ (seeOps_cons ?_ seeOps_nil))))
    · intro w' hb' fr hout hin
      have e2 : fr.tmps.getD 2 undef = .pointer (some ⟨w.heap.size, 0, none⟩) := hout 2 (by decide)
      clear hout hin
      exact op_load (n := a) (.tmp 2) rfl e2 ((gA.below hb' gA.lt).cells4) (wanted_none rfl) rfl
    · intro w' hb' fr hout hin
      have h5 : fr.tmps.getD 5 undef = W a := hin 5 (by decide) (by decide)
      clear hout hin
      exact relStep_callV 106 #[W a] (wanted_none rfl) (HU.out _) (fun _ => rfl) (by have hh := h5; go_simp)
    · intro w' hb' fr hout hin
      have e3 : fr.tmps.getD 3 undef = .pointer (some ⟨w.heap.size + 1, 0, none⟩) := hout 3 (by decide)
      clear hout hin
      exact op_load (n := b) (.tmp 3) rfl e3 ((gB.below hb' gB.lt).cells4) (wanted_none rfl) rfl
    · intro w' hb' fr hout hin
      have h7 : fr.tmps.getD 7 undef = W b := hin 7 (by decide) (by decide)
      clear hout hin
      exact relStep_callV 106 #[W b] (wanted_none rfl) (HV.out _) (fun _ => rfl) (by have hh := h7; go_simp)
    · intro w' hb' fr hout hin
      have h6 : fr.tmps.getD 6 undef = .bool u := hin 6 (by decide) (by decide)
      have h8 : fr.tmps.getD 8 undef = .bool v := hin 8 (by decide) (by decide)
      clear hout hin
      exact op_neB (.tmp 6) (.tmp 8) _ rfl h6 h8 (wanted_none rfl) rfl
  · intro w' hb'
    refine relAsk_in (by rfl) ?_
    intro v5 h5
    obtain rfl : v5 = W a := h5
    refine relAsk_in (by rfl) ?_
    intro v6 h6
    obtain rfl : v6 = .bool u := h6
    refine relAsk_in (by rfl) ?_
    intro v7 h7
    obtain rfl : v7 = W b := h7
    refine relAsk_in (by rfl) ?_
    intro v8 h8
    obtain rfl : v8 = .bool v := h8
    refine relAsk_in (by rfl) ?_
    intro v9 h9
    obtain rfl : v9 = .bool (u != v) := h9
    refine relAsk_nil ?_
    refine wpList_nil ?_
    go_simp
    have gA := gA.below hb' gA.lt
    have gB := gB.below hb' gB.lt
    have gW := gW.trans (hb'.mono gW.size)
    obtain ⟨t, ht⟩ : ∃ t, t = (u != v) := ⟨_, rfl⟩
    rw [← ht]
    have HT := Lib.hid ht
    clear hb' HU HV ht
    go_simp
    cases t with
    | true =>
      have hne : u ≠ v := ne_bne u v HT.out
      have hs := Lib.hid (HS1.out hne)
      clear hne
      obtain ⟨x0, x1, x2, x3⟩ := gA.cells4
      go_wp2_with fail
      (with_reducible refine (HUa.out _).mono ?_)
      rintro e w2 ⟨rfl, hb2⟩
      have kW := Lib.hid (gW.trans (hb2.mono gW.size))
      clear x0 x1 x2 x3 gA gB gW hb2
      cases u with
      | true =>
        go_wp2_with fail
        go_ret
        exact ⟨by rw [hs.out]; rfl, kW.out⟩
      | false =>
        go_wp2_with fail
        go_ret
        exact ⟨by rw [hs.out]; rfl, kW.out⟩
    | false =>
      have heq : u = v := eq_bne u v HT.out
      have hs := Lib.hid (HS2.out heq)
      clear heq
      obtain ⟨x0, x1, x2, x3⟩ := gA.cells4
      obtain ⟨y0, y1, y2, y3⟩ := gB.cells4
      go_wp2_with fail
      (with_reducible refine (HC.out _).mono ?_)
      rintro e w2 ⟨rfl, hb2⟩
      have kW := Lib.hid (gW.trans (hb2.mono gW.size))
      clear x0 x1 x2 x3 y0 y1 y2 y3 gA gB gW hb2
      go_wp2_with fail
      go_ret
      exact ⟨by rw [hs.out]; rfl, kW.out⟩
set_option maxRecDepth 100000 in
set_option maxHeartbeats 3200000 in
theorem scmp_c {a b : Nat} (ha : Big a) (hb : Big b) (w : World) : Calls Try.prog 33 #[W a, W b] w (RetV (.int .i64 (scmpv a b)) w) := by
  obtain ⟨xa, exa⟩ : ∃ x, x = fl (lim 3 a) := ⟨_, rfl⟩
  obtain ⟨xb, exb⟩ : ∃ x, x = fl (lim 3 b) := ⟨_, rfl⟩
  have e1 : bits .xor .u64 ((lim 3 a : Nat) : Int) 9223372036854775808 = (xa : Int) := by rw [exa]; exact (fl_xor (lim_lt 3 a)).1
  have e2 : bits .xor .u64 ((lim 3 b : Nat) : Int) 9223372036854775808 = (xb : Int) := by rw [exb]; exact (fl_xor (lim_lt 3 b)).1
  have k1 : ∀ w, Calls Try.prog 31 #[.agg #[.int .u64 (lim 0 a : Nat), .int .u64 (lim 1 a : Nat), .int .u64 (lim 2 a : Nat), .int .u64 (xa : Nat)], .agg #[.int .u64 (lim 0 b : Nat), .int .u64 (lim 1 b : Nat), .int .u64 (lim 2 b : Nat), .int .u64 (xb : Nat)]] w (RetV (.int .i64 (scmpv a b)) w) := fun w => by
    have h := cmp_c (flip_isW ha) (flip_isW hb) w
    rw [← exa, ← exb] at h
    exact h
  have K1 := Lib.hid k1
  clear k1 exa exb ha hb
  go_enter Try.func33, Try.ntmps33
  go_upto_region 1 with (fail)
  obtain ⟨gA, gB, gS, gW⟩ := start2b w 24 (lim 0 a) (lim 1 a) (lim 2 a) (lim 3 a) (lim 0 b) (lim 1 b) (lim 2 b) (lim 3 b) _ rfl
  generalize (w.alloc (.cells #[.int .u64 (lim 0 a : Nat), .int .u64 (lim 1 a : Nat), .int .u64 (lim 2 a : Nat), .int .u64 (lim 3 a : Nat)] 24)).alloc (.cells #[.int .u64 (lim 0 b : Nat), .int .u64 (lim 1 b : Nat), .int .u64 (lim 2 b : Nat), .int .u64 (lim 3 b : Nat)] 24) = X at *
  clear gS
  obtain ⟨x0, x1, x2, x3⟩ := gA.cells4
  obtain ⟨y0, y1, y2, y3⟩ := gB.cells4
  have f3 := gA.frozen 3
  have g3 := gB.frozen 3
  have GW := Lib.hid gW
  clear gW gA gB
  go_wp2_with fail
  (with_reducible refine (K1.out _).mono ?_)
  rintro e w1 ⟨rfl, hb1⟩
  have kW : Below w.heap.size w w1 := by
    refine Below.trans (b := (X.setCell ⟨w.heap.size, 3, none⟩ (.int .u64 (xa : Int))).setCell ⟨w.heap.size + 1, 3, none⟩ (.int .u64 (xb : Int))) ?_ (hb1.mono (by have := GW.out.size; simpa using this))
    exact (GW.out.setCell (p := ⟨w.heap.size, 3, none⟩) (Nat.le_refl _) _).setCell (p := ⟨w.heap.size + 1, 3, none⟩) (by simp) _
  have KW := Lib.hid kW
  clear x0 x1 x2 x3 y0 y1 y2 y3 f3 g3 hb1 kW e1 e2
  go_wp2_with fail
  go_ret
  exact ⟨rfl, KW.out⟩
set_option maxRecDepth 100000 in
set_option maxHeartbeats 3200000 in
theorem bits1_c {a : Nat} (ha : Big a) (w : World) : Calls Try.prog 28 #[W a] w (RetV (.int .i64 (blen a : Nat)) w) := by
  have gA := Arr.new4 w 24 (lim 0 a) (lim 1 a) (lim 2 a) (lim 3 a)
  have gW := (Below.refl w.heap.size w).alloc (Nat.le_refl _) (.cells #[.int .u64 (lim 0 a : Nat), .int .u64 (lim 1 a : Nat), .int .u64 (lim 2 a : Nat), .int .u64 (lim 3 a : Nat)] 24)
  have kN : ∀ w, Calls Try.prog 103 #[.agg #[.int .u64 (lim 0 a : Nat), .int .u64 (lim 1 a : Nat), .int .u64 (lim 2 a : Nat), .int .u64 (lim 3 a : Nat)]] w (RetR (fun w' v => Num w' v a 8) w) := fun w => rN_c (isW_lim ha) w
  have KN := Lib.hid kN
  have HA := Lib.hid ha
  clear kN ha
  go_enter Try.func28, Try.ntmps28
  go_upto_region 1 with (fail)
  generalize w.alloc (.cells #[.int .u64 (lim 0 a : Nat), .int .u64 (lim 1 a : Nat), .int .u64 (lim 2 a : Nat), .int .u64 (lim 3 a : Nat)] 24) = X at *
  obtain ⟨x0, x1, x2, x3⟩ := gA.cells4
  go_wp2_with fail
  (with_reducible refine (KN.out _).mono ?_)
  rintro e w1 ⟨v1, rfl, h1, hb1⟩
  have gW := Lib.hid (gW.trans (hb1.mono gW.size))
  clear x0 x1 x2 x3 gA hb1
  have hl := Lib.hid (rlen_n w1 h1 (by omega))
  clear h1
  go_wp2_with fail
  (with_reducible refine hl.out.mono ?_)
  rintro e w2 ⟨rfl, hw2⟩
  rw [hw2]
  clear hw2 hl
  go_wp2_with fail
  go_ret
  exact ⟨rfl, gW.out⟩
theorem bitsW_c {a : Nat} (ha : Big a) (w : World) : Calls Try.prog 27 #[W a] w (RetV (.int .i64 (blen a : Nat)) w) :=
  (bits_c (isW_lim ha) w).mono fun e w' ⟨n, he, hb, h⟩ => ⟨by rw [he, bits_blen hb], h⟩
set_option maxRecDepth 100000 in
set_option maxHeartbeats 3200000 in
theorem short1_c {a : Nat} (ha : Big a) (w : World) : Calls Try.prog 26 #[W a] w (RetR (fun w' v => Byt w' v (shortv a)) w) := by
  have gA := Arr.new4 w 24 (lim 0 a) (lim 1 a) (lim 2 a) (lim 3 a)
  have gW := (Below.refl w.heap.size w).alloc (Nat.le_refl _) (.cells #[.int .u64 (lim 0 a : Nat), .int .u64 (lim 1 a : Nat), .int .u64 (lim 2 a : Nat), .int .u64 (lim 3 a : Nat)] 24)
  have kN : ∀ w, Calls Try.prog 103 #[.agg #[.int .u64 (lim 0 a : Nat), .int .u64 (lim 1 a : Nat), .int .u64 (lim 2 a : Nat), .int .u64 (lim 3 a : Nat)]] w (RetR (fun w' v => Num w' v a 8) w) := fun w => rN_c (isW_lim ha) w
  have KN := Lib.hid kN
  have HA := Lib.hid ha
  clear kN ha
  go_enter Try.func26, Try.ntmps26
  go_upto_region 1 with (fail)
  generalize w.alloc (.cells #[.int .u64 (lim 0 a : Nat), .int .u64 (lim 1 a : Nat), .int .u64 (lim 2 a : Nat), .int .u64 (lim 3 a : Nat)] 24) = X at *
  obtain ⟨x0, x1, x2, x3⟩ := gA.cells4
  go_wp2_with fail
  (with_reducible refine (KN.out _).mono ?_)
  rintro e w1 ⟨v1, rfl, h1, hb1⟩
  have gW := Lib.hid (gW.trans (hb1.mono gW.size))
  clear x0 x1 x2 x3 gA hb1
  have hl := Lib.hid (rbytes_n w1 h1 (by omega))
  clear h1
  go_wp2_with fail
  (with_reducible refine hl.out.mono ?_)
  rintro e w2 ⟨v2, rfl, ⟨bs, hby, hcan, _⟩, hb2⟩
  have he : bs = shortv a := by
    have h := hcan.inj (shortv_can HA.out) (by omega)
    rw [← List.reverse_reverse bs, h, List.reverse_reverse]
  subst he
  have HB := Lib.hid hby
  have gW := Lib.hid (gW.out.trans (hb2.mono gW.out.size))
  clear hby hcan hb2 hl
  go_wp2_with fail
  go_ret
  exact ⟨_, rfl, HB.out, gW.out⟩
end Go.Proofs.Ytihffojljbgpcaa
/- The contracts of quarrykeep's Twin and of From in package word and in the reference. -/
namespace Go.Proofs.Ytihffojljbgpcaa
open Go.RowKit

set_option maxRecDepth 100000 in
set_option maxHeartbeats 3200000 in
theorem twin_c {A : Option Addr} {c : Nat} {bs : List Nat} (w : World) (h : Rd .u8 w A c bs) (hb : Ds 256 bs) (n : Nat) (hn : n ≤ 65536) (hn0 : 0 < n) :
    Calls Try.prog 19 #[.slice A bs.length c, .int .i64 (n : Nat)] w (RetR (fun w' v => Byt w' v (bs.take n)) w) := by
  obtain ⟨i0, hi, hz0, hz1, hz2⟩ := info_parts info8
  have HR := Lib.hid h
  by_cases hlt : n < bs.length
  · obtain ⟨b0, o0, rfl, hbb, hcell⟩ := h.at_ (by omega)
    have hle := h.le
    have hx := h.take n (by omega)
    have hxl : (bs.take n).length = n := by rw [List.length_take]; omega
    obtain ⟨xs, hxs⟩ : ∃ xs, xs = bs.take n := ⟨_, rfl⟩
    have HD := Lib.hid (show Ds 256 xs by rw [hxs]; exact hb.take n)
    rw [← hxs] at hx hxl
    have HX := Lib.hid hx
    have hi1 : (n : Int) < (bs.length : Int) := by omega
    have hi2 : (n : Int) ≤ (c : Int) := by omega
    rw [← hxs]
    clear h hb hx hcell hbb hlt hxs HR
    subst hxl
    obtain ⟨L, hL⟩ : ∃ L, L = bs.length := ⟨_, rfl⟩
    rw [← hL] at hi1 hle ⊢
    clear hL
    have hacc : Acc (w.alloc (.cells #[] 5)) w.heap.size (.slice (some ⟨w.heap.size, 0, none⟩) 0 0) [] := Acc.of_row (Row.new (k := .u8) w 5 []) (Nat.le_refl _) (by simp)
    have hrd2 := HX.out.alloc (.cells #[] 5)
    have hbel : Below w.heap.size w (w.alloc (.cells #[] 5)) := (Below.refl _ _).alloc (Nat.le_refl _) _
    have HACC := Lib.hid hacc
    have HRD := Lib.hid hrd2
    have HB0 := Lib.hid hbel
    clear hacc hrd2 hbel
    go_enter Try.func19, Try.ntmps19
    go_wp2_with (at_builtin; refine wpList_append_own _ rfl (.tmp 12) (.tmp 13) 27 rfl w.heap.size 5 i0 (.int .u8 0) 1 1 Try.underlying27 hi hz0 hz1 hz2 rfl (by decide) _ _ _ rfl HACC.out _ _ _ (bv (xs)) rfl (by rw [bv_length, Nat.mul_one]) (Rd.news HRD.out) (bv_one _) (by unfold maxLen; simp; omega) (by simp; omega) (by simp) ?_)
    intro v' w2 hown hg _
    have hacc' : Acc w2 w.heap.size v' (xs) := by unfold Acc; have h := hown; first | exact h | (simp at h; exact h) | (trace_state; exact h)
    have hbel' : Below w.heap.size w w2 := HB0.out.grown hg (by simp) (fun k hk => Acc.own HACC.out k hk)
    have HA2 := Lib.hid (hacc'.byt HD.out)
    have HB2 := Lib.hid hbel'
    clear hown hg hacc' hbel'
    go_wp2_with fail
    go_ret
    exact ⟨_, rfl, HA2.out, HB2.out⟩
  · rw [List.take_of_length_le (by omega)]
    have HD := Lib.hid hb
    have hi1 : ¬ ((n : Int) < (bs.length : Int)) := by omega
    rcases A with _ | ad
    · have hc0 := h.cap rfl
      have hb0 : bs = [] := by
        rcases Nat.eq_zero_or_pos bs.length with h0 | h0
        · exact List.eq_nil_of_length_eq_zero h0
        · obtain ⟨_, _, e, _⟩ := h.at_ h0; cases e
      subst hb0 hc0
      have hacc : Acc (w.alloc (.cells #[] 5)) w.heap.size (.slice (some ⟨w.heap.size, 0, none⟩) 0 0) [] := Acc.of_row (Row.new (k := .u8) w 5 []) (Nat.le_refl _) (by simp)
      have hbel : Below w.heap.size w (w.alloc (.cells #[] 5)) := (Below.refl _ _).alloc (Nat.le_refl _) _
      have HACC := Lib.hid hacc
      have HB0 := Lib.hid hbel
      have hi1 : ¬ ((n : Int) < 0) := by omega
      clear hacc hbel h hb HR hlt
      go_enter Try.func19, Try.ntmps19
      go_wp2_with (at_builtin; refine wpList_append_own_none rfl (.tmp 12) (.tmp 13) 27 rfl w.heap.size 5 i0 1 Try.underlying27 hi _ _ _ rfl HACC.out rfl ?_)
      go_ret
      exact ⟨_, rfl, HACC.out.byt HD.out, HB0.out⟩
    · have HX := Lib.hid h
      have hlt' : bs.length ≤ 65536 := by omega
      clear h hb hlt HR
      have hacc : Acc (w.alloc (.cells #[] 5)) w.heap.size (.slice (some ⟨w.heap.size, 0, none⟩) 0 0) [] := Acc.of_row (Row.new (k := .u8) w 5 []) (Nat.le_refl _) (by simp)
      have hrd2 := HX.out.alloc (.cells #[] 5)
      have hbel : Below w.heap.size w (w.alloc (.cells #[] 5)) := (Below.refl _ _).alloc (Nat.le_refl _) _
      have HACC := Lib.hid hacc
      have HRD := Lib.hid hrd2
      have HB0 := Lib.hid hbel
      clear hacc hrd2 hbel
      go_enter Try.func19, Try.ntmps19
      go_wp2_with (at_builtin; refine wpList_append_own _ rfl (.tmp 12) (.tmp 13) 27 rfl w.heap.size 5 i0 (.int .u8 0) 1 1 Try.underlying27 hi hz0 hz1 hz2 rfl (by decide) _ _ _ rfl HACC.out _ _ _ (bv (bs)) rfl (by rw [bv_length, Nat.mul_one]) (Rd.news HRD.out) (bv_one _) (by unfold maxLen; simp; omega) (by simp; omega) (by simp) ?_)
      intro v' w2 hown hg _
      have hacc' : Acc w2 w.heap.size v' (bs) := by unfold Acc; have h := hown; first | exact h | (simp at h; exact h) | (trace_state; exact h)
      have hbel' : Below w.heap.size w w2 := HB0.out.grown hg (by simp) (fun k hk => Acc.own HACC.out k hk)
      have HA2 := Lib.hid (hacc'.byt HD.out)
      have HB2 := Lib.hid hbel'
      clear hown hg hacc' hbel'
      go_wp2_with fail
      go_ret
      exact ⟨_, rfl, HA2.out, HB2.out⟩
/-- What From tells. -/
def FV (bs : List Nat) : Value := if bs.length ≤ 32 then .tuple #[W (dv 256 bs.reverse), .bool true] else .tuple #[W4 0 0 0 0, .bool false]
set_option maxRecDepth 100000 in
set_option maxHeartbeats 3200000 in
theorem from_c {A : Option Addr} {c : Nat} {bs : List Nat} (w : World) (h : Rd .u8 w A c bs) (hb : Ds 256 bs) : Calls Try.prog 18 #[.slice A bs.length c] w (RetV (FV bs) w) := by
  unfold FV
  by_cases hl : bs.length ≤ 32
  · rw [if_pos hl]; exact from_t w h hb hl
  · rw [if_neg hl]
    have g1 := (Arr.new4z w 24).alloc (.cells #[.int .u64 0, .int .u64 0, .int .u64 0, .int .u64 0] 24)
    have g2 := Arr.new4z (w.alloc (.cells #[.int .u64 0, .int .u64 0, .int .u64 0, .int .u64 0] 24)) 24
    rw [show (w.alloc (.cells #[.int .u64 0, .int .u64 0, .int .u64 0, .int .u64 0] 24)).heap.size = w.heap.size + 1 by simp] at g2
    have gW := ((Below.refl w.heap.size w).alloc (Nat.le_refl _) (.cells #[.int .u64 0, .int .u64 0, .int .u64 0, .int .u64 0] 24)).alloc (by simp) (.cells #[.int .u64 0, .int .u64 0, .int .u64 0, .int .u64 0] 24)
    have hl0 : 32 < (bs.length : Int) := by omega
    obtain ⟨L, hL⟩ : ∃ L, L = bs.length := ⟨_, rfl⟩
    rw [← hL] at hl0 ⊢
    clear h hb hL hl
    go_enter Try.func18, Try.ntmps18
    go_upto_region 2 with (fail)
    generalize (w.alloc (.cells #[.int .u64 0, .int .u64 0, .int .u64 0, .int .u64 0] 24)).alloc (.cells #[.int .u64 0, .int .u64 0, .int .u64 0, .int .u64 0] 24) = X at *
    obtain ⟨x0, x1, x2, x3⟩ := g2.cells4
    obtain ⟨y0, y1, y2, y3⟩ := g1.cells4
    obtain ⟨f0, f1, f2, f3⟩ := g1.free4
    clear g1 g2
    go_wp2_with fail
    refine bodyPost_ret (v := .tuple #[W4 0 0 0 0, .bool false]) (by simp [results, Try.results18, go_sem, y0, y1, y2, y3]) rfl ⟨rfl, ?_⟩
    repeat (first | exact gW | refine Below.setCell ?_ (by simp; try omega) _)
set_option maxRecDepth 100000 in
set_option maxHeartbeats 3200000 in
theorem from1_c {A : Option Addr} {c : Nat} {bs : List Nat} (w : World) (h : Rd .u8 w A c bs) (hb : Ds 256 bs) : Calls Try.prog 20 #[.slice A bs.length c] w (RetV (FV bs) w) := by
  unfold FV
  have g1 := Arr.new4z w 24
  have gW := (Below.refl w.heap.size w).alloc (Nat.le_refl _) (.cells #[.int .u64 0, .int .u64 0, .int .u64 0, .int .u64 0] 24)
  by_cases hl : bs.length ≤ 32
  · rw [if_pos hl]
    have hd : dv 256 bs.reverse % 115792089237316195423570985008687907853269984665640564039457584007913129639936 = dv 256 bs.reverse := Nat.mod_eq_of_lt (by
      have h1 := dv_lt (B := 256) bs.reverse hb.reverse
      rw [List.length_reverse] at h1
      exact Nat.lt_of_lt_of_le h1 (by rw [show 115792089237316195423570985008687907853269984665640564039457584007913129639936 = 256 ^ 32 by decide]; exact Nat.pow_le_pow_right (by omega) hl))
    have hF := rfrom_c (w.alloc (.cells #[.int .u64 0, .int .u64 0, .int .u64 0, .int .u64 0] 24)) (h.alloc (.cells #[.int .u64 0, .int .u64 0, .int .u64 0, .int .u64 0] 24)) hb (by omega)
    have hl0 : ¬ (32 < (bs.length : Int)) := by omega
    obtain ⟨n, hn⟩ : ∃ n, n = dv 256 bs.reverse := ⟨_, rfl⟩
    rw [← hn] at hd hF ⊢
    obtain ⟨L, hL⟩ : ∃ L, L = bs.length := ⟨_, rfl⟩
    rw [← hL] at hl0 hF hl ⊢
    have HF := Lib.hid hF
    have HD := Lib.hid hd
    clear h hb hL hn hF hd
    go_enter Try.func20, Try.ntmps20
    go_upto_region 1 with (fail)
    generalize w.alloc (.cells #[.int .u64 0, .int .u64 0, .int .u64 0, .int .u64 0] 24) = X at *
    go_wp2_with fail
    (with_reducible refine HF.out.mono ?_)
    rintro e w1 ⟨v1, rfl, h1, hb1⟩
    have g1 := g1.below hb1 g1.lt
    have gW := gW.trans (hb1.mono gW.size)
    clear hb1 HF
    go_wp2_with fail
    (with_reducible refine (rW_n _ h1 (by omega)).mono ?_)
    rintro e w2 hw
    rw [HD.out] at hw
    obtain ⟨rfl, hb1⟩ := hw.val
    have g1 := g1.below hb1 g1.lt
    have gW := gW.trans (hb1.mono gW.size)
    clear hb1 hw h1 HD
    obtain ⟨y0, y1, y2, y3⟩ := g1.cells4
    obtain ⟨f0, f1, f2, f3⟩ := g1.free4
    clear g1
    go_wp2_with fail
    refine bodyPost_ret (v := .tuple #[W n, .bool true]) (by simp [results, Try.results20, go_sem, y0, y1, y2, y3]) rfl ⟨rfl, ?_⟩
    repeat (first | exact gW | refine Below.setCell ?_ (by simp; try omega) _)
  · rw [if_neg hl]
    have hl0 : 32 < (bs.length : Int) := by omega
    obtain ⟨L, hL⟩ : ∃ L, L = bs.length := ⟨_, rfl⟩
    rw [← hL] at hl0 ⊢
    clear h hb hL hl
    go_enter Try.func20, Try.ntmps20
    go_upto_region 1 with (fail)
    generalize w.alloc (.cells #[.int .u64 0, .int .u64 0, .int .u64 0, .int .u64 0] 24) = X at *
    obtain ⟨y0, y1, y2, y3⟩ := g1.cells4
    obtain ⟨f0, f1, f2, f3⟩ := g1.free4
    clear g1
    go_wp2_with fail
    refine bodyPost_ret (v := .tuple #[W4 0 0 0 0, .bool false]) (by simp [results, Try.results20, go_sem, y0, y1, y2, y3]) rfl ⟨rfl, ?_⟩
    repeat (first | exact gW | refine Below.setCell ?_ (by simp; try omega) _)
end Go.Proofs.Ytihffojljbgpcaa
