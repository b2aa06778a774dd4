/- Package gas: few, wordsOf, paid, isZero, held: its small functions. (Written by wip/gengcleaf.py.) -/
import Derived.Test.YtiflfcdegpmhnaaGsGrow
import Derived.Test.YtiflfcdegpmhnaaSmall
import Derived.Test.YtiflfcdegpmhnaaShort
namespace Go.Proofs.Ytiflfcdegpmhnaa
open Go.RowKit

theorem gcBits_c {a : Nat} (ha : Big a) (w : World) : Calls Try.prog 43 #[W a] w (RetV (.int .i64 (blen a : Nat)) w) :=
  (bits_c (isW_lim ha) w).mono fun e w' ⟨n, he, hb, h⟩ => ⟨by rw [he, bits_blen hb], h⟩
/-- A number of bytes, if there are not too many of them. -/
def fewV (a : Nat) : Value := if a ≤ 2199023255552 then .tuple #[.int .u64 (a : Nat), .bool true] else .tuple #[.int .u64 0, .bool false]
/-- A cost, if it is ever paid. -/
def paidV (a : Nat) : Value := if a ≤ 9223372036854775807 then .tuple #[.int .u64 (a : Nat), .bool true] else .tuple #[.int .u64 0, .bool false]

set_option maxRecDepth 100000 in
set_option maxHeartbeats 3200000 in
theorem few_c {a : Nat} (ha : Big a) (w : World) : Calls Try.prog 33 #[W a] w (RetV (fewV a) w) := by
  have gA := Arr.new4 w 24 (lim 0 a) (lim 1 a) (lim 2 a) (lim 3 a)
  have GW := Lib.hid ((Below.refl w.heap.size w).alloc (Nat.le_refl _) (.cells #[.int .u64 (lim 0 a : Nat), .int .u64 (lim 1 a : Nat), .int .u64 (lim 2 a : Nat), .int .u64 (lim 3 a : Nat)] 24))
  have kS : ∀ w, Calls Try.prog 52 #[.agg #[.int .u64 (lim 0 a : Nat), .int .u64 (lim 1 a : Nat), .int .u64 (lim 2 a : Nat), .int .u64 (lim 3 a : Nat)]] w (RetV (sml a) w) := fun w => small_c ha w
  obtain ⟨V, hV⟩ : ∃ V, V = fewV a := ⟨_, rfl⟩
  rw [← hV]
  unfold fewV at hV
  by_cases c : a < 18446744073709551616
  · simp only [sml, if_pos c] at kS
    by_cases d : a ≤ 2199023255552
    · rw [if_pos d] at hV
      have q : ((a : Int) > 2199023255552) = False := by simp; omega
      have HV := Lib.hid hV
      have KS := Lib.hid kS
      clear hV kS c d ha
      go_enter Try.func33, Try.ntmps33
      go_upto_region 1 with (fail)
      generalize w.alloc (.cells #[.int .u64 (lim 0 a : Nat), .int .u64 (lim 1 a : Nat), .int .u64 (lim 2 a : Nat), .int .u64 (lim 3 a : Nat)] 24) = X at *
      obtain ⟨x0, x1, x2, x3⟩ := gA.cells4
      clear gA
      go_wp2_with fail
      (with_reducible refine (KS.out _).mono ?_)
      rintro e1 w1 ⟨rfl, hb1⟩
      have HB := Lib.hid (GW.out.trans (hb1.mono GW.out.size))
      clear KS hb1 GW
      go_wp2_with fail
      exact bodyPost_ret (v := .tuple #[.int .u64 (a : Nat), .bool true]) (by simp [results, Try.results33, go_sem]) rfl ⟨by rw [HV.out], HB.out⟩
    · rw [if_neg d] at hV
      have q : ((a : Int) > 2199023255552) = True := by simp; omega
      have HV := Lib.hid hV
      have KS := Lib.hid kS
      clear hV kS c d ha
      go_enter Try.func33, Try.ntmps33
      go_upto_region 1 with (fail)
      generalize w.alloc (.cells #[.int .u64 (lim 0 a : Nat), .int .u64 (lim 1 a : Nat), .int .u64 (lim 2 a : Nat), .int .u64 (lim 3 a : Nat)] 24) = X at *
      obtain ⟨x0, x1, x2, x3⟩ := gA.cells4
      clear gA
      go_wp2_with fail
      (with_reducible refine (KS.out _).mono ?_)
      rintro e1 w1 ⟨rfl, hb1⟩
      have HB := Lib.hid (GW.out.trans (hb1.mono GW.out.size))
      clear KS hb1 GW
      go_wp2_with fail
      exact bodyPost_ret (v := .tuple #[.int .u64 0, .bool false]) (by simp [results, Try.results33, go_sem]) rfl ⟨by rw [HV.out], HB.out⟩
  · simp only [sml, if_neg c] at kS
    rw [if_neg (by omega)] at hV
    have HV := Lib.hid hV
    have KS := Lib.hid kS
    clear hV kS c ha
    go_enter Try.func33, Try.ntmps33
    go_upto_region 1 with (fail)
    generalize w.alloc (.cells #[.int .u64 (lim 0 a : Nat), .int .u64 (lim 1 a : Nat), .int .u64 (lim 2 a : Nat), .int .u64 (lim 3 a : Nat)] 24) = X at *
    obtain ⟨x0, x1, x2, x3⟩ := gA.cells4
    clear gA
    go_wp2_with fail
    (with_reducible refine (KS.out _).mono ?_)
    rintro e1 w1 ⟨rfl, hb1⟩
    have HB := Lib.hid (GW.out.trans (hb1.mono GW.out.size))
    clear KS hb1 GW
    go_wp2_with fail
    exact bodyPost_ret (v := .tuple #[.int .u64 0, .bool false]) (by simp [results, Try.results33, go_sem]) rfl ⟨by rw [HV.out], HB.out⟩

set_option maxRecDepth 100000 in
set_option maxHeartbeats 3200000 in
theorem paid_c {a : Nat} (ha : Big a) (w : World) : Calls Try.prog 62 #[W a] w (RetV (paidV a) w) := by
  have gA := Arr.new4 w 24 (lim 0 a) (lim 1 a) (lim 2 a) (lim 3 a)
  have GW := Lib.hid ((Below.refl w.heap.size w).alloc (Nat.le_refl _) (.cells #[.int .u64 (lim 0 a : Nat), .int .u64 (lim 1 a : Nat), .int .u64 (lim 2 a : Nat), .int .u64 (lim 3 a : Nat)] 24))
  have kS : ∀ w, Calls Try.prog 52 #[.agg #[.int .u64 (lim 0 a : Nat), .int .u64 (lim 1 a : Nat), .int .u64 (lim 2 a : Nat), .int .u64 (lim 3 a : Nat)]] w (RetV (sml a) w) := fun w => small_c ha w
  obtain ⟨V, hV⟩ : ∃ V, V = paidV a := ⟨_, rfl⟩
  rw [← hV]
  unfold paidV at hV
  by_cases c : a < 18446744073709551616
  · simp only [sml, if_pos c] at kS
    by_cases d : a ≤ 9223372036854775807
    · rw [if_pos d] at hV
      have q : ((a : Int) > 9223372036854775807) = False := by simp; omega
      have HV := Lib.hid hV
      have KS := Lib.hid kS
      clear hV kS c d ha
      go_enter Try.func62, Try.ntmps62
      go_upto_region 1 with (fail)
      generalize w.alloc (.cells #[.int .u64 (lim 0 a : Nat), .int .u64 (lim 1 a : Nat), .int .u64 (lim 2 a : Nat), .int .u64 (lim 3 a : Nat)] 24) = X at *
      obtain ⟨x0, x1, x2, x3⟩ := gA.cells4
      clear gA
      go_wp2_with fail
      (with_reducible refine (KS.out _).mono ?_)
      rintro e1 w1 ⟨rfl, hb1⟩
      have HB := Lib.hid (GW.out.trans (hb1.mono GW.out.size))
      clear KS hb1 GW
      go_wp2_with fail
      exact bodyPost_ret (v := .tuple #[.int .u64 (a : Nat), .bool true]) (by simp [results, Try.results62, go_sem]) rfl ⟨by rw [HV.out], HB.out⟩
    · rw [if_neg d] at hV
      have q : ((a : Int) > 9223372036854775807) = True := by simp; omega
      have HV := Lib.hid hV
      have KS := Lib.hid kS
      clear hV kS c d ha
      go_enter Try.func62, Try.ntmps62
      go_upto_region 1 with (fail)
      generalize w.alloc (.cells #[.int .u64 (lim 0 a : Nat), .int .u64 (lim 1 a : Nat), .int .u64 (lim 2 a : Nat), .int .u64 (lim 3 a : Nat)] 24) = X at *
      obtain ⟨x0, x1, x2, x3⟩ := gA.cells4
      clear gA
      go_wp2_with fail
      (with_reducible refine (KS.out _).mono ?_)
      rintro e1 w1 ⟨rfl, hb1⟩
      have HB := Lib.hid (GW.out.trans (hb1.mono GW.out.size))
      clear KS hb1 GW
      go_wp2_with fail
      exact bodyPost_ret (v := .tuple #[.int .u64 0, .bool false]) (by simp [results, Try.results62, go_sem]) rfl ⟨by rw [HV.out], HB.out⟩
  · simp only [sml, if_neg c] at kS
    rw [if_neg (by omega)] at hV
    have HV := Lib.hid hV
    have KS := Lib.hid kS
    clear hV kS c ha
    go_enter Try.func62, Try.ntmps62
    go_upto_region 1 with (fail)
    generalize w.alloc (.cells #[.int .u64 (lim 0 a : Nat), .int .u64 (lim 1 a : Nat), .int .u64 (lim 2 a : Nat), .int .u64 (lim 3 a : Nat)] 24) = X at *
    obtain ⟨x0, x1, x2, x3⟩ := gA.cells4
    clear gA
    go_wp2_with fail
    (with_reducible refine (KS.out _).mono ?_)
    rintro e1 w1 ⟨rfl, hb1⟩
    have HB := Lib.hid (GW.out.trans (hb1.mono GW.out.size))
    clear KS hb1 GW
    go_wp2_with fail
    exact bodyPost_ret (v := .tuple #[.int .u64 0, .bool false]) (by simp [results, Try.results62, go_sem]) rfl ⟨by rw [HV.out], HB.out⟩

set_option maxRecDepth 100000 in
set_option maxHeartbeats 3200000 in
theorem wordsOf_c {a : Nat} (ha : a ≤ 9223372036854775808) (w : World) : Calls Try.prog 35 #[.int .u64 (a : Nat)] w fun e w' => e = .returned (.int .u64 (((a + 31) / 32 : Nat) : Int)) ∧ w' = w := by
  have e1 : IntKind.u64.wrap ((a : Int) + 32) = ((a + 32 : Nat) : Int) := by rw [IntKind.wrap_u64]; omega
  have e2 : IntKind.u64.wrap (((a + 32 : Nat) : Int) - 1) = ((a + 31 : Nat) : Int) := by rw [IntKind.wrap_u64]; omega
  have e3 : ((a + 31 : Nat) : Int) / 32 = (((a + 31) / 32 : Nat) : Int) := by omega
  have e4 : ((a + 31 : Nat) : Int).tdiv 32 = (((a + 31) / 32 : Nat) : Int) := by rw [Int.tdiv_eq_ediv_of_nonneg (by omega)]; omega
  have e5 : IntKind.u64.wrap (((a + 31) / 32 : Nat) : Int) = (((a + 31) / 32 : Nat) : Int) := by rw [IntKind.wrap_u64]; omega
  obtain ⟨r, hr⟩ : ∃ r, r = (a + 31) / 32 := ⟨_, rfl⟩
  obtain ⟨s, hs⟩ : ∃ s, s = a + 31 := ⟨_, rfl⟩
  obtain ⟨u, hu⟩ : ∃ u, u = a + 32 := ⟨_, rfl⟩
  rw [← hr] at e3 e4 e5 ⊢
  rw [← hs] at e2 e3 e4
  rw [← hu] at e1 e2
  clear hr hs hu ha
  go_enter Try.func35, Try.ntmps35
  go_wp2_with fail
  go_ret
  exact ⟨rfl, rfl⟩

set_option maxRecDepth 100000 in
set_option maxHeartbeats 3200000 in
theorem isZero_c {a : Nat} (ha : Big a) (w : World) : Calls Try.prog 72 #[W a] w (RetV (.bool (decide (a = 0))) w) := by
  have gA := Arr.new4 w 24 (lim 0 a) (lim 1 a) (lim 2 a) (lim 3 a)
  have GW := Lib.hid ((Below.refl w.heap.size w).alloc (Nat.le_refl _) (.cells #[.int .u64 (lim 0 a : Nat), .int .u64 (lim 1 a : Nat), .int .u64 (lim 2 a : Nat), .int .u64 (lim 3 a : Nat)] 24))
  obtain ⟨z, hz⟩ : ∃ z, z = decide (a = 0) := ⟨_, rfl⟩
  have qz : ∀ W : World, (Op.equalIn 10000 24 (.agg #[.int .u64 (lim 0 a : Nat), .int .u64 (lim 1 a : Nat), .int .u64 (lim 2 a : Nat), .int .u64 (lim 3 a : Nat)]) (.agg #[.int .u64 0, .int .u64 0, .int .u64 0, .int .u64 0])).run Try.prog W = .ok z W := fun W => by rw [hz]; exact eqW_zero ha W
  rw [← hz]
  clear hz ha
  go_enter Try.func72, Try.ntmps72
  go_upto_region 1 with (fail)
  generalize w.alloc (.cells #[.int .u64 (lim 0 a : Nat), .int .u64 (lim 1 a : Nat), .int .u64 (lim 2 a : Nat), .int .u64 (lim 3 a : Nat)] 24) = X at *
  obtain ⟨x0, x1, x2, x3⟩ := gA.cells4
  clear gA
  go_wp2_with fail
  go_ret
  exact ⟨rfl, GW.out⟩

/-- A square that is wider than 64 bits, by 512. -/
theorem sq512 {n h l : Nat} (hn : n ≤ 34359738368) (hl : l < 18446744073709551616) (e : h * 18446744073709551616 + l = n * n) : h ≤ 64 ∧ n * n / 512 = h * 36028797018963968 + l / 512 := by
  have h1 : n * n ≤ 34359738368 * 34359738368 := Nat.mul_le_mul hn hn
  constructor <;> omega
set_option maxRecDepth 100000 in
set_option maxHeartbeats 6400000 in
theorem held_c {n : Nat} (hn : n ≤ 34359738368) (w : World) : Calls Try.prog 45 #[.int .u64 (n : Nat)] w fun e w' => e = .returned (.int .u64 (cZ n : Nat)) ∧ w' = w := by
  have K := Lib.hid (mul64_c n n (show Lim n by unfold Lim; omega) (show Lim n by unfold Lim; omega))
  have hcz := cZ_small hn
  obtain ⟨z, hz⟩ : ∃ z, z = cZ n := ⟨_, rfl⟩
  rw [← hz] at hcz ⊢
  unfold cZ at hz
  have e1 : IntKind.u64.wrap (3 * (n : Int)) = ((3 * n : Nat) : Int) := by rw [IntKind.wrap_u64]; omega
  have HN := Lib.hid hn
  have HZ := Lib.hid hz
  have HC := Lib.hid hcz
  obtain ⟨t, ht⟩ : ∃ t, t = 3 * n := ⟨_, rfl⟩
  have HT := Lib.hid ht
  rw [← ht] at e1
  clear hn hz hcz ht
  go_enter Try.func45, Try.ntmps45
  go_wp2_with fail
  (with_reducible refine (K.out _).mono ?_)
  rintro e w1 ⟨h, l, rfl, hp, hw1⟩
  rw [← hw1]
  clear hw1 w1 K
  obtain ⟨hp1, hp2, _⟩ := hp
  obtain ⟨q1, q2⟩ := sq512 (h := h) (l := l) HN.out hp2 (by omega)
  obtain ⟨p, hp⟩ : ∃ p, p = h * 36028797018963968 := ⟨_, rfl⟩
  obtain ⟨r, hr⟩ : ∃ r, r = l / 512 := ⟨_, rfl⟩
  have f1 : IntKind.u64.wrap ((h : Int) * 36028797018963968) = (p : Int) := by rw [IntKind.wrap_u64]; omega
  have f2 : (l : Int) / 512 = (r : Int) := by omega
  have f3 : bits .or .u64 (p : Int) (r : Int) = ((p + r : Nat) : Int) := by
    rw [bits_or_u64_nat _ _ (by omega) (by omega)]
    have h1 := Nat.shiftLeft_add_eq_or_of_lt (b := r) (i := 55) (by omega) h
    rw [Nat.shiftLeft_eq, show (2 : Nat) ^ 55 = 36028797018963968 from rfl, ← hp] at h1
    rw [h1]
  have f4 : IntKind.u64.wrap ((t : Int) + ((p + r : Nat) : Int)) = (z : Int) := by
    have h1 := HZ.out
    have h2 := HT.out
    have h3 := HC.out
    rw [q2, ← hp, ← hr] at h1
    rw [IntKind.wrap_u64]
    omega
  obtain ⟨s, hs⟩ : ∃ s, s = p + r := ⟨_, rfl⟩
  rw [← hs] at f3 f4
  clear hp1 hp2 q1 q2 hp hr hs
  go_wp2_with fail
  go_ret
  exact ⟨rfl, rfl⟩

end Go.Proofs.Ytiflfcdegpmhnaa
