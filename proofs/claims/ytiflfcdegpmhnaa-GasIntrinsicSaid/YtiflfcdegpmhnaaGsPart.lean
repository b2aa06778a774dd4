/- Package quarryref17: Part and Back. -/
import Derived.Test.YtiflfcdegpmhnaaGsGrow
import Derived.Test.YtiflfcdegpmhnaaSmall
namespace Go.Proofs.Ytiflfcdegpmhnaa
open Go.RowKit

/-- What a call is given. -/
def partV (f : Int) (left a : Nat) : Value :=
  if f < 2 then (if left < a then .tuple #[.int .u64 0, .bool false] else .tuple #[.int .u64 (a : Nat), .bool true]) else
  .tuple #[.int .u64 ((if left - left / 64 < a then left - left / 64 else a : Nat) : Int), .bool true]
/-- What is given back. -/
def backN (used refund d : Nat) : Nat := if refund < used / d then refund else used / d
theorem start_rw (w : World) (f : Int) (k : Nat → Int) (a : Nat) (X : World) (hX : X = (w.alloc (.cells (RulesK f k) 26)).alloc (.cells #[.int .u64 (lim 0 a : Nat), .int .u64 (lim 1 a : Nat), .int .u64 (lim 2 a : Nat), .int .u64 (lim 3 a : Nat)] 24)) :
    RulesAt X w.heap.size f k ∧ Arr X (w.heap.size + 1) 24 [lim 0 a, lim 1 a, lim 2 a, lim 3 a] ∧ Below w.heap.size w X ∧ w.heap.size < X.heap.size ∧ w.heap.size + 1 < X.heap.size := by
  refine ⟨?_, ?_, ?_, ?_, ?_⟩
  · rw [hX]; exact (RulesAt.new w f k).alloc _
  · rw [hX]; have h := Arr.new4 (w.alloc (.cells (RulesK f k) 26)) 24 (lim 0 a) (lim 1 a) (lim 2 a) (lim 3 a); rw [show (w.alloc (.cells (RulesK f k) 26)).heap.size = w.heap.size + 1 by simp] at h; exact h
  · rw [hX]; exact ((Below.refl _ _).alloc (Nat.le_refl _) _).alloc (by simp) _
  · rw [hX]; simp; omega
  · rw [hX]; simp

set_option maxRecDepth 100000 in
set_option maxHeartbeats 6400000 in
theorem rpart_c (f : Int) (k : Nat → Int) {left a : Nat} (hl : left < 18446744073709551616) (ha : Big a) (w : World) : Calls Try.prog 26 #[.agg (RulesK f k), .int .u64 (left : Nat), W a] w (RetV (partV f left a) w) := by
  obtain ⟨V, hV⟩ : ∃ V, V = partV f left a := ⟨_, rfl⟩
  rw [← hV]
  unfold partV at hV
  obtain ⟨X, hX⟩ : ∃ X, X = (w.alloc (.cells (RulesK f k) 26)).alloc (.cells #[.int .u64 (lim 0 a : Nat), .int .u64 (lim 1 a : Nat), .int .u64 (lim 2 a : Nat), .int .u64 (lim 3 a : Nat)] 24) := ⟨_, rfl⟩
  obtain ⟨hR, hA, hB, hL1, hL2⟩ := start_rw w f k a X hX
  have HR := Lib.hid hR
  have HA := Lib.hid hA
  have HB := Lib.hid hB
  have HL := Lib.hid hL1
  have HX := Lib.hid hX
  have hs := small1_c ha X
  clear hR hA hB hL1 hL2 hX
  obtain ⟨m, hm⟩ : ∃ m, m = left - left / 64 := ⟨_, rfl⟩
  have d1 : (left : Int).tdiv 64 = ((left / 64 : Nat) : Int) := by rw [Int.tdiv_eq_ediv_of_nonneg (by omega)]; omega
  have d2 : (left : Int) / 64 = ((left / 64 : Nat) : Int) := by omega
  have d3 : IntKind.u64.wrap ((left / 64 : Nat) : Int) = ((left / 64 : Nat) : Int) := by rw [IntKind.wrap_u64]; omega
  have d4 : IntKind.u64.wrap ((left : Int) - ((left / 64 : Nat) : Int)) = (m : Int) := by rw [IntKind.wrap_u64]; omega
  have hml : m ≤ left := by omega
  rw [← hm] at hV
  obtain ⟨q, hq⟩ : ∃ q, q = left / 64 := ⟨_, rfl⟩
  rw [← hq] at d1 d2 d3 d4
  clear hq hm
  unfold sml at hs
  by_cases hc : a < 18446744073709551616
  · rw [if_pos hc] at hs
    have HS := Lib.hid hs
    clear hs
    by_cases c1 : (a : Int) ≤ (left : Int)
    all_goals by_cases c2 : (a : Int) ≤ (m : Int)
    all_goals by_cases c3 : f < 2
    all_goals
      have HV : Hid (V = if f < 2 then (if left < a then .tuple #[.int .u64 0, .bool false] else .tuple #[.int .u64 (a : Nat), .bool true]) else .tuple #[.int .u64 ((if m < a then m else a : Nat) : Int), .bool true]) := hV
      have HC : Hid (a < 18446744073709551616 ∧ m ≤ left) := ⟨hc, hml⟩
      clear hV hc hml hl ha
      go_enter Try.func26, Try.ntmps26
      go_upto_region 1 with (fail)
      rw [show (w.alloc (.cells (RulesK f k) 26)).alloc (.cells #[.int .u64 (lim 0 a : Nat), .int .u64 (lim 1 a : Nat), .int .u64 (lim 2 a : Nat), .int .u64 (lim 3 a : Nat)] 24) = X from HX.out.symm]
      obtain ⟨x0, x1, x2, x3⟩ := HA.out.cells4
      go_wp2_with fail
      (with_reducible refine HS.out.mono ?_)
      rintro e1 w1 ⟨rfl, hb1⟩
      have r0 := (HR.out.below hb1 HL.out).fork
      have HB1 := Lib.hid (HB.out.trans (hb1.mono HB.out.size))
      clear x0 x1 x2 x3 HX HR HA HB HL HS hb1
      go_wp2_with fail
      have hV := HV.out
    · rw [if_pos c3, if_neg (by omega)] at hV
      exact bodyPost_ret (v := .tuple #[.int .u64 (a : Nat), .bool true]) (by simp [results, Try.results26, go_sem]) rfl ⟨by rw [hV], HB1.out⟩
    · rw [if_neg (by omega), if_neg (by omega)] at hV
      exact bodyPost_ret (v := .tuple #[.int .u64 (a : Nat), .bool true]) (by simp [results, Try.results26, go_sem]) rfl ⟨by rw [hV], HB1.out⟩
    · rw [if_pos c3, if_neg (by omega)] at hV
      exact bodyPost_ret (v := .tuple #[.int .u64 (a : Nat), .bool true]) (by simp [results, Try.results26, go_sem]) rfl ⟨by rw [hV], HB1.out⟩
    · rw [if_neg (by omega), if_pos (by omega)] at hV
      exact bodyPost_ret (v := .tuple #[.int .u64 (m : Nat), .bool true]) (by simp [results, Try.results26, go_sem]) rfl ⟨by rw [hV], HB1.out⟩
    · exact absurd HC.out.2 (by omega)
    · exact absurd HC.out.2 (by omega)
    · rw [if_pos c3, if_pos (by omega)] at hV
      exact bodyPost_ret (v := .tuple #[.int .u64 0, .bool false]) (by simp [results, Try.results26, go_sem]) rfl ⟨by rw [hV], HB1.out⟩
    · rw [if_neg (by omega), if_pos (by omega)] at hV
      exact bodyPost_ret (v := .tuple #[.int .u64 (m : Nat), .bool true]) (by simp [results, Try.results26, go_sem]) rfl ⟨by rw [hV], HB1.out⟩
  · rw [if_neg hc] at hs
    have HS := Lib.hid hs
    rw [if_pos (show left < a by omega), if_pos (show m < a by omega)] at hV
    clear hs
    by_cases c3 : f < 2
    all_goals
      have HV : Hid (V = if f < 2 then .tuple #[.int .u64 0, .bool false] else .tuple #[.int .u64 (m : Nat), .bool true]) := hV
      clear hV hc hml hl ha
      go_enter Try.func26, Try.ntmps26
      go_upto_region 1 with (fail)
      rw [show (w.alloc (.cells (RulesK f k) 26)).alloc (.cells #[.int .u64 (lim 0 a : Nat), .int .u64 (lim 1 a : Nat), .int .u64 (lim 2 a : Nat), .int .u64 (lim 3 a : Nat)] 24) = X from HX.out.symm]
      obtain ⟨x0, x1, x2, x3⟩ := HA.out.cells4
      go_wp2_with fail
      (with_reducible refine HS.out.mono ?_)
      rintro e1 w1 ⟨rfl, hb1⟩
      have r0 := (HR.out.below hb1 HL.out).fork
      have HB1 := Lib.hid (HB.out.trans (hb1.mono HB.out.size))
      clear x0 x1 x2 x3 HX HR HA HB HL HS hb1
      go_wp2_with fail
      have hV := HV.out
    · rw [if_pos c3] at hV
      exact bodyPost_ret (v := .tuple #[.int .u64 0, .bool false]) (by simp [results, Try.results26, go_sem]) rfl ⟨by rw [hV], HB1.out⟩
    · rw [if_neg (by omega)] at hV
      exact bodyPost_ret (v := .tuple #[.int .u64 (m : Nat), .bool true]) (by simp [results, Try.results26, go_sem]) rfl ⟨by rw [hV], HB1.out⟩

set_option maxRecDepth 100000 in
set_option maxHeartbeats 3200000 in
theorem rback_c (f : Int) (k : Nat → Int) {used refund d : Nat} (hk : k 23 = (d : Nat)) (hd : 0 < d) (hu : used < 18446744073709551616) (w : World) : Calls Try.prog 28 #[.agg (RulesK f k), .int .u64 (used : Nat), .int .u64 (refund : Nat)] w (RetV (.int .u64 (backN used refund d : Nat)) w) := by
  obtain ⟨X, hX⟩ : ∃ X, X = w.alloc (.cells (RulesK f k) 26) := ⟨_, rfl⟩
  have hR : RulesAt X w.heap.size f k := by rw [hX]; exact RulesAt.new w f k
  have HB : Hid (Below w.heap.size w X) := by rw [hX]; exact (Below.refl _ _).alloc (Nat.le_refl _) _
  have c23 := hR.c23
  rw [hk] at c23
  have HX := Lib.hid hX
  clear hX hR hk
  have d1 : (used : Int).tdiv (d : Int) = ((used / d : Nat) : Int) := by rw [Int.tdiv_eq_ediv_of_nonneg (by omega)]; exact (Int.natCast_ediv used d).symm
  have d2 : (used : Int) / (d : Int) = ((used / d : Nat) : Int) := (Int.natCast_ediv used d).symm
  have d3 : used / d ≤ used := Nat.div_le_self _ _
  have d4 : IntKind.u64.wrap ((used / d : Nat) : Int) = ((used / d : Nat) : Int) := by
    generalize used / d = y at d3
    rw [IntKind.wrap_u64]; omega
  have d5 : ¬ ((d : Nat) : Int) = 0 := by omega
  obtain ⟨z, hz⟩ : ∃ z, z = backN used refund d := ⟨_, rfl⟩
  rw [← hz]
  unfold backN at hz
  obtain ⟨q, hq⟩ : ∃ q, q = used / d := ⟨_, rfl⟩
  rw [← hq] at d1 d2 d4 hz
  clear hq d3 hu hd
  by_cases c : (refund : Int) < (q : Int)
  all_goals
    have HZ : Hid (z = if refund < q then refund else q) := hz
    clear hz
    go_enter Try.func28, Try.ntmps28
    go_upto_region 1 with (fail)
    rw [show w.alloc (.cells (RulesK f k) 26) = X from HX.out.symm]
    go_wp2_with fail
    go_ret
  · exact ⟨by rw [HZ.out, if_pos (by omega)]; rfl, HB.out⟩
  · exact ⟨by rw [HZ.out, if_neg (by omega)]; rfl, HB.out⟩
end Go.Proofs.Ytiflfcdegpmhnaa
