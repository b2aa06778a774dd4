/- Package gas: Part, Back. (Written by wip/gengcpart.py.) -/
import Derived.Test.YtiflfcdegpmhnaaGcLeaf
import Derived.Test.YtiflfcdegpmhnaaGsPart
namespace Go.Proofs.Ytiflfcdegpmhnaa
open Go.RowKit

set_option maxRecDepth 100000 in
set_option maxHeartbeats 12800000 in
theorem pgrow_c {s a n : Nat} (hs : s ≤ 1099511627776) (ha : Big a) (hn : Big n) (w : World) : Calls Try.prog 20 #[.int .u64 (s : Nat), W a, W n] w (RetV (growV s a n) w) := by
  obtain ⟨V, hV⟩ : ∃ V, V = growV s a n := ⟨_, rfl⟩
  rw [← hV]
  obtain ⟨X, hX⟩ : ∃ X, X = ((w.alloc (.cells #[.int .u64 (lim 0 a : Nat), .int .u64 (lim 1 a : Nat), .int .u64 (lim 2 a : Nat), .int .u64 (lim 3 a : Nat)] 24)).alloc (.cells #[.int .u64 (lim 0 n : Nat), .int .u64 (lim 1 n : Nat), .int .u64 (lim 2 n : Nat), .int .u64 (lim 3 n : Nat)] 24)) := ⟨_, rfl⟩
  have HA : Hid (Arr X w.heap.size 24 [lim 0 a, lim 1 a, lim 2 a, lim 3 a]) := by rw [hX]; exact (Arr.new4 w _ _ _ _ _).alloc _
  have HN : Hid (Arr X (w.heap.size + 1) 24 [lim 0 n, lim 1 n, lim 2 n, lim 3 n]) := by
    rw [hX]; have h := Arr.new4 (w.alloc (.cells #[.int .u64 (lim 0 a : Nat), .int .u64 (lim 1 a : Nat), .int .u64 (lim 2 a : Nat), .int .u64 (lim 3 a : Nat)] 24)) 24 (lim 0 n) (lim 1 n) (lim 2 n) (lim 3 n); rw [show (w.alloc (.cells #[.int .u64 (lim 0 a : Nat), .int .u64 (lim 1 a : Nat), .int .u64 (lim 2 a : Nat), .int .u64 (lim 3 a : Nat)] 24)).heap.size = w.heap.size + 1 by simp] at h; exact h
  have HB : Hid (Below w.heap.size w X) := by rw [hX]; exact ((Below.refl _ _).alloc (Nat.le_refl _) _).alloc (by simp) _
  have KA0 : Hid (∀ v, Calls Try.prog 33 #[.agg #[.int .u64 (lim 0 a : Nat), .int .u64 (lim 1 a : Nat), .int .u64 (lim 2 a : Nat), .int .u64 (lim 3 a : Nat)]] v (RetV (fewV a) v)) := fun v => few_c ha v
  have KN0 : Hid (∀ v, Calls Try.prog 33 #[.agg #[.int .u64 (lim 0 n : Nat), .int .u64 (lim 1 n : Nat), .int .u64 (lim 2 n : Nat), .int .u64 (lim 3 n : Nat)]] v (RetV (fewV n) v)) := fun v => few_c hn v
  have HS := Lib.hid hs
  have HX := Lib.hid hX
  obtain ⟨b, hb⟩ : ∃ b : Bool, b = decide (n = 0) := ⟨_, rfl⟩
  have qz : ∀ W : World, (Op.equalIn 10000 24 (.agg #[.int .u64 (lim 0 n : Nat), .int .u64 (lim 1 n : Nat), .int .u64 (lim 2 n : Nat), .int .u64 (lim 3 n : Nat)]) (.agg #[.int .u64 0, .int .u64 0, .int .u64 0, .int .u64 0])).run Try.prog W = .ok b W := fun W => by rw [hb]; exact eqW_zero hn W
  have HBB := Lib.hid hb
  unfold growV at hV
  clear hX ha hn hs hb
  go_enter Try.func20, Try.ntmps20
  go_upto_region 1 with (fail)
  rw [show ((w.alloc (.cells #[.int .u64 (lim 0 a : Nat), .int .u64 (lim 1 a : Nat), .int .u64 (lim 2 a : Nat), .int .u64 (lim 3 a : Nat)] 24)).alloc (.cells #[.int .u64 (lim 0 n : Nat), .int .u64 (lim 1 n : Nat), .int .u64 (lim 2 n : Nat), .int .u64 (lim 3 n : Nat)] 24)) = X from HX.out.symm]
  obtain ⟨y0, y1, y2, y3⟩ := HN.out.cells4
  cases b with
  | true =>
    rw [if_pos (of_decide_eq_true HBB.out.symm)] at hV
    have HV := Lib.hid hV
    clear hV
    go_wp2_with fail
    exact bodyPost_ret (v := .tuple #[.int .u64 (s : Nat), .int .u64 0, .bool true]) (by simp [results, Try.results20, go_sem]) rfl ⟨by rw [HV.out], HB.out⟩
  | false =>
  rw [if_neg (of_decide_eq_false HBB.out.symm)] at hV
  have HV := Lib.hid hV
  clear hV HBB
  obtain ⟨x0, x1, x2, x3⟩ := HA.out.cells4
  by_cases ca : a ≤ 2199023255552
  · have KA : Hid (∀ v, Calls Try.prog 33 #[.agg #[.int .u64 (lim 0 a : Nat), .int .u64 (lim 1 a : Nat), .int .u64 (lim 2 a : Nat), .int .u64 (lim 3 a : Nat)]] v (RetV (.tuple #[.int .u64 (a : Nat), .bool true]) v)) := fun v => by have h := KA0.out v; simp only [fewV, if_pos ca] at h; exact h
    have HCA := Lib.hid ca
    clear ca KA0
    go_wp2_with fail
    (with_reducible refine (KA.out _).mono ?_)
    rintro e1 w1 ⟨rfl, hb1⟩
    have HB1 := Lib.hid (HB.out.trans (hb1.mono HB.out.size))
    have HN1 := Lib.hid (HN.out.below hb1 HN.out.lt)
    clear x0 x1 x2 x3 y0 y1 y2 y3 KA HA HN HB hb1 qz
    obtain ⟨y0, y1, y2, y3⟩ := HN1.out.cells4
    by_cases cn : n ≤ 2199023255552
    · have KN : Hid (∀ v, Calls Try.prog 33 #[.agg #[.int .u64 (lim 0 n : Nat), .int .u64 (lim 1 n : Nat), .int .u64 (lim 2 n : Nat), .int .u64 (lim 3 n : Nat)]] v (RetV (.tuple #[.int .u64 (n : Nat), .bool true]) v)) := fun v => by have h := KN0.out v; simp only [fewV, if_pos cn] at h; exact h
      have HCN := Lib.hid cn
      clear cn KN0
      go_wp2_with fail
      (with_reducible refine (KN.out _).mono ?_)
      rintro e2 w2 ⟨rfl, hb2⟩
      have HB2 := Lib.hid (HB1.out.trans (hb2.mono HB1.out.size))
      clear y0 y1 y2 y3 KN HN1 HB1 hb2
      obtain ⟨m, hm⟩ : ∃ m, m = growW a n := ⟨_, rfl⟩
      obtain ⟨t, ht⟩ : ∃ t, t = a + n := ⟨_, rfl⟩
      have e1 : IntKind.u64.wrap ((a : Int) + (n : Int)) = (t : Int) := by have := HCA.out; have := HCN.out; rw [IntKind.wrap_u64]; omega
      have KW : Hid (∀ v, Calls Try.prog 35 #[.int .u64 (t : Nat)] v fun e w' => e = .returned (.int .u64 (m : Nat)) ∧ w' = v) := fun v => by
        have h := wordsOf_c (a := t) (by have := HCA.out; have := HCN.out; omega) v
        rw [show (t + 31) / 32 = m by rw [hm, ht]; rfl] at h; exact h
      have hmb : m ≤ 137438953473 := by have := HCA.out; have := HCN.out; rw [hm]; unfold growW; omega
      have hV := HV.out
      unfold growTo at hV
      rw [← hm] at hV
      have HMB := Lib.hid hmb
      replace HV := Lib.hid hV
      clear hm ht hmb hV HCA HCN
      go_wp2_with fail
      (with_reducible refine (KW.out _).mono ?_)
      rintro e3 w3 ⟨rfl, rfl⟩
      clear KW e1
      by_cases c : 34359738368 < m
      · have q : ((m : Int) > 34359738368) = True := by simp; omega
        have hV := HV.out
        rw [if_pos c] at hV
        replace HV := Lib.hid hV
        clear hV c HMB HS
        go_wp2_with fail
        exact bodyPost_ret (v := .tuple #[.int .u64 0, .int .u64 0, .bool false]) (by simp [results, Try.results20, go_sem]) rfl ⟨by rw [HV.out], HB2.out⟩
      · have q : ((m : Int) > 34359738368) = False := by simp; omega
        have hV := HV.out
        rw [if_neg c] at hV
        obtain ⟨p, hp⟩ : ∃ p, p = 32 * m := ⟨_, rfl⟩
        have e1 : IntKind.u64.wrap ((m : Int) * 32) = (p : Int) := by rw [IntKind.wrap_u64]; omega
        have e2 : IntKind.u64.wrap ((s : Int) / 32) = ((s / 32 : Nat) : Int) := by have := HS.out; rw [IntKind.wrap_u64]; omega
        have e3 : (s : Int) / 32 = ((s / 32 : Nat) : Int) := by omega
        have e4 : (s : Int).tdiv 32 = ((s / 32 : Nat) : Int) := by rw [Int.tdiv_eq_ediv_of_nonneg (by omega)]; omega
        have f2 : IntKind.u64.wrap ((p : Int) / 32) = (m : Int) := by rw [IntKind.wrap_u64]; omega
        have f3 : (p : Int) / 32 = (m : Int) := by omega
        have f4 : (p : Int).tdiv 32 = (m : Int) := by rw [Int.tdiv_eq_ediv_of_nonneg (by omega)]; omega
        obtain ⟨d, hd⟩ : ∃ d, d = s / 32 := ⟨_, rfl⟩
        rw [← hp, ← hd] at hV
        rw [← hd] at e2 e3 e4
        have e5 : IntKind.u64.wrap (d : Int) = (d : Int) := by have := HS.out; rw [IntKind.wrap_u64]; omega
        have f5 : IntKind.u64.wrap (m : Int) = (m : Int) := by rw [IntKind.wrap_u64]; omega
        have hpm : p / 32 = m := by omega
        have hdm : d ≤ 34359738368 := by have := HS.out; omega
        have hmm : m ≤ 34359738368 := by omega
        have KD : Hid (∀ v, Calls Try.prog 45 #[.int .u64 (d : Nat)] v fun e w' => e = .returned (.int .u64 (cZ d : Nat)) ∧ w' = v) := fun v => held_c hdm v
        have bD := cZ_small hdm
        by_cases c2 : p > s
        · have q2 : max (s : Int) (p : Int) = (p : Int) := by omega
          rw [if_neg (by omega), hpm] at hV
          have KM : Hid (∀ v, Calls Try.prog 45 #[.int .u64 (m : Nat)] v fun e w' => e = .returned (.int .u64 (cZ m : Nat)) ∧ w' = v) := fun v => held_c hmm v
          have bM := cZ_small hmm
          have hmono : cZ d ≤ cZ m := cZ_mono (by omega)
          have g1 : IntKind.u64.wrap (((cZ m : Nat) : Int) - ((cZ d : Nat) : Int)) = ((cZ m - cZ d : Nat) : Int) := by
            generalize cZ m = x at *
            generalize cZ d = y at *
            rw [IntKind.wrap_u64]; omega
          have HV := Lib.hid hV
          generalize cZ m - cZ d = z at *
          generalize cZ m = x at *
          generalize cZ d = y at *
          have HG := Lib.hid g1
          clear hV c c2 HMB HS hp hd hpm hdm hmm bD bM hmono g1
          go_wp2_with fail
          (with_reducible refine (KM.out _).mono ?_)
          rintro e4 w4 ⟨rfl, rfl⟩
          clear KM
          go_wp2_with fail
          (with_reducible refine (KD.out _).mono ?_)
          rintro e5 w5 ⟨rfl, rfl⟩
          have g1 := HG.out
          clear KD HG
          go_wp2_with fail
          exact bodyPost_ret (v := .tuple #[.int .u64 (p : Nat), .int .u64 (z : Nat), .bool true]) (by simp [results, Try.results20, go_sem]) rfl ⟨by rw [HV.out], HB2.out⟩
        · have q2 : max (s : Int) (p : Int) = (s : Int) := by omega
          have hts : (if p < s then s else p) = s := by split <;> omega
          rw [hts, ← hd, Nat.sub_self] at hV
          have HV := Lib.hid hV
          generalize cZ d = y at *
          have g1 : IntKind.u64.wrap ((y : Int) - (y : Int)) = 0 := by rw [Int.sub_self]; decide
          have HG := Lib.hid g1
          clear hV c c2 HMB HS hp hd hpm hdm hmm bD hts f2 f3 f4 f5 g1
          go_wp2_with fail
          (with_reducible refine (KD.out _).mono ?_)
          rintro e4 w4 ⟨rfl, rfl⟩
          go_wp2_with fail
          (with_reducible refine (KD.out _).mono ?_)
          rintro e5 w5 ⟨rfl, rfl⟩
          have g1 := HG.out
          clear KD HG
          go_wp2_with fail
          exact bodyPost_ret (v := .tuple #[.int .u64 (s : Nat), .int .u64 0, .bool true]) (by simp [results, Try.results20, go_sem]) rfl ⟨by rw [HV.out]; rfl, HB2.out⟩
    · have KN : Hid (∀ v, Calls Try.prog 33 #[.agg #[.int .u64 (lim 0 n : Nat), .int .u64 (lim 1 n : Nat), .int .u64 (lim 2 n : Nat), .int .u64 (lim 3 n : Nat)]] v (RetV (.tuple #[.int .u64 0, .bool false]) v)) := fun v => by have h := KN0.out v; simp only [fewV, if_neg cn] at h; exact h
      have hV := HV.out
      rw [if_pos (by unfold growW; omega)] at hV
      replace HV := Lib.hid hV
      clear cn KN0 hV HCA HS
      go_wp2_with fail
      (with_reducible refine (KN.out _).mono ?_)
      rintro e2 w2 ⟨rfl, hb2⟩
      have HB2 := Lib.hid (HB1.out.trans (hb2.mono HB1.out.size))
      clear y0 y1 y2 y3 KN HN1 HB1 hb2
      go_wp2_with fail
      exact bodyPost_ret (v := .tuple #[.int .u64 0, .int .u64 0, .bool false]) (by simp [results, Try.results20, go_sem]) rfl ⟨by rw [HV.out], HB2.out⟩
  · have KA : Hid (∀ v, Calls Try.prog 33 #[.agg #[.int .u64 (lim 0 a : Nat), .int .u64 (lim 1 a : Nat), .int .u64 (lim 2 a : Nat), .int .u64 (lim 3 a : Nat)]] v (RetV (.tuple #[.int .u64 0, .bool false]) v)) := fun v => by have h := KA0.out v; simp only [fewV, if_neg ca] at h; exact h
    have hV := HV.out
    rw [if_pos (by unfold growW; omega)] at hV
    replace HV := Lib.hid hV
    clear ca KA0 hV HS
    go_wp2_with fail
    (with_reducible refine (KA.out _).mono ?_)
    rintro e1 w1 ⟨rfl, hb1⟩
    have HB1 := Lib.hid (HB.out.trans (hb1.mono HB.out.size))
    have HN1 := Lib.hid (HN.out.below hb1 HN.out.lt)
    clear x0 x1 x2 x3 y0 y1 y2 y3 KA HA HN HB hb1 qz
    obtain ⟨y0, y1, y2, y3⟩ := HN1.out.cells4
    have KN : Hid (∀ v, ∃ bb : Bool, ∃ uu : Nat, Calls Try.prog 33 #[.agg #[.int .u64 (lim 0 n : Nat), .int .u64 (lim 1 n : Nat), .int .u64 (lim 2 n : Nat), .int .u64 (lim 3 n : Nat)]] v (RetV (.tuple #[.int .u64 (uu : Nat), .bool bb]) v)) := fun v => by
      have h := KN0.out v
      unfold fewV at h
      split at h
      · exact ⟨_, _, h⟩
      · exact ⟨false, 0, h⟩
    clear KN0
    go_wp2_with fail
    obtain ⟨bb, uu, hh⟩ := KN.out w1
    (with_reducible refine hh.mono ?_)
    rintro e2 w2 ⟨rfl, hb2⟩
    have HB2 := Lib.hid (HB1.out.trans (hb2.mono HB1.out.size))
    clear y0 y1 y2 y3 KN HN1 HB1 hb2 hh
    go_wp2_with fail
    exact bodyPost_ret (v := .tuple #[.int .u64 0, .int .u64 0, .bool false]) (by simp [results, Try.results20, go_sem]) rfl ⟨by rw [HV.out], HB2.out⟩
end Go.Proofs.Ytiflfcdegpmhnaa
namespace Go.Proofs.Ytiflfcdegpmhnaa
open Go.RowKit

set_option maxRecDepth 100000 in
set_option maxHeartbeats 6400000 in
theorem ppart_c (f : Int) (k : Nat → Int) {left a : Nat} (hl : left < 18446744073709551616) (ha : Big a) (w : World) : Calls Try.prog 25 #[.agg (RulesK f k), .int .u64 (left : Nat), W a] w (RetV (partV f left a) w) := by
  obtain ⟨V, hV⟩ : ∃ V, V = partV f left a := ⟨_, rfl⟩
  rw [← hV]
  unfold partV at hV
  obtain ⟨X, hX⟩ : ∃ X, X = (w.alloc (.cells (RulesK f k) 26)).alloc (.cells #[.int .u64 (lim 0 a : Nat), .int .u64 (lim 1 a : Nat), .int .u64 (lim 2 a : Nat), .int .u64 (lim 3 a : Nat)] 24) := ⟨_, rfl⟩
  obtain ⟨hR, hA, hB, hL1, hL2⟩ := start_rw w f k a X hX
  have HR := Lib.hid hR
  have HA := Lib.hid hA
  have HB := Lib.hid hB
  have HL := Lib.hid hL1
  have HX := Lib.hid hX
  have hs : ∀ v, Calls Try.prog 52 #[.agg #[.int .u64 (lim 0 a : Nat), .int .u64 (lim 1 a : Nat), .int .u64 (lim 2 a : Nat), .int .u64 (lim 3 a : Nat)]] v (RetV (sml a) v) := fun v => small_c ha v
  clear hR hA hB hL1 hL2 hX
  obtain ⟨m, hm⟩ : ∃ m, m = left - left / 64 := ⟨_, rfl⟩
  have d1 : (left : Int).tdiv 64 = ((left / 64 : Nat) : Int) := by rw [Int.tdiv_eq_ediv_of_nonneg (by omega)]; omega
  have d2 : (left : Int) / 64 = ((left / 64 : Nat) : Int) := by omega
  have d3 : IntKind.u64.wrap ((left / 64 : Nat) : Int) = ((left / 64 : Nat) : Int) := by rw [IntKind.wrap_u64]; omega
  have d4 : IntKind.u64.wrap ((left : Int) - ((left / 64 : Nat) : Int)) = (m : Int) := by rw [IntKind.wrap_u64]; omega
  have HM : Hid (m ≤ left) := by show m ≤ left; omega
  rw [← hm] at hV
  obtain ⟨q, hq⟩ : ∃ q, q = left / 64 := ⟨_, rfl⟩
  rw [← hq] at d1 d2 d3 d4
  clear hq hm
  by_cases hc : a < 18446744073709551616
  · simp only [sml, if_pos hc] at hs
    have HS := Lib.hid hs
    clear hs hc
    by_cases c3 : f < 2
    · rw [if_pos c3] at hV
      by_cases c1 : left < a
      · rw [if_pos c1] at hV
        have q1 : ((a : Int) > (left : Int)) = True := by simp; omega
        clear c1
        skip
        have HV := Lib.hid hV
        clear hV hl ha HM
        go_enter Try.func25, Try.ntmps25
        go_upto_region 1 with (fail)
        rw [show (w.alloc (.cells (RulesK f k) 26)).alloc (.cells #[.int .u64 (lim 0 a : Nat), .int .u64 (lim 1 a : Nat), .int .u64 (lim 2 a : Nat), .int .u64 (lim 3 a : Nat)] 24) = X from HX.out.symm]
        obtain ⟨x0, x1, x2, x3⟩ := HA.out.cells4
        go_wp2_with fail
        (with_reducible refine (HS.out _).mono ?_)
        rintro e1 w1 ⟨rfl, hb1⟩
        have r0 := (HR.out.below hb1 HL.out).fork
        have HB1 := Lib.hid (HB.out.trans (hb1.mono HB.out.size))
        clear x0 x1 x2 x3 HX HR HA HB HL HS hb1
        go_wp2_with fail
        exact bodyPost_ret (v := .tuple #[.int .u64 0, .bool false]) (by simp [results, Try.results25, go_sem]) rfl ⟨by rw [HV.out], HB1.out⟩
      · rw [if_neg c1] at hV
        have q1 : ((a : Int) > (left : Int)) = False := by simp; omega
        clear c1
        skip
        have HV := Lib.hid hV
        clear hV hl ha HM
        go_enter Try.func25, Try.ntmps25
        go_upto_region 1 with (fail)
        rw [show (w.alloc (.cells (RulesK f k) 26)).alloc (.cells #[.int .u64 (lim 0 a : Nat), .int .u64 (lim 1 a : Nat), .int .u64 (lim 2 a : Nat), .int .u64 (lim 3 a : Nat)] 24) = X from HX.out.symm]
        obtain ⟨x0, x1, x2, x3⟩ := HA.out.cells4
        go_wp2_with fail
        (with_reducible refine (HS.out _).mono ?_)
        rintro e1 w1 ⟨rfl, hb1⟩
        have r0 := (HR.out.below hb1 HL.out).fork
        have HB1 := Lib.hid (HB.out.trans (hb1.mono HB.out.size))
        clear x0 x1 x2 x3 HX HR HA HB HL HS hb1
        go_wp2_with fail
        exact bodyPost_ret (v := .tuple #[.int .u64 (a : Nat), .bool true]) (by simp [results, Try.results25, go_sem]) rfl ⟨by rw [HV.out], HB1.out⟩
    · rw [if_neg c3] at hV
      obtain ⟨x, hx⟩ : ∃ x, x = if m < a then m else a := ⟨_, rfl⟩
      rw [← hx] at hV
      have q1 : min (a : Int) (m : Int) = (x : Int) := by rw [hx]; split <;> omega
      clear hx
      skip
      have HV := Lib.hid hV
      clear hV hl ha HM
      go_enter Try.func25, Try.ntmps25
      go_upto_region 1 with (fail)
      rw [show (w.alloc (.cells (RulesK f k) 26)).alloc (.cells #[.int .u64 (lim 0 a : Nat), .int .u64 (lim 1 a : Nat), .int .u64 (lim 2 a : Nat), .int .u64 (lim 3 a : Nat)] 24) = X from HX.out.symm]
      obtain ⟨x0, x1, x2, x3⟩ := HA.out.cells4
      go_wp2_with fail
      (with_reducible refine (HS.out _).mono ?_)
      rintro e1 w1 ⟨rfl, hb1⟩
      have r0 := (HR.out.below hb1 HL.out).fork
      have HB1 := Lib.hid (HB.out.trans (hb1.mono HB.out.size))
      clear x0 x1 x2 x3 HX HR HA HB HL HS hb1
      go_wp2_with fail
      exact bodyPost_ret (v := .tuple #[.int .u64 (x : Nat), .bool true]) (by simp [results, Try.results25, go_sem]) rfl ⟨by rw [HV.out], HB1.out⟩
  · simp only [sml, if_neg hc] at hs
    have HS := Lib.hid hs
    have hm := HM.out
    clear hs
    by_cases c3 : f < 2
    · rw [if_pos c3, if_pos (by omega)] at hV
      clear hc hm
      skip
      have HV := Lib.hid hV
      clear hV hl ha HM
      go_enter Try.func25, Try.ntmps25
      go_upto_region 1 with (fail)
      rw [show (w.alloc (.cells (RulesK f k) 26)).alloc (.cells #[.int .u64 (lim 0 a : Nat), .int .u64 (lim 1 a : Nat), .int .u64 (lim 2 a : Nat), .int .u64 (lim 3 a : Nat)] 24) = X from HX.out.symm]
      obtain ⟨x0, x1, x2, x3⟩ := HA.out.cells4
      go_wp2_with fail
      (with_reducible refine (HS.out _).mono ?_)
      rintro e1 w1 ⟨rfl, hb1⟩
      have r0 := (HR.out.below hb1 HL.out).fork
      have HB1 := Lib.hid (HB.out.trans (hb1.mono HB.out.size))
      clear x0 x1 x2 x3 HX HR HA HB HL HS hb1
      go_wp2_with fail
      exact bodyPost_ret (v := .tuple #[.int .u64 0, .bool false]) (by simp [results, Try.results25, go_sem]) rfl ⟨by rw [HV.out], HB1.out⟩
    · rw [if_neg c3, if_pos (by omega)] at hV
      clear hc hm
      skip
      have HV := Lib.hid hV
      clear hV hl ha HM
      go_enter Try.func25, Try.ntmps25
      go_upto_region 1 with (fail)
      rw [show (w.alloc (.cells (RulesK f k) 26)).alloc (.cells #[.int .u64 (lim 0 a : Nat), .int .u64 (lim 1 a : Nat), .int .u64 (lim 2 a : Nat), .int .u64 (lim 3 a : Nat)] 24) = X from HX.out.symm]
      obtain ⟨x0, x1, x2, x3⟩ := HA.out.cells4
      go_wp2_with fail
      (with_reducible refine (HS.out _).mono ?_)
      rintro e1 w1 ⟨rfl, hb1⟩
      have r0 := (HR.out.below hb1 HL.out).fork
      have HB1 := Lib.hid (HB.out.trans (hb1.mono HB.out.size))
      clear x0 x1 x2 x3 HX HR HA HB HL HS hb1
      go_wp2_with fail
      exact bodyPost_ret (v := .tuple #[.int .u64 (m : Nat), .bool true]) (by simp [results, Try.results25, go_sem]) rfl ⟨by rw [HV.out], HB1.out⟩

set_option maxRecDepth 100000 in
set_option maxHeartbeats 3200000 in
theorem pback_c (f : Int) (k : Nat → Int) {used refund d : Nat} (hk : k 23 = (d : Nat)) (hd : 0 < d) (hu : used < 18446744073709551616) (w : World) : Calls Try.prog 27 #[.agg (RulesK f k), .int .u64 (used : Nat), .int .u64 (refund : Nat)] w (RetV (.int .u64 (backN used refund d : Nat)) w) := by
  obtain ⟨X, hX⟩ : ∃ X, X = w.alloc (.cells (RulesK f k) 26) := ⟨_, rfl⟩
  have hR : RulesAt X w.heap.size f k := by rw [hX]; exact RulesAt.new w f k
  have HB : Hid (Below w.heap.size w X) := by rw [hX]; exact (Below.refl _ _).alloc (Nat.le_refl _) _
  have c23 := hR.c23
  rw [hk] at c23
  have HX := Lib.hid hX
  clear hX hR hk
  have d1 : (used : Int).tdiv (d : Int) = ((used / d : Nat) : Int) := by rw [Int.tdiv_eq_ediv_of_nonneg (by omega)]; exact (Int.natCast_ediv used d).symm
  have d2 : (used : Int) / (d : Int) = ((used / d : Nat) : Int) := (Int.natCast_ediv used d).symm
  have d3 : used / d ≤ used := Nat.div_le_self _ _
  have d4 : IntKind.u64.wrap ((used / d : Nat) : Int) = ((used / d : Nat) : Int) := by
    generalize used / d = y at d3
    rw [IntKind.wrap_u64]; omega
  have d5 : ¬ ((d : Nat) : Int) = 0 := by omega
  obtain ⟨z, hz⟩ : ∃ z, z = backN used refund d := ⟨_, rfl⟩
  rw [← hz]
  unfold backN at hz
  obtain ⟨q, hq⟩ : ∃ q, q = used / d := ⟨_, rfl⟩
  rw [← hq] at d1 d2 d4 hz
  have q1 : min (refund : Int) (q : Int) = (z : Int) := by rw [hz]; split <;> omega
  clear hq d3 hu hd hz
  go_enter Try.func27, Try.ntmps27
  go_upto_region 1 with (fail)
  rw [show w.alloc (.cells (RulesK f k) 26) = X from HX.out.symm]
  go_wp2_with fail
  go_ret
  exact ⟨rfl, HB.out⟩
end Go.Proofs.Ytiflfcdegpmhnaa
