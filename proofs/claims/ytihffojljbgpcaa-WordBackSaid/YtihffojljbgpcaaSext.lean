/- The contracts of Signextend in package word and in the reference. -/
import Derived.Test.YtihffojljbgpcaaByte
import Derived.Test.YtihffojljbgpcaaRef8
namespace Go.Proofs.Ytihffojljbgpcaa
open Go.RowKit

/-- What Signextend tells, as the document says it. -/
def sextv (k a : Nat) : Nat := if k < 31 then (if a % 2 ^ (8 * (k + 1)) / 2 ^ (8 * (k + 1) - 1) % 2 = 0 then a % 2 ^ (8 * (k + 1)) else 115792089237316195423570985008687907853269984665640564039457584007913129639936 - 2 ^ (8 * (k + 1)) + a % 2 ^ (8 * (k + 1))) else a
theorem sext_same (k a : Nat) (hk : k < 31) : sarv (248 - 8 * k) (shlv (248 - 8 * k) a) = sextv k a := by
  obtain ⟨s, hs⟩ : ∃ s, s = 248 - 8 * k := ⟨_, rfl⟩
  obtain ⟨b, hb⟩ : ∃ b, b = 8 * (k + 1) := ⟨_, rfl⟩
  have hsb : s + b = 256 := by omega
  unfold sextv
  rw [if_pos hk, ← hs, ← hb]
  have hM : 2 ^ b * 2 ^ s = 115792089237316195423570985008687907853269984665640564039457584007913129639936 := by rw [← Nat.pow_add, show b + s = 256 by omega]
  have hH : 2 ^ (b - 1) * 2 ^ s = 57896044618658097711785492504343953926634992332820282019728792003956564819968 := by rw [← Nat.pow_add, show b - 1 + s = 255 by omega]
  have hP : 2 * 2 ^ (b - 1) = 2 ^ b := by
    have h : 2 ^ (b - 1 + 1) = 2 ^ (b - 1) * 2 := Nat.pow_succ _ _
    rw [show b - 1 + 1 = b by omega] at h
    omega
  obtain ⟨l, hl⟩ : ∃ l, l = a % 2 ^ b := ⟨_, rfl⟩
  have hlt : l < 2 ^ b := by rw [hl]; exact Nat.mod_lt _ (Nat.two_pow_pos _)
  have hsh : shlv s a = l * 2 ^ s := by
    unfold shlv
    rw [if_pos (by omega), ← hM, Nat.mul_mod_mul_right, ← hl]
  rw [hsh, ← hl]
  have hS : 0 < 2 ^ s := Nat.two_pow_pos s
  have hsr : ∀ x, shrv s x = x / 2 ^ s := fun x => by unfold shrv; rw [if_pos (by omega)]
  unfold sarv sgn notv
  rw [hsr, hsr]
  clear hsr
  generalize 2 ^ s = S at *
  generalize 2 ^ (b - 1) = H at *
  generalize 2 ^ b = P at *
  have hl2 : l / H % 2 = 0 ↔ l < H := by
    constructor
    · intro h
      apply Nat.lt_of_not_le
      intro hge
      have h1 : l / H < 2 := Nat.div_lt_of_lt_mul (by omega)
      have h2 : 1 ≤ l / H := (Nat.le_div_iff_mul_le (by omega)).2 (by omega)
      omega
    · intro h
      rw [Nat.div_eq_of_lt h]
  have hcmp : 57896044618658097711785492504343953926634992332820282019728792003956564819968 ≤ l * S ↔ H ≤ l := by
    rw [← hH]
    exact Nat.mul_le_mul_right_iff hS
  by_cases hc : l < H
  · rw [if_pos (hl2.2 hc), if_neg (by simp only [decide_eq_true_eq]; rw [hcmp]; omega), Nat.mul_div_cancel _ hS]
  · rw [if_neg (fun h => hc (hl2.1 h)), if_pos (by simp only [decide_eq_true_eq]; rw [hcmp]; omega)]
    have hq : (115792089237316195423570985008687907853269984665640564039457584007913129639935 - l * S) / S = P - l - 1 := by
      have e : 115792089237316195423570985008687907853269984665640564039457584007913129639935 - l * S = S * (P - l - 1) + (S - 1) := by
        have h1 : (P - l) * S + l * S = 115792089237316195423570985008687907853269984665640564039457584007913129639936 := by rw [← Nat.add_mul, Nat.sub_add_cancel (Nat.le_of_lt hlt)]; exact hM
        have h2 : (P - l) * S = S * (P - l - 1) + S := by
          obtain ⟨d, hd⟩ : ∃ d, P - l = d + 1 := ⟨P - l - 1, by omega⟩
          rw [hd, Nat.add_mul, Nat.one_mul, Nat.mul_comm, Nat.add_sub_cancel]
        omega
      rw [e, Nat.mul_add_div hS, Nat.div_eq_of_lt (by omega), Nat.add_zero]
    rw [hq]
    have hPM : P ≤ 115792089237316195423570985008687907853269984665640564039457584007913129639936 := by rw [← hM]; exact Nat.le_mul_of_pos_right _ hS
    omega
set_option maxRecDepth 100000 in
set_option maxHeartbeats 3200000 in
theorem sext_c {k a : Nat} (hk : Big k) (ha : Big a) (w : World) : Calls Try.prog 64 #[W k, W a] w (RetW (sextv k a) w) := by
  by_cases h : k < 31
  · rw [← sext_same k a h]
    obtain ⟨s, hs⟩ : ∃ s, s = 248 - 8 * k := ⟨_, rfl⟩
    rw [← hs]
    obtain ⟨b, hb⟩ : ∃ b, b = shlv s a := ⟨_, rfl⟩
    rw [← hb]
    obtain ⟨c, hc⟩ : ∃ c, c = sarv s b := ⟨_, rfl⟩
    rw [← hc]
    have bB : Big b := by rw [hb]; exact shlv_big _ _
    have bS : Big s := by unfold Big; omega
    have bC : Big c := by rw [hc]; exact sarv_big _ bB
    have k1 : ∀ w, Calls Try.prog 121 #[.agg #[.int .u64 (lim 0 k : Nat), .int .u64 (lim 1 k : Nat), .int .u64 (lim 2 k : Nat), .int .u64 (lim 3 k : Nat)], .int .u64 31] w (RetV (.tuple #[.int .i64 (k : Nat), .bool true]) w) := fun w => below_t (e := 31) h (by omega) w
    have k2 : ∀ w, Calls Try.prog 29 #[.int .u64 (s : Nat)] w (RetW s w) := fun w => of_c s (by unfold Lim; omega) w
    have k3 : ∀ w, Calls Try.prog 68 #[W s, W a] w (RetW b w) := fun w => by rw [hb]; exact shl_c bS ha w
    have k4 : ∀ w, Calls Try.prog 72 #[W s, W b] w (RetW c w) := fun w => by rw [hc]; exact sar_c bS bB w
    obtain ⟨B, hB⟩ : ∃ B : Nat, 8 * ((k : Int) + 1) = (B : Int) := ⟨8 * (k + 1), by omega⟩
    have e2 : IntKind.i64.wrap (8 * ((k : Int) + 1)) = (B : Int) := by rw [hB]; exact IntWalk.i64_in _ (by omega)
    have e3 : IntKind.i64.wrap (256 - (B : Int)) = (s : Int) := by rw [IntWalk.i64_in _ (by omega)]; omega
    have hB1 : (B : Int) ≤ 248 := by omega
    have e4 : IntKind.u64.wrap (s : Int) = (s : Int) := by rw [wrapU, Nat.mod_eq_of_lt (by omega)]
    have K1 := Lib.hid k1
    have K2 := Lib.hid k2
    have K3 := Lib.hid k3
    have K4 := Lib.hid k4
    have BC := Lib.hid bC
    clear k1 k2 k3 k4 bB bS bC hb hc hs h hk ha
    go_enter Try.func64, Try.ntmps64
    go_upto_region 1 with (fail)
    obtain ⟨gA, gB, gR, gS, gW⟩ := start3 w 24 (lim 0 k) (lim 1 k) (lim 2 k) (lim 3 k) (lim 0 a) (lim 1 a) (lim 2 a) (lim 3 a) _ rfl
    generalize ((w.alloc (.cells #[.int .u64 (lim 0 k : Nat), .int .u64 (lim 1 k : Nat), .int .u64 (lim 2 k : Nat), .int .u64 (lim 3 k : Nat)] 24)).alloc (.cells #[.int .u64 (lim 0 a : Nat), .int .u64 (lim 1 a : Nat), .int .u64 (lim 2 a : Nat), .int .u64 (lim 3 a : Nat)] 24)).alloc (.cells #[.int .u64 0, .int .u64 0, .int .u64 0, .int .u64 0] 24) = X at *
    clear gS
    obtain ⟨x0, x1, x2, x3⟩ := gA.cells4
    go_wp2_with fail
    (with_reducible refine (K1.out _).mono ?_)
    rintro e w1 ⟨rfl, hb1⟩
    have gA := gA.below hb1 gA.lt
    have gB := gB.below hb1 gB.lt
    have gR := gR.below hb1 gR.lt
    have gW := gW.trans (hb1.mono gW.size)
    clear hb1
    clear x0 x1 x2 x3
    go_wp2_with fail
    (with_reducible refine (K2.out _).mono ?_)
    rintro e w2 hw
    obtain ⟨rfl, hb1⟩ := hw.val
    have gB := gB.below hb1 gB.lt
    have gR := gR.below hb1 gR.lt
    have gW := gW.trans (hb1.mono gW.size)
    have hlt := gR.lt
    clear hb1 hw gA e2 e3 e4 hB hB1
    go_upto_region 5 with (fail)
    have g7 := Arr.new4 w2 24 (lim 0 s) (lim 1 s) (lim 2 s) (lim 3 s)
    have gB := gB.alloc (.cells #[.int .u64 (lim 0 s : Nat), .int .u64 (lim 1 s : Nat), .int .u64 (lim 2 s : Nat), .int .u64 (lim 3 s : Nat)] 24)
    have gR := gR.alloc (.cells #[.int .u64 (lim 0 s : Nat), .int .u64 (lim 1 s : Nat), .int .u64 (lim 2 s : Nat), .int .u64 (lim 3 s : Nat)] 24)
    have gW := gW.alloc gW.size (.cells #[.int .u64 (lim 0 s : Nat), .int .u64 (lim 1 s : Nat), .int .u64 (lim 2 s : Nat), .int .u64 (lim 3 s : Nat)] 24)
    generalize w2.alloc (.cells #[.int .u64 (lim 0 s : Nat), .int .u64 (lim 1 s : Nat), .int .u64 (lim 2 s : Nat), .int .u64 (lim 3 s : Nat)] 24) = Y at *
    generalize w2.heap.size = G at *
    refine wp_region_rel 5 [(22, (.is (W s))), (23, (.is (W s))), (24, (.is (W a))), (25, (.is (W (b)))), (26, (.is (W (c))))] (by kernel_rfl) (by kernel_rfl) ?_ ?_
    · refine relOps_cons ?_ (relOps_cons ?_ (relOps_cons ?_ (relOps_cons ?_ (relOps_cons ?_ relOps_nil))))
      · intro w' hb'
        refine relAsk_out (by rfl) ?_
        refine relAsk_nil ?_
        refine relStep_go (by rfl) ?_
        obtain ⟨x0, x1, x2, x3⟩ := (g7.below hb' g7.lt).cells4
        clear gB gR g7
        go_simp
        exact rel_val rfl
      · intro w' hb'
        refine relAsk_out (by rfl) ?_
        refine relAsk_nil ?_
        refine relStep_go (by rfl) ?_
        obtain ⟨x0, x1, x2, x3⟩ := (g7.below hb' g7.lt).cells4
        clear gB gR g7
        go_simp
        exact rel_val rfl
      · intro w' hb'
        refine relAsk_out (by rfl) ?_
        refine relAsk_nil ?_
        refine relStep_go (by rfl) ?_
        obtain ⟨x0, x1, x2, x3⟩ := (gB.below hb' gB.lt).cells4
        clear gB gR g7
        go_simp
        exact rel_val rfl
      · intro w' hb'
        refine relAsk_in (by rfl) ?_
        intro v23 h23
        obtain rfl : v23 = (W s) := h23
        refine relAsk_in (by rfl) ?_
        intro v24 h24
        obtain rfl : v24 = (W a) := h24
        refine relAsk_nil ?_
        refine relStep_go (by rfl) ?_
        go_simp
        exact rel_callW (K3.out _) (fun _ => rfl)
      · intro w' hb'
        refine relAsk_in (by rfl) ?_
        intro v22 h22
        obtain rfl : v22 = (W s) := h22
        refine relAsk_in (by rfl) ?_
        intro v25 h25
        obtain rfl : v25 = (W (b)) := h25
        refine relAsk_nil ?_
        refine relStep_go (by rfl) ?_
        go_simp
        exact rel_callW (K4.out _) (fun _ => rfl)
    · intro w' hb'
      refine relAsk_in (by rfl) ?_
      intro v22 h22
      obtain rfl : v22 = (W s) := h22
      refine relAsk_in (by rfl) ?_
      intro v23 h23
      obtain rfl : v23 = (W s) := h23
      refine relAsk_in (by rfl) ?_
      intro v24 h24
      obtain rfl : v24 = (W a) := h24
      refine relAsk_in (by rfl) ?_
      intro v25 h25
      obtain rfl : v25 = (W (b)) := h25
      refine relAsk_in (by rfl) ?_
      intro v26 h26
      obtain rfl : v26 = (W (c)) := h26
      refine relAsk_nil ?_
      have gR := gR.below hb' gR.lt
      have gW := gW.trans (hb'.mono gW.size)
      clear gB g7 hb'
      obtain ⟨y0, y1, y2, y3⟩ := gR.cells4
      obtain ⟨f0, f1, f2, f3⟩ := gR.free4
      go_wp2_with fail
      refine bodyPost_ret (v := W (c)) (by simp [results, Try.results64, go_sem, y0, y1, y2, y3]) rfl ⟨_, _, _, _, rfl, isW_lim (BC.out), ?_⟩
      repeat (first | exact gW | refine Below.setCell ?_ (by simp; try omega) _)
  · unfold sextv
    rw [if_neg h]
    have k1 : ∀ w, Calls Try.prog 121 #[.agg #[.int .u64 (lim 0 k : Nat), .int .u64 (lim 1 k : Nat), .int .u64 (lim 2 k : Nat), .int .u64 (lim 3 k : Nat)], .int .u64 31] w (RetV (.tuple #[.int .i64 0, .bool false]) w) := fun w => below_f (e := 31) hk (by omega) w
    have K1 := Lib.hid k1
    have BA := Lib.hid ha
    clear k1 h hk ha
    go_enter Try.func64, Try.ntmps64
    go_upto_region 1 with (fail)
    obtain ⟨gA, gB, gR, gS, gW⟩ := start3 w 24 (lim 0 k) (lim 1 k) (lim 2 k) (lim 3 k) (lim 0 a) (lim 1 a) (lim 2 a) (lim 3 a) _ rfl
    generalize ((w.alloc (.cells #[.int .u64 (lim 0 k : Nat), .int .u64 (lim 1 k : Nat), .int .u64 (lim 2 k : Nat), .int .u64 (lim 3 k : Nat)] 24)).alloc (.cells #[.int .u64 (lim 0 a : Nat), .int .u64 (lim 1 a : Nat), .int .u64 (lim 2 a : Nat), .int .u64 (lim 3 a : Nat)] 24)).alloc (.cells #[.int .u64 0, .int .u64 0, .int .u64 0, .int .u64 0] 24) = X at *
    clear gS
    obtain ⟨x0, x1, x2, x3⟩ := gA.cells4
    go_wp2_with fail
    (with_reducible refine (K1.out _).mono ?_)
    rintro e w1 ⟨rfl, hb1⟩
    have gA := gA.below hb1 gA.lt
    have gB := gB.below hb1 gB.lt
    have gR := gR.below hb1 gR.lt
    have gW := gW.trans (hb1.mono gW.size)
    clear hb1
    clear x0 x1 x2 x3
    obtain ⟨x0, x1, x2, x3⟩ := gB.cells4
    obtain ⟨y0, y1, y2, y3⟩ := gR.cells4
    obtain ⟨f0, f1, f2, f3⟩ := gR.free4
    go_wp2_with fail
    refine bodyPost_ret (v := W (a)) (by simp [results, Try.results64, go_sem, y0, y1, y2, y3]) rfl ⟨_, _, _, _, rfl, isW_lim (BA.out), ?_⟩
    repeat (first | exact gW | refine Below.setCell ?_ (by simp; try omega) _)
set_option maxRecDepth 100000 in
set_option maxHeartbeats 3200000 in
theorem sext1_c {k a : Nat} (hk : Big k) (ha : Big a) (w : World) : Calls Try.prog 65 #[W k, W a] w (RetW (sextv k a) w) := by
  unfold sextv
  by_cases h : k < 31
  · rw [if_pos h]
    obtain ⟨B, hB⟩ : ∃ B, B = 8 * (k + 1) := ⟨_, rfl⟩
    rw [← hB]
    obtain ⟨P, hP⟩ : ∃ P, P = 2 ^ B := ⟨_, rfl⟩
    rw [← hP]
    obtain ⟨l, hl⟩ : ∃ l, l = a % P := ⟨_, rfl⟩
    rw [← hl]
    obtain ⟨z, hz⟩ : ∃ z, z = l / 2 ^ (B - 1) % 2 := ⟨_, rfl⟩
    rw [← hz]
    obtain ⟨R, hR⟩ : ∃ R, R = if z = 0 then l else 115792089237316195423570985008687907853269984665640564039457584007913129639936 - P + l := ⟨_, rfl⟩
    rw [← hR]
    have HRZ := Lib.hid hR
    clear hR
    have hP0 : 0 < P := by rw [hP]; exact Nat.two_pow_pos _
    have hPM : P ≤ 115792089237316195423570985008687907853269984665640564039457584007913129639936 := by
      rw [hP, show 115792089237316195423570985008687907853269984665640564039457584007913129639936 = 2 ^ 256 by decide]
      exact Nat.pow_le_pow_right (by omega) (by omega)
    have hlP : l < P := by rw [hl]; exact Nat.mod_lt _ hP0
    have r1 : l % 115792089237316195423570985008687907853269984665640564039457584007913129639936 = l := Nat.mod_eq_of_lt (by omega)
    have r2 : (115792089237316195423570985008687907853269984665640564039457584007913129639936 - P + l) % 115792089237316195423570985008687907853269984665640564039457584007913129639936 = 115792089237316195423570985008687907853269984665640564039457584007913129639936 - P + l := Nat.mod_eq_of_lt (by omega)
    have b1 : Big l := by unfold Big; omega
    have b2 : Big (115792089237316195423570985008687907853269984665640564039457584007913129639936 - P + l) := by unfold Big; omega
    have k1 : ∀ w, Calls Try.prog 22 #[.agg #[.int .u64 (lim 0 k : Nat), .int .u64 (lim 1 k : Nat), .int .u64 (lim 2 k : Nat), .int .u64 (lim 3 k : Nat)]] w (RetV (.tuple #[.int .u64 (k : Nat), .bool true]) w) := fun w => small1_t (by omega) w
    have kN : ∀ w, Calls Try.prog 103 #[.agg #[.int .u64 (lim 0 a : Nat), .int .u64 (lim 1 a : Nat), .int .u64 (lim 2 a : Nat), .int .u64 (lim 3 a : Nat)]] w (RetR (fun w' v => Num w' v a 8) w) := fun w => rN_c (isW_lim ha) w
    have hg : ¬ (31 ≤ (k : Int)) := by omega
    have e0 : 8 * ((k : Int) + 1) = (B : Int) := by omega
    have e4 : IntKind.i64.wrap ((B : Int) - 1) = ((B - 1 : Nat) : Int) := by rw [IntWalk.i64_in _ (by omega)]; omega
    have hB1 : 8 ≤ B := by omega
    have hB2 : B ≤ 248 := by omega
    have K1 := Lib.hid k1
    have KN := Lib.hid kN
    have HP := Lib.hid hP
    have HL := Lib.hid hl
    have HZ := Lib.hid hz
    have HP0 := Lib.hid hP0
    have HPM := Lib.hid hPM
    have HR1 := Lib.hid r1
    have HR2 := Lib.hid r2
    have BB1 := Lib.hid b1
    have BB2 := Lib.hid b2
    clear k1 kN hP hl hz hP0 hPM r1 r2 b1 b2 hlP hB h hk ha
    go_enter Try.func65, Try.ntmps65
    go_upto_region 1 with (fail)
    obtain ⟨gA, gB, gR, gS, gW⟩ := start3 w 24 (lim 0 k) (lim 1 k) (lim 2 k) (lim 3 k) (lim 0 a) (lim 1 a) (lim 2 a) (lim 3 a) _ rfl
    generalize ((w.alloc (.cells #[.int .u64 (lim 0 k : Nat), .int .u64 (lim 1 k : Nat), .int .u64 (lim 2 k : Nat), .int .u64 (lim 3 k : Nat)] 24)).alloc (.cells #[.int .u64 (lim 0 a : Nat), .int .u64 (lim 1 a : Nat), .int .u64 (lim 2 a : Nat), .int .u64 (lim 3 a : Nat)] 24)).alloc (.cells #[.int .u64 0, .int .u64 0, .int .u64 0, .int .u64 0] 24) = X at *
    clear gS
    obtain ⟨x0, x1, x2, x3⟩ := gA.cells4
    go_wp2_with fail
    (with_reducible refine (K1.out _).mono ?_)
    rintro e w1 ⟨rfl, hb1⟩
    have gA := gA.below hb1 gA.lt
    have gB := gB.below hb1 gB.lt
    have gR := gR.below hb1 gR.lt
    have gW := gW.trans (hb1.mono gW.size)
    clear hb1
    clear x0 x1 x2 x3
    obtain ⟨x0, x1, x2, x3⟩ := gB.cells4
    go_wp2_with fail
    (with_reducible refine (KN.out _).mono ?_)
    rintro e w2 ⟨v2, rfl, h2, hb1⟩
    have gR := gR.below hb1 gR.lt
    have gW := gW.trans (hb1.mono gW.size)
    clear hb1 x0 x1 x2 x3 gA gB e0
    have hS := rshl_n (w2.alloc (.cells #[Value.int .u32 1] 56)) (num_one w2) (by omega) B (by omega)
    rw [Nat.one_mul, ← HP.out] at hS
    have h2 := h2.below ((Below.refl _ _).alloc (Nat.le_refl _) (.cells #[Value.int .u32 1] 56))
    have gR := gR.alloc (.cells #[Value.int .u32 1] 56)
    have gW := gW.alloc gW.size (.cells #[Value.int .u32 1] 56)
    have HS := Lib.hid hS
    clear hS
    go_wp2_with fail
    (with_reducible refine HS.out.mono ?_)
    rintro e w3 ⟨v3, rfl, h1, hb1⟩
    have h2 := h2.below hb1
    have gR := gR.below hb1 gR.lt
    have gW := gW.trans (hb1.mono gW.size)
    clear hb1
    have h1 := h1.mono (show 1 + B / 32 + 1 ≤ 10 by omega)
    go_wp2_with fail
    (with_reducible refine (rmod_n _ h2 h1 (by omega) (by omega) HP0.out).mono ?_)
    rintro e w4 ⟨v4, rfl, h3, hb1⟩
    rw [← HL.out] at h3
    have gR := gR.below hb1 gR.lt
    have gW := gW.trans (hb1.mono gW.size)
    clear hb1 h1 h2 HS
    have hbt := rbit_n w4 h3 (by omega) (B - 1) (by omega)
    rw [← HZ.out] at hbt
    have HBT := Lib.hid hbt
    clear hbt
    go_wp2_with fail
    (with_reducible refine HBT.out.mono ?_)
    rintro e w5 ⟨rfl, hw5⟩
    rw [hw5]
    clear hw5 HBT e4
    by_cases hz0 : z = 0
    · have hRl : l = R := by have := HRZ.out; rw [if_pos hz0] at this; exact this.symm
      subst hRl
      have hzi : (z : Int) = 0 := by omega
      clear hz0
      go_wp2_with fail
      (with_reducible refine (rW_n _ h3 (by omega)).mono ?_)
      rintro e w6 hw
      rw [HR1.out] at hw
      obtain ⟨rfl, hb1⟩ := hw.val
      have gR := gR.below hb1 gR.lt
      have gW := gW.trans (hb1.mono gW.size)
      clear hb1 hw h3
      obtain ⟨y0, y1, y2, y3⟩ := gR.cells4
      obtain ⟨f0, f1, f2, f3⟩ := gR.free4
      go_wp2_with fail
      refine bodyPost_ret (v := W (l)) (by simp [results, Try.results65, go_sem, y0, y1, y2, y3]) rfl ⟨_, _, _, _, rfl, isW_lim (BB1.out), ?_⟩
      repeat (first | exact gW | refine Below.setCell ?_ (by simp; try omega) _)
    · have hRl : R = 115792089237316195423570985008687907853269984665640564039457584007913129639936 - P + l := by have := HRZ.out; rw [if_neg hz0] at this; exact this
      subst hRl
      have hzi : ¬ ((z : Int) = 0) := by omega
      clear hz0
      go_wp2_with fail
      (with_reducible refine (rtop_c _).mono ?_)
      rintro e w6 ⟨v6, rfl, h6, hb1⟩
      have h3 := h3.below hb1
      have gR := gR.below hb1 gR.lt
      have gW := gW.trans (hb1.mono gW.size)
      clear hb1
      have hS := rshl_n (w6.alloc (.cells #[Value.int .u32 1] 56)) (num_one w6) (by omega) B (by omega)
      rw [Nat.one_mul, ← HP.out] at hS
      have h6 := h6.below ((Below.refl _ _).alloc (Nat.le_refl _) (.cells #[Value.int .u32 1] 56))
      have h3 := h3.below ((Below.refl _ _).alloc (Nat.le_refl _) (.cells #[Value.int .u32 1] 56))
      have gR := gR.alloc (.cells #[Value.int .u32 1] 56)
      have gW := gW.alloc gW.size (.cells #[Value.int .u32 1] 56)
      have HS := Lib.hid hS
      clear hS
      go_wp2_with fail
      (with_reducible refine HS.out.mono ?_)
      rintro e w7 ⟨v7, rfl, h7, hb1⟩
      have h3 := h3.below hb1
      have h6 := h6.below hb1
      have gR := gR.below hb1 gR.lt
      have gW := gW.trans (hb1.mono gW.size)
      clear hb1
      go_wp2_with fail
      (with_reducible refine (rsub_n _ h6 h7 (by omega) HPM.out).mono ?_)
      rintro e w8 ⟨v8, rfl, h8, hb1⟩
      have h3 := h3.below hb1
      have gR := gR.below hb1 gR.lt
      have gW := gW.trans (hb1.mono gW.size)
      clear hb1
      clear h6 h7
      go_wp2_with fail
      (with_reducible refine (radd_n _ h8 h3 (by omega) (by omega)).mono ?_)
      rintro e w9 ⟨v9, rfl, h9, hb1⟩
      have gR := gR.below hb1 gR.lt
      have gW := gW.trans (hb1.mono gW.size)
      clear hb1 h8 h3
      go_wp2_with fail
      (with_reducible refine (rW_n _ h9 (by omega)).mono ?_)
      rintro e w10 hw
      rw [HR2.out] at hw
      obtain ⟨rfl, hb1⟩ := hw.val
      have gR := gR.below hb1 gR.lt
      have gW := gW.trans (hb1.mono gW.size)
      clear hb1 hw h9
      obtain ⟨y0, y1, y2, y3⟩ := gR.cells4
      obtain ⟨f0, f1, f2, f3⟩ := gR.free4
      go_wp2_with fail
      refine bodyPost_ret (v := W (115792089237316195423570985008687907853269984665640564039457584007913129639936 - P + l)) (by simp [results, Try.results65, go_sem, y0, y1, y2, y3]) rfl ⟨_, _, _, _, rfl, isW_lim (BB2.out), ?_⟩
      repeat (first | exact gW | refine Below.setCell ?_ (by simp; try omega) _)
  · rw [if_neg h]
    have BA := Lib.hid ha
    by_cases h6 : k < 18446744073709551616
    · have k1 : ∀ w, Calls Try.prog 22 #[.agg #[.int .u64 (lim 0 k : Nat), .int .u64 (lim 1 k : Nat), .int .u64 (lim 2 k : Nat), .int .u64 (lim 3 k : Nat)]] w (RetV (.tuple #[.int .u64 (k : Nat), .bool true]) w) := fun w => small1_t h6 w
      have hg : 31 ≤ (k : Int) := by omega
      have K1 := Lib.hid k1
      clear k1 h h6 hk ha
      go_enter Try.func65, Try.ntmps65
      go_upto_region 1 with (fail)
      obtain ⟨gA, gB, gR, gS, gW⟩ := start3 w 24 (lim 0 k) (lim 1 k) (lim 2 k) (lim 3 k) (lim 0 a) (lim 1 a) (lim 2 a) (lim 3 a) _ rfl
      generalize ((w.alloc (.cells #[.int .u64 (lim 0 k : Nat), .int .u64 (lim 1 k : Nat), .int .u64 (lim 2 k : Nat), .int .u64 (lim 3 k : Nat)] 24)).alloc (.cells #[.int .u64 (lim 0 a : Nat), .int .u64 (lim 1 a : Nat), .int .u64 (lim 2 a : Nat), .int .u64 (lim 3 a : Nat)] 24)).alloc (.cells #[.int .u64 0, .int .u64 0, .int .u64 0, .int .u64 0] 24) = X at *
      clear gS
      obtain ⟨x0, x1, x2, x3⟩ := gA.cells4
      go_wp2_with fail
      (with_reducible refine (K1.out _).mono ?_)
      rintro e w1 ⟨rfl, hb1⟩
      have gA := gA.below hb1 gA.lt
      have gB := gB.below hb1 gB.lt
      have gR := gR.below hb1 gR.lt
      have gW := gW.trans (hb1.mono gW.size)
      clear hb1
      clear x0 x1 x2 x3
      obtain ⟨x0, x1, x2, x3⟩ := gB.cells4
      obtain ⟨y0, y1, y2, y3⟩ := gR.cells4
      obtain ⟨f0, f1, f2, f3⟩ := gR.free4
      go_wp2_with fail
      refine bodyPost_ret (v := W (a)) (by simp [results, Try.results65, go_sem, y0, y1, y2, y3]) rfl ⟨_, _, _, _, rfl, isW_lim (BA.out), ?_⟩
      repeat (first | exact gW | refine Below.setCell ?_ (by simp; try omega) _)
    · have k1 : ∀ w, Calls Try.prog 22 #[.agg #[.int .u64 (lim 0 k : Nat), .int .u64 (lim 1 k : Nat), .int .u64 (lim 2 k : Nat), .int .u64 (lim 3 k : Nat)]] w (RetV (.tuple #[.int .u64 0, .bool false]) w) := fun w => small1_f hk (by omega) w
      have K1 := Lib.hid k1
      clear k1 h h6 hk ha
      go_enter Try.func65, Try.ntmps65
      go_upto_region 1 with (fail)
      obtain ⟨gA, gB, gR, gS, gW⟩ := start3 w 24 (lim 0 k) (lim 1 k) (lim 2 k) (lim 3 k) (lim 0 a) (lim 1 a) (lim 2 a) (lim 3 a) _ rfl
      generalize ((w.alloc (.cells #[.int .u64 (lim 0 k : Nat), .int .u64 (lim 1 k : Nat), .int .u64 (lim 2 k : Nat), .int .u64 (lim 3 k : Nat)] 24)).alloc (.cells #[.int .u64 (lim 0 a : Nat), .int .u64 (lim 1 a : Nat), .int .u64 (lim 2 a : Nat), .int .u64 (lim 3 a : Nat)] 24)).alloc (.cells #[.int .u64 0, .int .u64 0, .int .u64 0, .int .u64 0] 24) = X at *
      clear gS
      obtain ⟨x0, x1, x2, x3⟩ := gA.cells4
      go_wp2_with fail
      (with_reducible refine (K1.out _).mono ?_)
      rintro e w1 ⟨rfl, hb1⟩
      have gA := gA.below hb1 gA.lt
      have gB := gB.below hb1 gB.lt
      have gR := gR.below hb1 gR.lt
      have gW := gW.trans (hb1.mono gW.size)
      clear hb1
      clear x0 x1 x2 x3
      obtain ⟨x0, x1, x2, x3⟩ := gB.cells4
      obtain ⟨y0, y1, y2, y3⟩ := gR.cells4
      obtain ⟨f0, f1, f2, f3⟩ := gR.free4
      go_wp2_with fail
      refine bodyPost_ret (v := W (a)) (by simp [results, Try.results65, go_sem, y0, y1, y2, y3]) rfl ⟨_, _, _, _, rfl, isW_lim (BA.out), ?_⟩
      repeat (first | exact gW | refine Below.setCell ?_ (by simp; try omega) _)
end Go.Proofs.Ytihffojljbgpcaa
