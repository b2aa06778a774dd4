/- Package quarryref17: Words, Log, and what a number's shortest bytes are. -/
import Derived.Test.YtiflfcdegpmhnaaGsBase
import Derived.Test.YtiflfcdegpmhnaaRefW
import Derived.Test.YtiflfcdegpmhnaaRCmp
import Derived.Test.YtiflfcdegpmhnaaRFrom
import Derived.Test.YtiflfcdegpmhnaaShort
import Derived.Test.YtiflfcdegpmhnaaOpsS
import Derived.Test.YtiflfcdegpmhnaaRelSeq
namespace Go.Proofs.Ytiflfcdegpmhnaa
open Go.RowKit

set_option maxRecDepth 100000 in
set_option maxHeartbeats 3200000 in
theorem gs_short1_c {a : Nat} (ha : Big a) (w : World) : Calls Try.prog 44 #[W a] w (RetR (fun w' v => Byt w' v (shortv a)) w) := by
  have gA := Arr.new4 w 24 (lim 0 a) (lim 1 a) (lim 2 a) (lim 3 a)
  have gW := (Below.refl w.heap.size w).alloc (Nat.le_refl _) (.cells #[.int .u64 (lim 0 a : Nat), .int .u64 (lim 1 a : Nat), .int .u64 (lim 2 a : Nat), .int .u64 (lim 3 a : Nat)] 24)
  have kN : ∀ w, Calls Try.prog 37 #[.agg #[.int .u64 (lim 0 a : Nat), .int .u64 (lim 1 a : Nat), .int .u64 (lim 2 a : Nat), .int .u64 (lim 3 a : Nat)]] w (RetR (fun w' v => Num w' v a 8) w) := fun w => rN_c (isW_lim ha) w
  have KN := Lib.hid kN
  have HA := Lib.hid ha
  clear kN ha
  go_enter Try.func44, Try.ntmps44
  go_upto_region 1 with (fail)
  generalize w.alloc (.cells #[.int .u64 (lim 0 a : Nat), .int .u64 (lim 1 a : Nat), .int .u64 (lim 2 a : Nat), .int .u64 (lim 3 a : Nat)] 24) = X at *
  obtain ⟨x0, x1, x2, x3⟩ := gA.cells4
  go_wp2_with fail
  (with_reducible refine (KN.out _).mono ?_)
  rintro e w1 ⟨v1, rfl, h1, hb1⟩
  have gW := Lib.hid (gW.trans (hb1.mono gW.size))
  clear x0 x1 x2 x3 gA hb1
  have hl := Lib.hid (rbytes_n w1 h1 (by omega))
  clear h1
  go_wp2_with fail
  (with_reducible refine hl.out.mono ?_)
  rintro e w2 ⟨v2, rfl, ⟨bs, hby, hcan, _⟩, hb2⟩
  have he : bs = shortv a := by
    have h := hcan.inj (shortv_can HA.out) (by omega)
    rw [← List.reverse_reverse bs, h, List.reverse_reverse]
  subst he
  have HB := Lib.hid hby
  have gW := Lib.hid (gW.out.trans (hb2.mono gW.out.size))
  clear hby hcan hb2 hl
  go_wp2_with fail
  go_ret
  exact ⟨_, rfl, HB.out, gW.out⟩

/-- What so many bytes take, word by word. -/
def wordsV (a e : Nat) : Value := if a ≤ 2199023255552 then .tuple #[.int .u64 (((a + 31) / 32 * e : Nat) : Int), .bool true] else .tuple #[.int .u64 0, .bool false]
/-- What a log takes. -/
def logV (t a : Nat) : Value := if a ≤ 2199023255552 then .tuple #[.int .u64 ((375 * t + 8 * a : Nat) : Int), .bool true] else .tuple #[.int .u64 0, .bool false]

set_option maxRecDepth 100000 in
set_option maxHeartbeats 3200000 in
theorem rwords_c {a e : Nat} (ha : Big a) (he : e ≤ 6) (w : World) : Calls Try.prog 12 #[W a, .int .u64 (e : Nat)] w (RetV (wordsV a e) w) := by
  obtain ⟨V, hV⟩ : ∃ V, V = wordsV a e := ⟨_, rfl⟩
  rw [← hV]
  have HV := Lib.hid hV
  clear hV
  have gA := Arr.new4 w 24 (lim 0 a) (lim 1 a) (lim 2 a) (lim 3 a)
  have gW := (Below.refl w.heap.size w).alloc (Nat.le_refl _) (.cells #[.int .u64 (lim 0 a : Nat), .int .u64 (lim 1 a : Nat), .int .u64 (lim 2 a : Nat), .int .u64 (lim 3 a : Nat)] 24)
  have kN : ∀ w, Calls Try.prog 37 #[.agg #[.int .u64 (lim 0 a : Nat), .int .u64 (lim 1 a : Nat), .int .u64 (lim 2 a : Nat), .int .u64 (lim 3 a : Nat)]] w (RetR (fun w' v => Num w' v a 8) w) := fun w => rN_c (isW_lim ha) w
  have kO : ∀ w, Calls Try.prog 38 #[.int .u64 2199023255552] w (RetR (fun w' v => Num w' v 2199023255552 2) w) := fun w => rof_c 2199023255552 (by omega) w
  have KN := Lib.hid kN
  have KO := Lib.hid kO
  have HA := Lib.hid ha
  have HE := Lib.hid he
  clear kN kO ha he
  go_enter Try.func12, Try.ntmps12
  go_upto_region 1 with (fail)
  generalize w.alloc (.cells #[.int .u64 (lim 0 a : Nat), .int .u64 (lim 1 a : Nat), .int .u64 (lim 2 a : Nat), .int .u64 (lim 3 a : Nat)] 24) = X at *
  have hlt := gA.lt
  obtain ⟨x0, x1, x2, x3⟩ := gA.cells4
  have GA := Lib.hid gA
  have HLT := Lib.hid hlt
  have GW := Lib.hid gW
  clear gA hlt gW
  go_wp2_with fail
  (with_reducible refine (KN.out _).mono ?_)
  rintro e1 w1 ⟨v1, rfl, h1, hb1⟩
  have GA1 := Lib.hid (GA.out.below hb1 HLT.out)
  have GW1 := Lib.hid (GW.out.trans (hb1.mono GW.out.size))
  have H1 := Lib.hid h1
  clear x0 x1 x2 x3 GA HLT GW hb1 h1 KN
  go_wp2_with fail
  (with_reducible refine (KO.out _).mono ?_)
  rintro e2 w2 ⟨v2, rfl, h2, hb2⟩
  have GA2 := Lib.hid (GA1.out.below hb2 GA1.out.lt)
  have GW2 := Lib.hid (GW1.out.trans (hb2.mono GW1.out.size))
  have hc := Lib.hid (rcmp_n w2 (H1.out.below hb2) h2 (by omega))
  clear GA1 GW1 H1 hb2 h2 KO
  obtain ⟨z, hz⟩ : ∃ z, z = ordI a 2199023255552 := ⟨_, rfl⟩
  rw [← hz] at hc
  have HZ := Lib.hid hz
  clear hz
  go_wp2_with fail
  (with_reducible refine hc.out.mono ?_)
  rintro e3 w3 ⟨rfl, n, hw3⟩
  have hcell : w3.cell? ⟨w.heap.size, 0, none⟩ = some (.int .u64 (lim 0 a : Nat)) := by rw [hw3]; exact (GA2.out.drewN n).cells4.1
  have GW3 : Hid (Below w.heap.size w w3) := by rw [hw3]; exact GW2.out.trans ⟨rfl, rfl, rfl, Nat.le_refl _, fun _ _ => rfl⟩
  clear hw3 hc GA2 GW2
  have hV := HV.out
  unfold wordsV at hV
  by_cases c : a ≤ 2199023255552
  · have hz : ¬ 0 < z := by rw [HZ.out]; unfold ordI; split <;> (try split) <;> omega
    have hl : lim 0 a = a := by unfold lim; rw [Nat.pow_zero, Nat.div_one, Nat.mod_eq_of_lt (by omega)]
    rw [hl] at hcell
    rw [if_pos c] at hV
    have e1 : IntKind.u64.wrap ((a : Int) + 31) = ((a + 31 : Nat) : Int) := by rw [IntKind.wrap_u64]; omega
    have e2 : ((a + 31 : Nat) : Int) / 32 = (((a + 31) / 32 : Nat) : Int) := by omega
    have e3 : ((a + 31 : Nat) : Int).tdiv 32 = (((a + 31) / 32 : Nat) : Int) := by rw [Int.tdiv_eq_ediv_of_nonneg (by omega)]; omega
    have hm : (a + 31) / 32 * e ≤ (a + 31) / 32 * 6 := Nat.mul_le_mul_left _ HE.out
    have e5 : IntKind.u64.wrap (((a + 31) / 32 : Nat) : Int) = (((a + 31) / 32 : Nat) : Int) := by rw [IntKind.wrap_u64]; omega
    obtain ⟨q, hq⟩ : ∃ q, q = (a + 31) / 32 := ⟨_, rfl⟩
    rw [← hq] at e2 e3 e5 hm hV
    have e4 : IntKind.u64.wrap ((q : Int) * (e : Int)) = ((q * e : Nat) : Int) := by rw [IntKind.wrap_u64]; rw [← Int.natCast_mul]; omega
    obtain ⟨r, hr⟩ : ∃ r, r = q * e := ⟨_, rfl⟩
    rw [← hr] at e4 hm hV
    replace HV := Lib.hid hV
    obtain ⟨s, hs⟩ : ∃ s, s = a + 31 := ⟨_, rfl⟩
    rw [← hs] at e1 e2 e3
    clear hq hr hs hm c hl HZ HA hV
    go_wp2_with fail
    exact bodyPost_ret (v := .tuple #[.int .u64 (r : Nat), .bool true]) (by simp [results, Try.results12, go_sem]) rfl ⟨by rw [HV.out], GW3.out⟩
  · have hz : 0 < z := by rw [HZ.out]; unfold ordI; split <;> (try split) <;> omega
    rw [if_neg c] at hV
    replace HV := Lib.hid hV
    clear hV
    clear c HZ HA hcell
    go_wp2_with fail
    exact bodyPost_ret (v := .tuple #[.int .u64 0, .bool false]) (by simp [results, Try.results12, go_sem]) rfl ⟨by rw [HV.out], GW3.out⟩
set_option maxRecDepth 100000 in
set_option maxHeartbeats 3200000 in
theorem rlog_c {a e : Nat} (ha : Big a) (he : e ≤ 4) (w : World) : Calls Try.prog 14 #[.int .i64 (e : Nat), W a] w (RetV (logV e a) w) := by
  obtain ⟨V, hV⟩ : ∃ V, V = logV e a := ⟨_, rfl⟩
  rw [← hV]
  have HV := Lib.hid hV
  clear hV
  have gA := Arr.new4 w 24 (lim 0 a) (lim 1 a) (lim 2 a) (lim 3 a)
  have gW := (Below.refl w.heap.size w).alloc (Nat.le_refl _) (.cells #[.int .u64 (lim 0 a : Nat), .int .u64 (lim 1 a : Nat), .int .u64 (lim 2 a : Nat), .int .u64 (lim 3 a : Nat)] 24)
  have kN : ∀ w, Calls Try.prog 37 #[.agg #[.int .u64 (lim 0 a : Nat), .int .u64 (lim 1 a : Nat), .int .u64 (lim 2 a : Nat), .int .u64 (lim 3 a : Nat)]] w (RetR (fun w' v => Num w' v a 8) w) := fun w => rN_c (isW_lim ha) w
  have kO : ∀ w, Calls Try.prog 38 #[.int .u64 2199023255552] w (RetR (fun w' v => Num w' v 2199023255552 2) w) := fun w => rof_c 2199023255552 (by omega) w
  have KN := Lib.hid kN
  have KO := Lib.hid kO
  have HA := Lib.hid ha
  have HE := Lib.hid he
  clear kN kO ha he
  go_enter Try.func14, Try.ntmps14
  go_upto_region 1 with (fail)
  generalize w.alloc (.cells #[.int .u64 (lim 0 a : Nat), .int .u64 (lim 1 a : Nat), .int .u64 (lim 2 a : Nat), .int .u64 (lim 3 a : Nat)] 24) = X at *
  have hlt := gA.lt
  obtain ⟨x0, x1, x2, x3⟩ := gA.cells4
  have GA := Lib.hid gA
  have HLT := Lib.hid hlt
  have GW := Lib.hid gW
  clear gA hlt gW
  go_wp2_with fail
  (with_reducible refine (KN.out _).mono ?_)
  rintro e1 w1 ⟨v1, rfl, h1, hb1⟩
  have GA1 := Lib.hid (GA.out.below hb1 HLT.out)
  have GW1 := Lib.hid (GW.out.trans (hb1.mono GW.out.size))
  have H1 := Lib.hid h1
  clear x0 x1 x2 x3 GA HLT GW hb1 h1 KN
  go_wp2_with fail
  (with_reducible refine (KO.out _).mono ?_)
  rintro e2 w2 ⟨v2, rfl, h2, hb2⟩
  have GA2 := Lib.hid (GA1.out.below hb2 GA1.out.lt)
  have GW2 := Lib.hid (GW1.out.trans (hb2.mono GW1.out.size))
  have hc := Lib.hid (rcmp_n w2 (H1.out.below hb2) h2 (by omega))
  clear GA1 GW1 H1 hb2 h2 KO
  obtain ⟨z, hz⟩ : ∃ z, z = ordI a 2199023255552 := ⟨_, rfl⟩
  rw [← hz] at hc
  have HZ := Lib.hid hz
  clear hz
  go_wp2_with fail
  (with_reducible refine hc.out.mono ?_)
  rintro e3 w3 ⟨rfl, n, hw3⟩
  have hcell : w3.cell? ⟨w.heap.size, 0, none⟩ = some (.int .u64 (lim 0 a : Nat)) := by rw [hw3]; exact (GA2.out.drewN n).cells4.1
  have GW3 : Hid (Below w.heap.size w w3) := by rw [hw3]; exact GW2.out.trans ⟨rfl, rfl, rfl, Nat.le_refl _, fun _ _ => rfl⟩
  clear hw3 hc GA2 GW2
  have hV := HV.out
  unfold logV at hV
  by_cases c : a ≤ 2199023255552
  · have hz : ¬ 0 < z := by rw [HZ.out]; unfold ordI; split <;> (try split) <;> omega
    have hl : lim 0 a = a := by unfold lim; rw [Nat.pow_zero, Nat.div_one, Nat.mod_eq_of_lt (by omega)]
    rw [hl] at hcell
    rw [if_pos c] at hV
    have he := HE.out
    have e0 : IntKind.u64.wrap (e : Int) = (e : Int) := by rw [IntKind.wrap_u64]; omega
    have e1 : IntKind.u64.wrap (375 * (e : Int)) = ((375 * e : Nat) : Int) := by rw [IntKind.wrap_u64]; omega
    have e2 : IntKind.u64.wrap (8 * (a : Int)) = ((8 * a : Nat) : Int) := by rw [IntKind.wrap_u64]; omega
    obtain ⟨q, hq⟩ : ∃ q, q = 375 * e := ⟨_, rfl⟩
    obtain ⟨s, hs⟩ : ∃ s, s = 8 * a := ⟨_, rfl⟩
    rw [← hq] at e1 hV
    rw [← hs] at e2 hV
    have e3 : IntKind.u64.wrap ((q : Int) + (s : Int)) = ((q + s : Nat) : Int) := by rw [IntKind.wrap_u64]; omega
    obtain ⟨r, hr⟩ : ∃ r, r = q + s := ⟨_, rfl⟩
    rw [← hr] at e3 hV
    replace HV := Lib.hid hV
    clear hq hr hs he c hl HZ HA hV
    go_wp2_with fail
    exact bodyPost_ret (v := .tuple #[.int .u64 (r : Nat), .bool true]) (by simp [results, Try.results14, go_sem]) rfl ⟨by rw [HV.out], GW3.out⟩
  · have hz : 0 < z := by rw [HZ.out]; unfold ordI; split <;> (try split) <;> omega
    rw [if_neg c] at hV
    replace HV := Lib.hid hV
    clear hV
    clear c HZ HA hcell
    go_wp2_with fail
    exact bodyPost_ret (v := .tuple #[.int .u64 0, .bool false]) (by simp [results, Try.results14, go_sem]) rfl ⟨by rw [HV.out], GW3.out⟩

/-- What a power takes: so much for each byte of its exponent. -/
def expZ (b : Int) (a : Nat) : Int := IntKind.u64.wrap (b * ((shortv a).length : Nat))
end Go.Proofs.Ytiflfcdegpmhnaa
