/- Package gas: Store. (Written by wip/gengcst.py.) -/
import Derived.Test.YtiflfcdegpmhnaaGcLeaf
import Derived.Test.YtiflfcdegpmhnaaGsStore
import Derived.Deep.MidRow
namespace Go.Proofs.Ytiflfcdegpmhnaa
open Go.RowKit

/-- A write to the storage lies in a block. -/
def StAt (w : World) (g : Nat) (o c n : Nat) (warm : Bool) (left : Nat) : Prop := w.heap[g]? = some (.cells (StC o c n warm left) 41 (0, 0))
section
variable {w v : World} {g B o c n left : Nat} {warm : Bool}
theorem StAt.lt (h : StAt w g o c n warm left) : g < w.heap.size := by
  rcases Nat.lt_or_ge g w.heap.size with hlt | hge
  · exact hlt
  · unfold StAt at h; rw [Array.getElem?_eq_none hge] at h; cases h
theorem StAt.below (h : StAt w g o c n warm left) (hb : Below B w v) (hg : g < B) : StAt v g o c n warm left := (hb.block g hg).trans h
theorem StAt.co (h : StAt w g o c n warm left) : w.cell? ⟨g, 0, none⟩ = some (.int .u64 (lim 0 o : Nat)) ∧ w.cell? ⟨g, 1, none⟩ = some (.int .u64 (lim 1 o : Nat)) ∧ w.cell? ⟨g, 2, none⟩ = some (.int .u64 (lim 2 o : Nat)) ∧ w.cell? ⟨g, 3, none⟩ = some (.int .u64 (lim 3 o : Nat)) :=
  ⟨by rw [cell_of_row _ _ 0 _ _ (0, 0) h]; rfl, by rw [cell_of_row _ _ 1 _ _ (0, 0) h]; rfl, by rw [cell_of_row _ _ 2 _ _ (0, 0) h]; rfl, by rw [cell_of_row _ _ 3 _ _ (0, 0) h]; rfl⟩
theorem StAt.cc (h : StAt w g o c n warm left) : w.cell? ⟨g, 4, none⟩ = some (.int .u64 (lim 0 c : Nat)) ∧ w.cell? ⟨g, 5, none⟩ = some (.int .u64 (lim 1 c : Nat)) ∧ w.cell? ⟨g, 6, none⟩ = some (.int .u64 (lim 2 c : Nat)) ∧ w.cell? ⟨g, 7, none⟩ = some (.int .u64 (lim 3 c : Nat)) :=
  ⟨by rw [cell_of_row _ _ 4 _ _ (0, 0) h]; rfl, by rw [cell_of_row _ _ 5 _ _ (0, 0) h]; rfl, by rw [cell_of_row _ _ 6 _ _ (0, 0) h]; rfl, by rw [cell_of_row _ _ 7 _ _ (0, 0) h]; rfl⟩
theorem StAt.cn (h : StAt w g o c n warm left) : w.cell? ⟨g, 8, none⟩ = some (.int .u64 (lim 0 n : Nat)) ∧ w.cell? ⟨g, 9, none⟩ = some (.int .u64 (lim 1 n : Nat)) ∧ w.cell? ⟨g, 10, none⟩ = some (.int .u64 (lim 2 n : Nat)) ∧ w.cell? ⟨g, 11, none⟩ = some (.int .u64 (lim 3 n : Nat)) :=
  ⟨by rw [cell_of_row _ _ 8 _ _ (0, 0) h]; rfl, by rw [cell_of_row _ _ 9 _ _ (0, 0) h]; rfl, by rw [cell_of_row _ _ 10 _ _ (0, 0) h]; rfl, by rw [cell_of_row _ _ 11 _ _ (0, 0) h]; rfl⟩
theorem StAt.cw (h : StAt w g o c n warm left) : w.cell? ⟨g, 12, none⟩ = some (.bool warm) := by rw [cell_of_row _ _ 12 _ _ (0, 0) h]; rfl
theorem StAt.cl (h : StAt w g o c n warm left) : w.cell? ⟨g, 13, none⟩ = some (.int .u64 (left : Nat)) := by rw [cell_of_row _ _ 13 _ _ (0, 0) h]; rfl
end
theorem infoStore : (Try.prog.info? 41).map (·.size) = some 14 := by kernel_rfl
theorem RulesAt.c16 {w : World} {g : Nat} {f : Int} {k : Nat → Int} (h : RulesAt w g f k) : w.cell? ⟨g, 16, none⟩ = some (.int .u64 (k 16)) := by rw [cell_of_row _ _ 16 _ _ (0, 0) h]; rfl
theorem start_st (w : World) (f : Int) (k : Nat → Int) (o c n : Nat) (warm : Bool) (left : Nat) (X : World) (hX : X = (w.alloc (.cells (RulesK f k) 26)).alloc (.cells (StC o c n warm left) 41)) :
    RulesAt X w.heap.size f k ∧ StAt X (w.heap.size + 1) o c n warm left ∧ Below w.heap.size w X := by
  refine ⟨?_, ?_, ?_⟩
  · rw [hX]; exact (RulesAt.new w f k).alloc _
  · rw [hX]
    have h := heap_alloc_new (w.alloc (.cells (RulesK f k) 26)) (.cells (StC o c n warm left) 41)
    rw [show (w.alloc (.cells (RulesK f k) 26)).heap.size = w.heap.size + 1 by simp] at h; exact h
  · rw [hX]; exact ((Below.refl _ _).alloc (Nat.le_refl _) _).alloc (by simp) _
/-- What a write adds for a place that has nothing any more. -/
def clrZ (b : Int) (cz nz : Bool) : Int := if !cz && nz then b else 0

set_option maxRecDepth 100000 in
set_option maxHeartbeats 12800000 in
theorem cleared_c (f : Int) (k : Nat → Int) {o c n left : Nat} {warm : Bool} (ho : Big o) (hc : Big c) (hn : Big n) (w : World) : Calls Try.prog 73 #[.agg (RulesK f k), .agg (StC o c n warm left)] w (RetV (.int .u64 (clrZ (k 22) (decide (c = 0)) (decide (n = 0)))) w) := by
  obtain ⟨X, hX⟩ : ∃ X, X = (w.alloc (.cells (RulesK f k) 26)).alloc (.cells (StC o c n warm left) 41) := ⟨_, rfl⟩
  obtain ⟨hR, hS, hB⟩ := start_st w f k o c n warm left X hX
  have HR := Lib.hid hR
  have HS := Lib.hid hS
  have HB := Lib.hid hB
  have HX := Lib.hid hX
  have KC : Hid (∀ v, Calls Try.prog 72 #[.agg #[.int .u64 (lim 0 c : Nat), .int .u64 (lim 1 c : Nat), .int .u64 (lim 2 c : Nat), .int .u64 (lim 3 c : Nat)]] v (RetV (.bool (decide (c = 0))) v)) := fun v => isZero_c hc v
  have KN : Hid (∀ v, Calls Try.prog 72 #[.agg #[.int .u64 (lim 0 n : Nat), .int .u64 (lim 1 n : Nat), .int .u64 (lim 2 n : Nat), .int .u64 (lim 3 n : Nat)]] v (RetV (.bool (decide (n = 0))) v)) := fun v => isZero_c hn v
  have KO : Hid (∀ v, Calls Try.prog 72 #[.agg #[.int .u64 (lim 0 o : Nat), .int .u64 (lim 1 o : Nat), .int .u64 (lim 2 o : Nat), .int .u64 (lim 3 o : Nat)]] v (RetV (.bool (decide (o = 0))) v)) := fun v => isZero_c ho v
  clear hX hR hS hB
  clear KO ho hc hn
  generalize decide (c = 0) = cz at *
  generalize decide (n = 0) = nz at *
  go_enter Try.func73, Try.ntmps73
  go_upto_region 1 with (fail)
  rw [show (w.alloc (.cells (RulesK f k) 26)).alloc (.cells (StC o c n warm left) 41) = X from HX.out.symm]
  clear HX
  obtain ⟨x0, x1, x2, x3⟩ := HS.out.cc
  go_wp2_with fail
  (with_reducible refine (KC.out _).mono ?_)
  rintro e1 w1 ⟨rfl, hb1⟩
  replace HB := Lib.hid (HB.out.trans (hb1.mono HB.out.size))
  replace HR := Lib.hid (HR.out.below hb1 HR.out.lt)
  replace HS := Lib.hid (HS.out.below hb1 HS.out.lt)
  clear hb1
  clear x0 x1 x2 x3 KC
  cases cz with
  | true =>
    go_wp2_with fail
    go_ret
    exact ⟨rfl, HB.out⟩
  | false =>
  obtain ⟨x0, x1, x2, x3⟩ := HS.out.cn
  go_wp2_with fail
  (with_reducible refine (KN.out _).mono ?_)
  rintro e2 w2 ⟨rfl, hb2⟩
  replace HB := Lib.hid (HB.out.trans (hb2.mono HB.out.size))
  replace HR := Lib.hid (HR.out.below hb2 HR.out.lt)
  replace HS := Lib.hid (HS.out.below hb2 HS.out.lt)
  clear hb2
  clear x0 x1 x2 x3 KN
  have r22 := HR.out.c22
  cases nz with
  | true =>
    go_wp2_with fail
    go_ret
    exact ⟨rfl, HB.out⟩
  | false =>
    go_wp2_with fail
    go_ret
    exact ⟨rfl, HB.out⟩

/-- What a write takes and adds by itself. -/
def aloneV (b : Int) (cz nz : Bool) : Value := if cz && !nz then .tuple #[.int .u64 20000, .int .u64 0] else .tuple #[.int .u64 5000, .int .u64 (clrZ b cz nz)]
set_option maxRecDepth 100000 in
set_option maxHeartbeats 12800000 in
theorem alone_c (f : Int) (k : Nat → Int) {o c n left : Nat} {warm : Bool} (ho : Big o) (hc : Big c) (hn : Big n) (w : World) : Calls Try.prog 50 #[.agg (RulesK f k), .agg (StC o c n warm left)] w (RetV (aloneV (k 22) (decide (c = 0)) (decide (n = 0))) w) := by
  obtain ⟨X, hX⟩ : ∃ X, X = (w.alloc (.cells (RulesK f k) 26)).alloc (.cells (StC o c n warm left) 41) := ⟨_, rfl⟩
  obtain ⟨hR, hS, hB⟩ := start_st w f k o c n warm left X hX
  have HR := Lib.hid hR
  have HS := Lib.hid hS
  have HB := Lib.hid hB
  have HX := Lib.hid hX
  have KC : Hid (∀ v, Calls Try.prog 72 #[.agg #[.int .u64 (lim 0 c : Nat), .int .u64 (lim 1 c : Nat), .int .u64 (lim 2 c : Nat), .int .u64 (lim 3 c : Nat)]] v (RetV (.bool (decide (c = 0))) v)) := fun v => isZero_c hc v
  have KN : Hid (∀ v, Calls Try.prog 72 #[.agg #[.int .u64 (lim 0 n : Nat), .int .u64 (lim 1 n : Nat), .int .u64 (lim 2 n : Nat), .int .u64 (lim 3 n : Nat)]] v (RetV (.bool (decide (n = 0))) v)) := fun v => isZero_c hn v
  have KO : Hid (∀ v, Calls Try.prog 72 #[.agg #[.int .u64 (lim 0 o : Nat), .int .u64 (lim 1 o : Nat), .int .u64 (lim 2 o : Nat), .int .u64 (lim 3 o : Nat)]] v (RetV (.bool (decide (o = 0))) v)) := fun v => isZero_c ho v
  clear hX hR hS hB
  have KL : Hid (∀ v, Calls Try.prog 73 #[.agg (RulesK f k), .agg (StC o c n warm left)] v (RetV (.int .u64 (clrZ (k 22) (decide (c = 0)) (decide (n = 0)))) v)) := fun v => cleared_c f k ho hc hn v
  clear KO ho hc hn
  generalize decide (c = 0) = cz at *
  generalize decide (n = 0) = nz at *
  obtain ⟨z, hz⟩ : ∃ z, z = clrZ (k 22) cz nz := ⟨_, rfl⟩
  obtain ⟨V, hV⟩ : ∃ V, V = aloneV (k 22) cz nz := ⟨_, rfl⟩
  rw [← hV]
  unfold aloneV at hV
  rw [← hz] at KL hV
  have HV := Lib.hid hV
  clear hz hV
  go_enter Try.func50, Try.ntmps50
  go_upto_region 1 with (fail)
  rw [show (w.alloc (.cells (RulesK f k) 26)).alloc (.cells (StC o c n warm left) 41) = X from HX.out.symm]
  clear HX
  obtain ⟨x0, x1, x2, x3⟩ := HS.out.cc
  go_wp2_with fail
  (with_reducible refine (KC.out _).mono ?_)
  rintro e1 w1 ⟨rfl, hb1⟩
  replace HB := Lib.hid (HB.out.trans (hb1.mono HB.out.size))
  replace HR := Lib.hid (HR.out.below hb1 HR.out.lt)
  replace HS := Lib.hid (HS.out.below hb1 HS.out.lt)
  clear hb1
  clear x0 x1 x2 x3 KC
  have last : True := trivial
  cases cz with
  | true =>
    obtain ⟨x0, x1, x2, x3⟩ := HS.out.cn
    go_wp2_with fail
    (with_reducible refine (KN.out _).mono ?_)
    rintro e2 w2 ⟨rfl, hb2⟩
    replace HB := Lib.hid (HB.out.trans (hb2.mono HB.out.size))
    replace HR := Lib.hid (HR.out.below hb2 HR.out.lt)
    replace HS := Lib.hid (HS.out.below hb2 HS.out.lt)
    clear hb2
    clear x0 x1 x2 x3 KN
    cases nz with
    | false =>
      go_wp2_with fail
      exact bodyPost_ret (v := .tuple #[.int .u64 20000, .int .u64 0]) (by simp [results, Try.results50, go_sem]) rfl ⟨by rw [HV.out]; rfl, HB.out⟩
    | true =>
      go_upto_region 3 with (fail)
      refine wp_region_lit ?_
      refine wpList_load_row rfl 26 (.tmp 2) rfl w.heap.size rfl 26 _ (0, 0) _ HR.out Try.underlying26 rfl infoRules ?_
      refine wpList_load_row rfl 41 (.tmp 3) rfl (w.heap.size + 1) rfl 41 _ (0, 0) _ HS.out Try.underlying41 rfl (by rw [infoStore]; rfl) ?_
      go_simp
      go_wp2_with fail
      (with_reducible refine (KL.out _).mono ?_)
      rintro e3 w3 ⟨rfl, hb3⟩
      go_wp2_with fail
      exact bodyPost_ret (v := .tuple #[.int .u64 5000, .int .u64 z]) (by simp [results, Try.results50, go_sem]) rfl ⟨by rw [HV.out]; rfl, HB.out.trans (hb3.mono HB.out.size)⟩
  | false =>
    go_upto_region 3 with (fail)
    refine wp_region_lit ?_
    refine wpList_load_row rfl 26 (.tmp 2) rfl w.heap.size rfl 26 _ (0, 0) _ HR.out Try.underlying26 rfl infoRules ?_
    refine wpList_load_row rfl 41 (.tmp 3) rfl (w.heap.size + 1) rfl 41 _ (0, 0) _ HS.out Try.underlying41 rfl (by rw [infoStore]; rfl) ?_
    go_simp
    go_wp2_with fail
    (with_reducible refine (KL.out _).mono ?_)
    rintro e3 w3 ⟨rfl, hb3⟩
    go_wp2_with fail
    exact bodyPost_ret (v := .tuple #[.int .u64 5000, .int .u64 z]) (by simp [results, Try.results50, go_sem]) rfl ⟨by rw [HV.out]; rfl, HB.out.trans (hb3.mono HB.out.size)⟩

/-- A fork's rates. -/
def rA (f : Int) : Int := if 9 ≤ f then 100 else if 7 ≤ f then 800 else 200
def rC (f : Int) : Int := if 9 ≤ f then 2900 else 5000
def ratesC (f : Int) : Array Value := #[.int .u64 20000, .int .u64 (rC f), .int .u64 (rA f)]
theorem rates_bound (f : Int) : 0 ≤ rA f ∧ rA f ≤ 800 ∧ 1000 ≤ rC f ∧ rC f ≤ 5000 := by unfold rA rC; (repeat' split) <;> omega
theorem infoRates : (Try.prog.info? 112).map (·.size) = some 3 := by kernel_rfl
set_option maxRecDepth 100000 in
set_option maxHeartbeats 12800000 in
theorem ratesOf_c (f : Int) (w : World) : Calls Try.prog 74 #[.int .i64 f] w (RetV (.agg (ratesC f)) w) := by
  have HN : ∀ a b c : Int, Hid ((w.alloc (.cells #[.int .u64 a, .int .u64 b, .int .u64 c] 112)).heap[w.heap.size]? = some (.cells #[.int .u64 a, .int .u64 b, .int .u64 c] 112 (0, 0))) := fun a b c => heap_alloc_new w _
  have HB : ∀ a b c : Int, Hid (Below w.heap.size w (w.alloc (.cells #[.int .u64 a, .int .u64 b, .int .u64 c] 112))) := fun a b c => (Below.refl _ _).alloc (Nat.le_refl _) _
  by_cases h9 : 9 ≤ f
  · have e : ratesC f = #[.int .u64 20000, .int .u64 2900, .int .u64 100] := by unfold ratesC rA rC; rw [if_pos h9, if_pos h9]
    rw [e]
    go_enter Try.func74, Try.ntmps74
    go_wp2_with fail
    exact bodyPost_ret (v := .agg #[.int .u64 20000, .int .u64 2900, .int .u64 100]) (results_cell_row Try.results74 _ _ w.heap.size 112 _ (0, 0) _ rfl (HN 20000 2900 100).out Try.underlying112 rfl infoRates) rfl ⟨rfl, (HB 20000 2900 100).out⟩
  · by_cases h7 : 7 ≤ f
    · have e : ratesC f = #[.int .u64 20000, .int .u64 5000, .int .u64 800] := by unfold ratesC rA rC; rw [if_neg h9, if_neg h9, if_pos h7]
      rw [e]
      go_enter Try.func74, Try.ntmps74
      go_wp2_with fail
      exact bodyPost_ret (v := .agg #[.int .u64 20000, .int .u64 5000, .int .u64 800]) (results_cell_row Try.results74 _ _ w.heap.size 112 _ (0, 0) _ rfl (HN 20000 5000 800).out Try.underlying112 rfl infoRates) rfl ⟨rfl, (HB 20000 5000 800).out⟩
    · have e : ratesC f = #[.int .u64 20000, .int .u64 5000, .int .u64 200] := by unfold ratesC rA rC; rw [if_neg h9, if_neg h9, if_neg h7]
      rw [e]
      go_enter Try.func74, Try.ntmps74
      go_wp2_with fail
      exact bodyPost_ret (v := .agg #[.int .u64 20000, .int .u64 5000, .int .u64 200]) (results_cell_row Try.results74 _ _ w.heap.size 112 _ (0, 0) _ rfl (HN 20000 5000 200).out Try.underlying112 rfl infoRates) rfl ⟨rfl, (HB 20000 5000 200).out⟩

set_option maxRecDepth 100000 in
set_option maxHeartbeats 12800000 in
theorem first_c (a d : Int) {o : Nat} (ho : Big o) (w : World) : Calls Try.prog 75 #[.agg #[.int .u64 20000, .int .u64 d, .int .u64 a], W o] w (RetV (.int .u64 (if decide (o = 0) = true then 20000 else d)) w) := by
  obtain ⟨X, hX⟩ : ∃ X, X = (w.alloc (.cells #[.int .u64 20000, .int .u64 d, .int .u64 a] 112)).alloc (.cells #[.int .u64 (lim 0 o : Nat), .int .u64 (lim 1 o : Nat), .int .u64 (lim 2 o : Nat), .int .u64 (lim 3 o : Nat)] 24) := ⟨_, rfl⟩
  have HA : Hid (Arr X (w.heap.size + 1) 24 [lim 0 o, lim 1 o, lim 2 o, lim 3 o]) := by
    rw [hX]; have h := Arr.new4 (w.alloc (.cells #[.int .u64 20000, .int .u64 d, .int .u64 a] 112)) 24 (lim 0 o) (lim 1 o) (lim 2 o) (lim 3 o); rw [show (w.alloc (.cells #[.int .u64 20000, .int .u64 d, .int .u64 a] 112)).heap.size = w.heap.size + 1 by simp] at h; exact h
  have HG : Hid (X.heap[w.heap.size]? = some (.cells #[.int .u64 20000, .int .u64 d, .int .u64 a] 112 (0, 0))) := by
    rw [hX, Below.heap_alloc _ _ _ (by simp)]; exact heap_alloc_new w _
  have HL : Hid (w.heap.size < X.heap.size) := by rw [hX]; exact (by simp; omega : w.heap.size < ((w.alloc (.cells #[.int .u64 20000, .int .u64 d, .int .u64 a] 112)).alloc (.cells #[.int .u64 (lim 0 o : Nat), .int .u64 (lim 1 o : Nat), .int .u64 (lim 2 o : Nat), .int .u64 (lim 3 o : Nat)] 24)).heap.size)
  have HB : Hid (Below w.heap.size w X) := by rw [hX]; exact ((Below.refl _ _).alloc (Nat.le_refl _) _).alloc (by simp) _
  have KO : Hid (∀ v, Calls Try.prog 72 #[.agg #[.int .u64 (lim 0 o : Nat), .int .u64 (lim 1 o : Nat), .int .u64 (lim 2 o : Nat), .int .u64 (lim 3 o : Nat)]] v (RetV (.bool (decide (o = 0))) v)) := fun v => isZero_c ho v
  have HX := Lib.hid hX
  clear hX ho
  generalize decide (o = 0) = oz at *
  obtain ⟨z, hz⟩ : ∃ z, z = if oz = true then 20000 else d := ⟨_, rfl⟩
  rw [← hz]
  have HZ := Lib.hid hz
  clear hz
  go_enter Try.func75, Try.ntmps75
  go_upto_region 1 with (fail)
  rw [show (w.alloc (.cells #[.int .u64 20000, .int .u64 d, .int .u64 a] 112)).alloc (.cells #[.int .u64 (lim 0 o : Nat), .int .u64 (lim 1 o : Nat), .int .u64 (lim 2 o : Nat), .int .u64 (lim 3 o : Nat)] 24) = X from HX.out.symm]
  clear HX
  obtain ⟨x0, x1, x2, x3⟩ := HA.out.cells4
  go_wp2_with fail
  (with_reducible refine (KO.out _).mono ?_)
  rintro e1 w1 ⟨rfl, hb1⟩
  have hg := (hb1.block w.heap.size HL.out).trans HG.out
  have g0 : w1.cell? ⟨w.heap.size, 0, none⟩ = some (.int .u64 20000) := by rw [cell_of_row _ _ 0 _ _ (0, 0) hg]; rfl
  have g1 : w1.cell? ⟨w.heap.size, 1, none⟩ = some (.int .u64 d) := by rw [cell_of_row _ _ 1 _ _ (0, 0) hg]; rfl
  have HB1 := Lib.hid (HB.out.trans (hb1.mono HB.out.size))
  clear x0 x1 x2 x3 KO hb1 hg HA HG HL HB
  cases oz with
  | true =>
    go_wp2_with fail
    go_ret
    exact ⟨by rw [HZ.out]; rfl, HB1.out⟩
  | false =>
    go_wp2_with fail
    go_ret
    exact ⟨by rw [HZ.out]; rfl, HB1.out⟩
end Go.Proofs.Ytiflfcdegpmhnaa
namespace Go.Proofs.Ytiflfcdegpmhnaa
open Go.RowKit

/-- What a write takes, adds and takes from the refund as one of the writes of a transaction. -/
def amV (a d b : Int) (cn oc oz nz cz on : Bool) : Value :=
  if cn then .tuple #[.int .u64 a, .int .u64 0, .int .u64 0] else
  if oc then .tuple #[.int .u64 (if oz then 20000 else d), .int .u64 (clrZ b cz nz), .int .u64 0] else
  .tuple #[.int .u64 a, .int .u64 ((if oz then 0 else clrZ b cz nz) + (if on then (if oz then 20000 else d) - a else 0)), .int .u64 (if !oz && cz then b else 0)]
/-- A fork's rates lie in a block. -/
def RatesAt (w : World) (g : Nat) (d a : Int) : Prop := w.heap[g]? = some (.cells #[.int .u64 20000, .int .u64 d, .int .u64 a] 112 (0, 0))
section
variable {w v : World} {g B : Nat} {d a : Int}
theorem RatesAt.lt (h : RatesAt w g d a) : g < w.heap.size := by
  rcases Nat.lt_or_ge g w.heap.size with hlt | hge
  · exact hlt
  · unfold RatesAt at h; rw [Array.getElem?_eq_none hge] at h; cases h
theorem RatesAt.below (h : RatesAt w g d a) (hb : Below B w v) (hg : g < B) : RatesAt v g d a := (hb.block g hg).trans h
theorem RatesAt.c2 (h : RatesAt w g d a) : w.cell? ⟨g, 2, none⟩ = some (.int .u64 a) := by rw [cell_of_row _ _ 2 _ _ (0, 0) h]; rfl
theorem RatesAt.load (h : RatesAt w g d a) : (Instr.loadAt 112 (.pointer (some ⟨g, 0, none⟩))).run Try.prog w = .ok (.agg #[.int .u64 20000, .int .u64 d, .int .u64 a]) w := by
  have h1 : w.heap[g]? = some (.cells #[.int .u64 20000, .int .u64 d, .int .u64 a] 112 (0, 0)) := h
  simp only [Instr.loadAt, Instr.sureAddr, Sem.run_bind, Sem.run_pure, Result.andThen_ok]
  exact run_loadVar_row w _ _ _ #[.int .u64 20000, .int .u64 d, .int .u64 a] (0, 0) _ h1 Try.underlying112 rfl infoRates
end
theorem StAt.load {w : World} {g o c n left : Nat} {warm : Bool} (h : StAt w g o c n warm left) : (Instr.loadAt 41 (.pointer (some ⟨g, 0, none⟩))).run Try.prog w = .ok (.agg (StC o c n warm left)) w := by
  have h1 : w.heap[g]? = some (.cells (StC o c n warm left) 41 (0, 0)) := h
  simp only [Instr.loadAt, Instr.sureAddr, Sem.run_bind, Sem.run_pure, Result.andThen_ok]
  exact run_loadVar_row w _ _ _ (StC o c n warm left) (0, 0) _ h1 Try.underlying41 rfl (by rw [infoStore]; rfl)
section
variable {ops : Array Oper} {T : Facts} {o : Oper} {a : Act} {w : World}
theorem gc_faS0 {g : Nat} (x : Operand) (ho : o.op = .fieldAddr 41 x 0) (hx : a.eval x = .pointer (some ⟨g, 0, none⟩)) (hw : Region.wanted o (yielded ops a.tmps) = true) (hf : factTo T o.dst (.pointer (some ⟨g, 0, none⟩)) w) : relStep Try.prog ops T o a w :=
  relStep_val (.pointer (some ⟨g, 0, none⟩)) hw hf (by
    unfold execOp
    rw [ho]
    simp only [hx]
    go_simp)
theorem gc_faT2 {g : Nat} (x : Operand) (ho : o.op = .fieldAddr 112 x 2) (hx : a.eval x = .pointer (some ⟨g, 0, none⟩)) (hw : Region.wanted o (yielded ops a.tmps) = true) (hf : factTo T o.dst (.pointer (some ⟨g, 2, none⟩)) w) : relStep Try.prog ops T o a w :=
  relStep_val (.pointer (some ⟨g, 2, none⟩)) hw hf (by
    unfold execOp
    rw [ho]
    simp only [hx]
    go_simp)
end
theorem en_gcFirst (args : Array Value) (w : World) : (callFunc 75 args).run Try.prog w = .ok (.enter 75 args) w := by go_simp
theorem en_gcCleared (args : Array Value) (w : World) : (callFunc 73 args).run Try.prog w = .ok (.enter 73 args) w := by go_simp

set_option maxRecDepth 100000 in
set_option maxHeartbeats 12800000 in
theorem among_c (f : Int) (k : Nat → Int) {o c n left : Nat} {warm : Bool} (hk0 : 0 ≤ k 22) (hk1 : k 22 ≤ 1000000) (ho : Big o) (hc : Big c) (hn : Big n) (w : World) : Calls Try.prog 51 #[.agg (RulesK f k), .agg (StC o c n warm left)] w (RetV (amV (rA f) (rC f) (k 22) (decide (c = n)) (decide (o = c)) (decide (o = 0)) (decide (n = 0)) (decide (c = 0)) (decide (o = n))) w) := by
  obtain ⟨X, hX⟩ : ∃ X, X = (w.alloc (.cells (RulesK f k) 26)).alloc (.cells (StC o c n warm left) 41) := ⟨_, rfl⟩
  obtain ⟨hR, hS, hB⟩ := start_st w f k o c n warm left X hX
  have HR := Lib.hid hR
  have HS := Lib.hid hS
  have HB := Lib.hid hB
  have HX := Lib.hid hX
  have KC : Hid (∀ v, Calls Try.prog 72 #[.agg #[.int .u64 (lim 0 c : Nat), .int .u64 (lim 1 c : Nat), .int .u64 (lim 2 c : Nat), .int .u64 (lim 3 c : Nat)]] v (RetV (.bool (decide (c = 0))) v)) := fun v => isZero_c hc v
  have KN : Hid (∀ v, Calls Try.prog 72 #[.agg #[.int .u64 (lim 0 n : Nat), .int .u64 (lim 1 n : Nat), .int .u64 (lim 2 n : Nat), .int .u64 (lim 3 n : Nat)]] v (RetV (.bool (decide (n = 0))) v)) := fun v => isZero_c hn v
  have KO : Hid (∀ v, Calls Try.prog 72 #[.agg #[.int .u64 (lim 0 o : Nat), .int .u64 (lim 1 o : Nat), .int .u64 (lim 2 o : Nat), .int .u64 (lim 3 o : Nat)]] v (RetV (.bool (decide (o = 0))) v)) := fun v => isZero_c ho v
  clear hX hR hS hB
  have KL : Hid (∀ v, Calls Try.prog 73 #[.agg (RulesK f k), .agg (StC o c n warm left)] v (RetV (.int .u64 (clrZ (k 22) (decide (c = 0)) (decide (n = 0)))) v)) := fun v => cleared_c f k ho hc hn v
  have KF : Hid (∀ v, Calls Try.prog 75 #[.agg #[.int .u64 20000, .int .u64 (rC f), .int .u64 (rA f)], W o] v (RetV (.int .u64 (if decide (o = 0) = true then 20000 else rC f)) v)) := fun v => first_c (rA f) (rC f) ho v
  have KT : Hid (∀ v, Calls Try.prog 74 #[.int .i64 f] v (RetV (.agg #[.int .u64 20000, .int .u64 (rC f), .int .u64 (rA f)]) v)) := fun v => ratesOf_c f v
  obtain ⟨b1, b2, b3, b4⟩ := rates_bound f
  have qcn : ∀ W, (Op.equalIn 10000 24 (.agg #[.int .u64 (lim 0 c : Nat), .int .u64 (lim 1 c : Nat), .int .u64 (lim 2 c : Nat), .int .u64 (lim 3 c : Nat)]) (.agg #[.int .u64 (lim 0 n : Nat), .int .u64 (lim 1 n : Nat), .int .u64 (lim 2 n : Nat), .int .u64 (lim 3 n : Nat)])).run Try.prog W = .ok (decide (c = n)) W := fun W => eqW_in hc hn W
  have qoc : ∀ W, (Op.equalIn 10000 24 (.agg #[.int .u64 (lim 0 o : Nat), .int .u64 (lim 1 o : Nat), .int .u64 (lim 2 o : Nat), .int .u64 (lim 3 o : Nat)]) (.agg #[.int .u64 (lim 0 c : Nat), .int .u64 (lim 1 c : Nat), .int .u64 (lim 2 c : Nat), .int .u64 (lim 3 c : Nat)])).run Try.prog W = .ok (decide (o = c)) W := fun W => eqW_in ho hc W
  have qon : ∀ W, (Op.equalIn 10000 24 (.agg #[.int .u64 (lim 0 o : Nat), .int .u64 (lim 1 o : Nat), .int .u64 (lim 2 o : Nat), .int .u64 (lim 3 o : Nat)]) (.agg #[.int .u64 (lim 0 n : Nat), .int .u64 (lim 1 n : Nat), .int .u64 (lim 2 n : Nat), .int .u64 (lim 3 n : Nat)])).run Try.prog W = .ok (decide (o = n)) W := fun W => eqW_in ho hn W
  clear KN ho hc hn
  generalize decide (c = 0) = cz at *
  generalize decide (n = 0) = nz at *
  generalize decide (o = 0) = oz at *
  generalize decide (c = n) = cn at *
  generalize decide (o = c) = oc at *
  generalize decide (o = n) = on at *
  generalize rA f = a at *
  generalize rC f = d at *
  obtain ⟨b, hbk⟩ : ∃ b, b = k 22 := ⟨_, rfl⟩
  have r22 : ∀ v g, RulesAt v g f k → v.cell? ⟨g, 22, none⟩ = some (.int .u64 b) := fun v g h => by rw [hbk]; exact h.c22
  have R22 := Lib.hid r22
  rw [← hbk] at KL hk0 hk1 ⊢
  obtain ⟨V, hV⟩ : ∃ V, V = amV a d b cn oc oz nz cz on := ⟨_, rfl⟩
  rw [← hV]
  unfold amV at hV
  obtain ⟨z1, hz1⟩ : ∃ z, z = if oz = true then 20000 else d := ⟨_, rfl⟩
  obtain ⟨cl, hcl⟩ : ∃ z, z = clrZ b cz nz := ⟨_, rfl⟩
  rw [← hz1] at KF hV
  rw [← hcl] at KL hV
  have bz1 : 1000 ≤ z1 ∧ z1 ≤ 20000 := by rw [hz1]; split <;> omega
  have bcl : 0 ≤ cl ∧ cl ≤ 1000000 := by rw [hcl]; unfold clrZ; split <;> omega
  obtain ⟨y, hy⟩ : ∃ y, y = z1 - a := ⟨_, rfl⟩
  rw [← hy] at hV
  obtain ⟨t, ht⟩ : ∃ t, t = cl + y := ⟨_, rfl⟩
  have E1 : Hid (IntKind.u64.wrap (z1 - a) = y) := by show _ = _; rw [IntKind.wrap_u64]; omega
  have E2 : Hid (IntKind.u64.wrap y = y) := by show _ = _; rw [IntKind.wrap_u64]; omega
  have E3 : Hid (IntKind.u64.wrap (cl + y) = t) := by show _ = _; rw [IntKind.wrap_u64]; omega
  have HTT := Lib.hid ht
  have HV := Lib.hid hV
  clear hV hz1 hcl bz1 bcl hy ht b1 b2 b3 b4 hk0 hk1 hbk r22
  go_enter Try.func51, Try.ntmps51
  go_upto_region 1 with (fail)
  rw [show (w.alloc (.cells (RulesK f k) 26)).alloc (.cells (StC o c n warm left) 41) = X from HX.out.symm]
  clear HX
  have r0 := HR.out.fork
  go_wp2_with fail
  rename_i KK hKK
  (with_reducible refine (KT.out _).mono ?_)
  rintro e1 w1 ⟨rfl, hb1⟩
  replace HB := Lib.hid (HB.out.trans (hb1.mono HB.out.size))
  replace HR := Lib.hid (HR.out.below hb1 HR.out.lt)
  replace HS := Lib.hid (HS.out.below hb1 HS.out.lt)
  clear hb1 r0 KT
  obtain ⟨T, hT⟩ : ∃ T, T = w1.heap.size := ⟨_, rfl⟩
  have ht := heap_alloc_new w1 (.cells #[.int .u64 20000, .int .u64 d, .int .u64 a] 112)
  replace HB := Lib.hid (HB.out.alloc HB.out.size (.cells #[.int .u64 20000, .int .u64 d, .int .u64 a] 112))
  replace HS := Lib.hid (HS.out.below ((Below.refl w1.heap.size w1).alloc (Nat.le_refl _) (.cells #[.int .u64 20000, .int .u64 d, .int .u64 a] 112)) HS.out.lt)
  replace HR := Lib.hid (HR.out.alloc (.cells #[.int .u64 20000, .int .u64 d, .int .u64 a] 112))
  rw [← hT] at ht
  have HT : Hid (RatesAt (w1.alloc (.cells #[.int .u64 20000, .int .u64 d, .int .u64 a] 112)) T d a) := ht
  clear ht
  show KK _ _
  refine hKK _ _ ?_
  clear hKK KK
  go_upto_region 2 with (fail)
  rw [← hT]
  generalize w1.alloc (.cells #[.int .u64 20000, .int .u64 d, .int .u64 a] 112) = Y at *
  clear hT w1
  obtain ⟨x0, x1, x2, x3⟩ := HS.out.cc
  obtain ⟨y0, y1, y2, y3⟩ := HS.out.cn
  cases cn with
  | true =>
    have t2 := HT.out.c2
    go_wp2_with fail
    exact bodyPost_ret (v := .tuple #[.int .u64 a, .int .u64 (0), .int .u64 (0)]) (by simp [results, Try.results51, go_sem]) rfl ⟨by rw [HV.out]; rfl, HB.out⟩
  | false =>
  go_upto_region 4 with (fail)
  clear y0 y1 y2 y3 qcn
  obtain ⟨y0, y1, y2, y3⟩ := HS.out.co
  cases oc with
  | true =>
    go_upto_region 5 with (fail)
    clear x0 x1 x2 x3 y0 y1 y2 y3
    refine wp_region_see 10 [25, 26, 27, 28, 29, 30, 31, 4, 5, 6] [(25, .is (.agg #[.int .u64 20000, .int .u64 d, .int .u64 a])), (26, .is (.pointer (some ⟨w.heap.size + 1, 0, none⟩))), (27, .is (W o)), (28, .is (.int .u64 z1)), (29, .is (.agg (RulesK f k))), (30, .is (.agg (StC o c n warm left))), (31, .is (.int .u64 cl)), (4, .is (.int .u64 z1)), (5, .is (.int .u64 cl)), (6, .is (.int .u64 0))] (by kernel_rfl) (by kernel_rfl) (by rfl) ?_ ?_
    · refine seeOps_cons ?_ (seeOps_cons ?_ (seeOps_cons ?_ (seeOps_cons ?_ (seeOps_cons ?_ (seeOps_cons ?_ (seeOps_cons ?_ (seeOps_cons ?_ (seeOps_cons ?_ (seeOps_cons ?_ seeOps_nil)))))))))
      · intro w9 hb9 fr hout hin
        have h7 : fr.tmps.getD 7 undef = .pointer (some ⟨T, 0, none⟩) := hout 7 (by decide)
        clear hout hin
        exact gs_loadAt (.tmp 7) rfl h7 (HT.out.below hb9 HT.out.lt).load (wanted_none rfl) rfl
      · intro w9 hb9 fr hout hin
        have h3 : fr.tmps.getD 3 undef = .pointer (some ⟨w.heap.size + 1, 0, none⟩) := hout 3 (by decide)
        clear hout hin
        exact gc_faS0 (.tmp 3) rfl h3 (wanted_none rfl) rfl
      · intro w9 hb9 fr hout hin
        have h26 : fr.tmps.getD 26 undef = .pointer (some ⟨w.heap.size + 1, 0, none⟩) := hin 26 (by decide) (by decide)
        clear hout hin
        exact gs_loadW (n := o) (.tmp 26) rfl h26 (HS.out.below hb9 HS.out.lt).co (wanted_none rfl) rfl
      · intro w9 hb9 fr hout hin
        have h25 : fr.tmps.getD 25 undef = .agg #[.int .u64 20000, .int .u64 d, .int .u64 a] := hin 25 (by decide) (by decide)
        have h27 : fr.tmps.getD 27 undef = W o := hin 27 (by decide) (by decide)
        clear hout hin
        exact gs_call2 (.tmp 25) (.tmp 27) rfl en_gcFirst (wanted_none rfl) (by rw [show fr.eval (.tmp 25) = _ from h25, show fr.eval (.tmp 27) = _ from h27]; exact (KF.out w9).mono fun _ _ h => RetV.gs h) (fun _ _ h => h)
      · intro w9 hb9 fr hout hin
        have h2 : fr.tmps.getD 2 undef = .pointer (some ⟨w.heap.size, 0, none⟩) := hout 2 (by decide)
        clear hout hin
        exact gs_loadAt (.tmp 2) rfl h2 (HR.out.below hb9 HR.out.lt).load (wanted_none rfl) rfl
      · intro w9 hb9 fr hout hin
        have h3 : fr.tmps.getD 3 undef = .pointer (some ⟨w.heap.size + 1, 0, none⟩) := hout 3 (by decide)
        clear hout hin
        exact gs_loadAt (.tmp 3) rfl h3 (HS.out.below hb9 HS.out.lt).load (wanted_none rfl) rfl
      · intro w9 hb9 fr hout hin
        have h29 : fr.tmps.getD 29 undef = .agg (RulesK f k) := hin 29 (by decide) (by decide)
        have h30 : fr.tmps.getD 30 undef = .agg (StC o c n warm left) := hin 30 (by decide) (by decide)
        clear hout hin
        exact gs_call2 (.tmp 29) (.tmp 30) rfl en_gcCleared (wanted_none rfl) (by rw [show fr.eval (.tmp 29) = _ from h29, show fr.eval (.tmp 30) = _ from h30]; exact (KL.out w9).mono fun _ _ h => RetV.gs h) (fun _ _ h => h)
      · intro w9 hb9 fr hout hin
        have h28 : fr.tmps.getD 28 undef = .int .u64 z1 := hin 28 (by decide) (by decide)
        clear hout hin
        exact relStep_assign (.tmp 28) rfl (wanted_none rfl) (by show fr.tmps.getD 28 undef = _; rw [h28])
      · intro w9 hb9 fr hout hin
        have h31 : fr.tmps.getD 31 undef = .int .u64 cl := hin 31 (by decide) (by decide)
        clear hout hin
        exact relStep_assign (.tmp 31) rfl (wanted_none rfl) (by show fr.tmps.getD 31 undef = _; rw [h31])
      · intro w9 hb9 fr hout hin
        clear hout hin
        exact relStep_assign (.const (.int .u64 0)) rfl (wanted_none rfl) rfl
    intro X9 hb9
    refine relAsk_in (by rfl) ?_
    intro v25 h25
    obtain rfl : v25 = .agg #[.int .u64 20000, .int .u64 d, .int .u64 a] := h25
    refine relAsk_in (by rfl) ?_
    intro v26 h26
    obtain rfl : v26 = .pointer (some ⟨w.heap.size + 1, 0, none⟩) := h26
    refine relAsk_in (by rfl) ?_
    intro v27 h27
    obtain rfl : v27 = W o := h27
    refine relAsk_in (by rfl) ?_
    intro v28 h28
    obtain rfl : v28 = .int .u64 z1 := h28
    refine relAsk_in (by rfl) ?_
    intro v29 h29
    obtain rfl : v29 = .agg (RulesK f k) := h29
    refine relAsk_in (by rfl) ?_
    intro v30 h30
    obtain rfl : v30 = .agg (StC o c n warm left) := h30
    refine relAsk_in (by rfl) ?_
    intro v31 h31
    obtain rfl : v31 = .int .u64 cl := h31
    refine relAsk_in (by rfl) ?_
    intro v4 h4
    obtain rfl : v4 = .int .u64 z1 := h4
    refine relAsk_in (by rfl) ?_
    intro v5 h5
    obtain rfl : v5 = .int .u64 cl := h5
    refine relAsk_in (by rfl) ?_
    intro v6 h6
    obtain rfl : v6 = .int .u64 0 := h6
    refine relAsk_nil ?_
    refine wpList_nil ?_
    replace HB := Lib.hid (HB.out.trans (hb9.mono HB.out.size))
    replace HR := Lib.hid (HR.out.below hb9 HR.out.lt)
    replace HS := Lib.hid (HS.out.below hb9 HS.out.lt)
    replace HT := Lib.hid (HT.out.below hb9 HT.out.lt)
    clear hb9
    go_simp
    go_wp2_with fail
    exact bodyPost_ret (v := .tuple #[.int .u64 z1, .int .u64 (cl), .int .u64 (0)]) (by simp [results, Try.results51, go_sem]) rfl ⟨by rw [HV.out]; rfl, HB.out⟩
  | false =>
  go_upto_region 6 with (fail)
  clear x0 x1 x2 x3 qoc
  go_wp2_with fail
  (with_reducible refine (KO.out _).mono ?_)
  rintro e2 w2 ⟨rfl, hb2⟩
  replace HB := Lib.hid (HB.out.trans (hb2.mono HB.out.size))
  replace HR := Lib.hid (HR.out.below hb2 HR.out.lt)
  replace HS := Lib.hid (HS.out.below hb2 HS.out.lt)
  replace HT := Lib.hid (HT.out.below hb2 HT.out.lt)
  clear hb2
  clear y0 y1 y2 y3 KO
  cases oz with
  | true =>
    clear KC KL
    go_upto_region 10 with (fail)
    obtain ⟨x0, x1, x2, x3⟩ := HS.out.co
    obtain ⟨y0, y1, y2, y3⟩ := HS.out.cn
    cases on with
    | false =>
      have t2 := HT.out.c2
      go_wp2_with fail
      exact bodyPost_ret (v := .tuple #[.int .u64 a, .int .u64 (0), .int .u64 (0)]) (by simp [results, Try.results51, go_sem]) rfl ⟨by rw [HV.out]; rfl, HB.out⟩
    | true =>
      go_upto_region 11 with (fail)
      clear x0 x1 x2 x3 y0 y1 y2 y3
      refine wp_region_see 9 [49, 50, 51, 52, 53, 54, 55, 56, 57] [(49, .is (.int .u64 0)), (50, .is (.agg #[.int .u64 20000, .int .u64 d, .int .u64 a])), (51, .is (.pointer (some ⟨w.heap.size + 1, 0, none⟩))), (52, .is (W o)), (53, .is (.int .u64 z1)), (54, .is (.pointer (some ⟨T, 2, none⟩))), (55, .is (.int .u64 a)), (56, .is (.int .u64 y)), (57, .is (.int .u64 y))] (by kernel_rfl) (by kernel_rfl) (by rfl) ?_ ?_
      · refine seeOps_cons ?_ (seeOps_cons ?_ (seeOps_cons ?_ (seeOps_cons ?_ (seeOps_cons ?_ (seeOps_cons ?_ (seeOps_cons ?_ (seeOps_cons ?_ (seeOps_cons ?_ seeOps_nil))))))))
        · intro w9 hb9 fr hout hin
          have h5 : fr.tmps.getD 5 undef = .int .u64 0 := hout 5 (by decide)
          clear hout hin
          exact relStep_move (.tmp 5) rfl (wanted_none rfl) (by show fr.tmps.getD 5 undef = _; rw [h5])
        · intro w9 hb9 fr hout hin
          have h7 : fr.tmps.getD 7 undef = .pointer (some ⟨T, 0, none⟩) := hout 7 (by decide)
          clear hout hin
          exact gs_loadAt (.tmp 7) rfl h7 (HT.out.below hb9 HT.out.lt).load (wanted_none rfl) rfl
        · intro w9 hb9 fr hout hin
          have h3 : fr.tmps.getD 3 undef = .pointer (some ⟨w.heap.size + 1, 0, none⟩) := hout 3 (by decide)
          clear hout hin
          exact gc_faS0 (.tmp 3) rfl h3 (wanted_none rfl) rfl
        · intro w9 hb9 fr hout hin
          have h51 : fr.tmps.getD 51 undef = .pointer (some ⟨w.heap.size + 1, 0, none⟩) := hin 51 (by decide) (by decide)
          clear hout hin
          exact gs_loadW (n := o) (.tmp 51) rfl h51 (HS.out.below hb9 HS.out.lt).co (wanted_none rfl) rfl
        · intro w9 hb9 fr hout hin
          have h50 : fr.tmps.getD 50 undef = .agg #[.int .u64 20000, .int .u64 d, .int .u64 a] := hin 50 (by decide) (by decide)
          have h52 : fr.tmps.getD 52 undef = W o := hin 52 (by decide) (by decide)
          clear hout hin
          exact gs_call2 (.tmp 50) (.tmp 52) rfl en_gcFirst (wanted_none rfl) (by rw [show fr.eval (.tmp 50) = _ from h50, show fr.eval (.tmp 52) = _ from h52]; exact (KF.out w9).mono fun _ _ h => RetV.gs h) (fun _ _ h => h)
        · intro w9 hb9 fr hout hin
          have h7 : fr.tmps.getD 7 undef = .pointer (some ⟨T, 0, none⟩) := hout 7 (by decide)
          clear hout hin
          exact gc_faT2 (.tmp 7) rfl h7 (wanted_none rfl) rfl
        · intro w9 hb9 fr hout hin
          have h54 : fr.tmps.getD 54 undef = .pointer (some ⟨T, 2, none⟩) := hin 54 (by decide) (by decide)
          clear hout hin
          exact gs_load (.tmp 54) rfl gs_u64 h54 (HT.out.below hb9 HT.out.lt).c2 (wanted_none rfl) rfl
        · intro w9 hb9 fr hout hin
          have h53 : fr.tmps.getD 53 undef = .int .u64 z1 := hin 53 (by decide) (by decide)
          have h55 : fr.tmps.getD 55 undef = .int .u64 a := hin 55 (by decide) (by decide)
          clear hout hin
          exact gs_bin .sub 22 (.tmp 53) (.tmp 55) _ rfl h53 h55 (fun w => by go_simp) (fun w => by have := E1.out; go_simp) (wanted_none rfl) rfl
        · intro w9 hb9 fr hout hin
          have h49 : fr.tmps.getD 49 undef = .int .u64 0 := hin 49 (by decide) (by decide)
          have h56 : fr.tmps.getD 56 undef = .int .u64 y := hin 56 (by decide) (by decide)
          clear hout hin
          exact gs_bin .add 22 (.tmp 49) (.tmp 56) _ rfl h49 h56 (fun w => by go_simp) (fun w => by have := E2.out; go_simp) (wanted_none rfl) rfl
      intro X9 hb9
      refine relAsk_in (by rfl) ?_
      intro v49 h49
      obtain rfl : v49 = .int .u64 0 := h49
      refine relAsk_in (by rfl) ?_
      intro v50 h50
      obtain rfl : v50 = .agg #[.int .u64 20000, .int .u64 d, .int .u64 a] := h50
      refine relAsk_in (by rfl) ?_
      intro v51 h51
      obtain rfl : v51 = .pointer (some ⟨w.heap.size + 1, 0, none⟩) := h51
      refine relAsk_in (by rfl) ?_
      intro v52 h52
      obtain rfl : v52 = W o := h52
      refine relAsk_in (by rfl) ?_
      intro v53 h53
      obtain rfl : v53 = .int .u64 z1 := h53
      refine relAsk_in (by rfl) ?_
      intro v54 h54
      obtain rfl : v54 = .pointer (some ⟨T, 2, none⟩) := h54
      refine relAsk_in (by rfl) ?_
      intro v55 h55
      obtain rfl : v55 = .int .u64 a := h55
      refine relAsk_in (by rfl) ?_
      intro v56 h56
      obtain rfl : v56 = .int .u64 y := h56
      refine relAsk_in (by rfl) ?_
      intro v57 h57
      obtain rfl : v57 = .int .u64 y := h57
      refine relAsk_nil ?_
      replace HB := Lib.hid (HB.out.trans (hb9.mono HB.out.size))
      replace HR := Lib.hid (HR.out.below hb9 HR.out.lt)
      replace HS := Lib.hid (HS.out.below hb9 HS.out.lt)
      replace HT := Lib.hid (HT.out.below hb9 HT.out.lt)
      clear hb9
      go_simp
      have t2 := HT.out.c2
      go_wp2_with fail
      exact bodyPost_ret (v := .tuple #[.int .u64 a, .int .u64 (y), .int .u64 (0)]) (by simp [results, Try.results51, go_sem]) rfl ⟨by rw [HV.out]; simp, HB.out⟩
  | false =>
    go_upto_region 7 with (fail)
    refine wp_region_lit ?_
    refine wpList_load_row rfl 26 (.tmp 2) rfl w.heap.size rfl 26 _ (0, 0) _ HR.out Try.underlying26 rfl infoRules ?_
    refine wpList_load_row rfl 41 (.tmp 3) rfl (w.heap.size + 1) rfl 41 _ (0, 0) _ HS.out Try.underlying41 rfl (by rw [infoStore]; rfl) ?_
    go_simp
    go_wp2_with fail
    (with_reducible refine (KL.out _).mono ?_)
    rintro e3 w3 ⟨rfl, hb3⟩
    replace HB := Lib.hid (HB.out.trans (hb3.mono HB.out.size))
    replace HR := Lib.hid (HR.out.below hb3 HR.out.lt)
    replace HS := Lib.hid (HS.out.below hb3 HS.out.lt)
    replace HT := Lib.hid (HT.out.below hb3 HT.out.lt)
    clear hb3
    clear KL
    go_upto_region 8 with (fail)
    obtain ⟨x0, x1, x2, x3⟩ := HS.out.cc
    go_wp2_with fail
    (with_reducible refine (KC.out _).mono ?_)
    rintro e4 w4 ⟨rfl, hb4⟩
    replace HB := Lib.hid (HB.out.trans (hb4.mono HB.out.size))
    replace HR := Lib.hid (HR.out.below hb4 HR.out.lt)
    replace HS := Lib.hid (HS.out.below hb4 HS.out.lt)
    replace HT := Lib.hid (HT.out.below hb4 HT.out.lt)
    clear hb4
    clear x0 x1 x2 x3 KC
    cases cz with
    | true =>
      have r22 := R22.out _ _ HR.out
      go_upto_region 10 with (fail)
      clear r22
      obtain ⟨x0, x1, x2, x3⟩ := HS.out.co
      obtain ⟨y0, y1, y2, y3⟩ := HS.out.cn
      cases on with
      | false =>
        have t2 := HT.out.c2
        go_wp2_with fail
        exact bodyPost_ret (v := .tuple #[.int .u64 a, .int .u64 (cl), .int .u64 (b)]) (by simp [results, Try.results51, go_sem]) rfl ⟨by rw [HV.out]; simp, HB.out⟩
      | true =>
        go_upto_region 11 with (fail)
        clear x0 x1 x2 x3 y0 y1 y2 y3
        refine wp_region_see 9 [49, 50, 51, 52, 53, 54, 55, 56, 57] [(49, .is (.int .u64 cl)), (50, .is (.agg #[.int .u64 20000, .int .u64 d, .int .u64 a])), (51, .is (.pointer (some ⟨w.heap.size + 1, 0, none⟩))), (52, .is (W o)), (53, .is (.int .u64 z1)), (54, .is (.pointer (some ⟨T, 2, none⟩))), (55, .is (.int .u64 a)), (56, .is (.int .u64 y)), (57, .is (.int .u64 t))] (by kernel_rfl) (by kernel_rfl) (by rfl) ?_ ?_
        · refine seeOps_cons ?_ (seeOps_cons ?_ (seeOps_cons ?_ (seeOps_cons ?_ (seeOps_cons ?_ (seeOps_cons ?_ (seeOps_cons ?_ (seeOps_cons ?_ (seeOps_cons ?_ seeOps_nil))))))))
          · intro w9 hb9 fr hout hin
            have h5 : fr.tmps.getD 5 undef = .int .u64 cl := hout 5 (by decide)
            clear hout hin
            exact relStep_move (.tmp 5) rfl (wanted_none rfl) (by show fr.tmps.getD 5 undef = _; rw [h5])
          · intro w9 hb9 fr hout hin
            have h7 : fr.tmps.getD 7 undef = .pointer (some ⟨T, 0, none⟩) := hout 7 (by decide)
            clear hout hin
            exact gs_loadAt (.tmp 7) rfl h7 (HT.out.below hb9 HT.out.lt).load (wanted_none rfl) rfl
          · intro w9 hb9 fr hout hin
            have h3 : fr.tmps.getD 3 undef = .pointer (some ⟨w.heap.size + 1, 0, none⟩) := hout 3 (by decide)
            clear hout hin
            exact gc_faS0 (.tmp 3) rfl h3 (wanted_none rfl) rfl
          · intro w9 hb9 fr hout hin
            have h51 : fr.tmps.getD 51 undef = .pointer (some ⟨w.heap.size + 1, 0, none⟩) := hin 51 (by decide) (by decide)
            clear hout hin
            exact gs_loadW (n := o) (.tmp 51) rfl h51 (HS.out.below hb9 HS.out.lt).co (wanted_none rfl) rfl
          · intro w9 hb9 fr hout hin
            have h50 : fr.tmps.getD 50 undef = .agg #[.int .u64 20000, .int .u64 d, .int .u64 a] := hin 50 (by decide) (by decide)
            have h52 : fr.tmps.getD 52 undef = W o := hin 52 (by decide) (by decide)
            clear hout hin
            exact gs_call2 (.tmp 50) (.tmp 52) rfl en_gcFirst (wanted_none rfl) (by rw [show fr.eval (.tmp 50) = _ from h50, show fr.eval (.tmp 52) = _ from h52]; exact (KF.out w9).mono fun _ _ h => RetV.gs h) (fun _ _ h => h)
          · intro w9 hb9 fr hout hin
            have h7 : fr.tmps.getD 7 undef = .pointer (some ⟨T, 0, none⟩) := hout 7 (by decide)
            clear hout hin
            exact gc_faT2 (.tmp 7) rfl h7 (wanted_none rfl) rfl
          · intro w9 hb9 fr hout hin
            have h54 : fr.tmps.getD 54 undef = .pointer (some ⟨T, 2, none⟩) := hin 54 (by decide) (by decide)
            clear hout hin
            exact gs_load (.tmp 54) rfl gs_u64 h54 (HT.out.below hb9 HT.out.lt).c2 (wanted_none rfl) rfl
          · intro w9 hb9 fr hout hin
            have h53 : fr.tmps.getD 53 undef = .int .u64 z1 := hin 53 (by decide) (by decide)
            have h55 : fr.tmps.getD 55 undef = .int .u64 a := hin 55 (by decide) (by decide)
            clear hout hin
            exact gs_bin .sub 22 (.tmp 53) (.tmp 55) _ rfl h53 h55 (fun w => by go_simp) (fun w => by have := E1.out; go_simp) (wanted_none rfl) rfl
          · intro w9 hb9 fr hout hin
            have h49 : fr.tmps.getD 49 undef = .int .u64 cl := hin 49 (by decide) (by decide)
            have h56 : fr.tmps.getD 56 undef = .int .u64 y := hin 56 (by decide) (by decide)
            clear hout hin
            exact gs_bin .add 22 (.tmp 49) (.tmp 56) _ rfl h49 h56 (fun w => by go_simp) (fun w => by have := E3.out; go_simp) (wanted_none rfl) rfl
        intro X9 hb9
        refine relAsk_in (by rfl) ?_
        intro v49 h49
        obtain rfl : v49 = .int .u64 cl := h49
        refine relAsk_in (by rfl) ?_
        intro v50 h50
        obtain rfl : v50 = .agg #[.int .u64 20000, .int .u64 d, .int .u64 a] := h50
        refine relAsk_in (by rfl) ?_
        intro v51 h51
        obtain rfl : v51 = .pointer (some ⟨w.heap.size + 1, 0, none⟩) := h51
        refine relAsk_in (by rfl) ?_
        intro v52 h52
        obtain rfl : v52 = W o := h52
        refine relAsk_in (by rfl) ?_
        intro v53 h53
        obtain rfl : v53 = .int .u64 z1 := h53
        refine relAsk_in (by rfl) ?_
        intro v54 h54
        obtain rfl : v54 = .pointer (some ⟨T, 2, none⟩) := h54
        refine relAsk_in (by rfl) ?_
        intro v55 h55
        obtain rfl : v55 = .int .u64 a := h55
        refine relAsk_in (by rfl) ?_
        intro v56 h56
        obtain rfl : v56 = .int .u64 y := h56
        refine relAsk_in (by rfl) ?_
        intro v57 h57
        obtain rfl : v57 = .int .u64 t := h57
        refine relAsk_nil ?_
        replace HB := Lib.hid (HB.out.trans (hb9.mono HB.out.size))
        replace HR := Lib.hid (HR.out.below hb9 HR.out.lt)
        replace HS := Lib.hid (HS.out.below hb9 HS.out.lt)
        replace HT := Lib.hid (HT.out.below hb9 HT.out.lt)
        clear hb9
        go_simp
        have t2 := HT.out.c2
        go_wp2_with fail
        exact bodyPost_ret (v := .tuple #[.int .u64 a, .int .u64 (t), .int .u64 (b)]) (by simp [results, Try.results51, go_sem]) rfl ⟨by rw [HV.out, HTT.out]; simp, HB.out⟩
    | false =>
      go_upto_region 10 with (fail)
      obtain ⟨x0, x1, x2, x3⟩ := HS.out.co
      obtain ⟨y0, y1, y2, y3⟩ := HS.out.cn
      cases on with
      | false =>
        have t2 := HT.out.c2
        go_wp2_with fail
        exact bodyPost_ret (v := .tuple #[.int .u64 a, .int .u64 (cl), .int .u64 (0)]) (by simp [results, Try.results51, go_sem]) rfl ⟨by rw [HV.out]; simp, HB.out⟩
      | true =>
        go_upto_region 11 with (fail)
        clear x0 x1 x2 x3 y0 y1 y2 y3
        refine wp_region_see 9 [49, 50, 51, 52, 53, 54, 55, 56, 57] [(49, .is (.int .u64 cl)), (50, .is (.agg #[.int .u64 20000, .int .u64 d, .int .u64 a])), (51, .is (.pointer (some ⟨w.heap.size + 1, 0, none⟩))), (52, .is (W o)), (53, .is (.int .u64 z1)), (54, .is (.pointer (some ⟨T, 2, none⟩))), (55, .is (.int .u64 a)), (56, .is (.int .u64 y)), (57, .is (.int .u64 t))] (by kernel_rfl) (by kernel_rfl) (by rfl) ?_ ?_
        · refine seeOps_cons ?_ (seeOps_cons ?_ (seeOps_cons ?_ (seeOps_cons ?_ (seeOps_cons ?_ (seeOps_cons ?_ (seeOps_cons ?_ (seeOps_cons ?_ (seeOps_cons ?_ seeOps_nil))))))))
          · intro w9 hb9 fr hout hin
            have h5 : fr.tmps.getD 5 undef = .int .u64 cl := hout 5 (by decide)
            clear hout hin
            exact relStep_move (.tmp 5) rfl (wanted_none rfl) (by show fr.tmps.getD 5 undef = _; rw [h5])
          · intro w9 hb9 fr hout hin
            have h7 : fr.tmps.getD 7 undef = .pointer (some ⟨T, 0, none⟩) := hout 7 (by decide)
            clear hout hin
            exact gs_loadAt (.tmp 7) rfl h7 (HT.out.below hb9 HT.out.lt).load (wanted_none rfl) rfl
          · intro w9 hb9 fr hout hin
            have h3 : fr.tmps.getD 3 undef = .pointer (some ⟨w.heap.size + 1, 0, none⟩) := hout 3 (by decide)
            clear hout hin
            exact gc_faS0 (.tmp 3) rfl h3 (wanted_none rfl) rfl
          · intro w9 hb9 fr hout hin
            have h51 : fr.tmps.getD 51 undef = .pointer (some ⟨w.heap.size + 1, 0, none⟩) := hin 51 (by decide) (by decide)
            clear hout hin
            exact gs_loadW (n := o) (.tmp 51) rfl h51 (HS.out.below hb9 HS.out.lt).co (wanted_none rfl) rfl
          · intro w9 hb9 fr hout hin
            have h50 : fr.tmps.getD 50 undef = .agg #[.int .u64 20000, .int .u64 d, .int .u64 a] := hin 50 (by decide) (by decide)
            have h52 : fr.tmps.getD 52 undef = W o := hin 52 (by decide) (by decide)
            clear hout hin
            exact gs_call2 (.tmp 50) (.tmp 52) rfl en_gcFirst (wanted_none rfl) (by rw [show fr.eval (.tmp 50) = _ from h50, show fr.eval (.tmp 52) = _ from h52]; exact (KF.out w9).mono fun _ _ h => RetV.gs h) (fun _ _ h => h)
          · intro w9 hb9 fr hout hin
            have h7 : fr.tmps.getD 7 undef = .pointer (some ⟨T, 0, none⟩) := hout 7 (by decide)
            clear hout hin
            exact gc_faT2 (.tmp 7) rfl h7 (wanted_none rfl) rfl
          · intro w9 hb9 fr hout hin
            have h54 : fr.tmps.getD 54 undef = .pointer (some ⟨T, 2, none⟩) := hin 54 (by decide) (by decide)
            clear hout hin
            exact gs_load (.tmp 54) rfl gs_u64 h54 (HT.out.below hb9 HT.out.lt).c2 (wanted_none rfl) rfl
          · intro w9 hb9 fr hout hin
            have h53 : fr.tmps.getD 53 undef = .int .u64 z1 := hin 53 (by decide) (by decide)
            have h55 : fr.tmps.getD 55 undef = .int .u64 a := hin 55 (by decide) (by decide)
            clear hout hin
            exact gs_bin .sub 22 (.tmp 53) (.tmp 55) _ rfl h53 h55 (fun w => by go_simp) (fun w => by have := E1.out; go_simp) (wanted_none rfl) rfl
          · intro w9 hb9 fr hout hin
            have h49 : fr.tmps.getD 49 undef = .int .u64 cl := hin 49 (by decide) (by decide)
            have h56 : fr.tmps.getD 56 undef = .int .u64 y := hin 56 (by decide) (by decide)
            clear hout hin
            exact gs_bin .add 22 (.tmp 49) (.tmp 56) _ rfl h49 h56 (fun w => by go_simp) (fun w => by have := E3.out; go_simp) (wanted_none rfl) rfl
        intro X9 hb9
        refine relAsk_in (by rfl) ?_
        intro v49 h49
        obtain rfl : v49 = .int .u64 cl := h49
        refine relAsk_in (by rfl) ?_
        intro v50 h50
        obtain rfl : v50 = .agg #[.int .u64 20000, .int .u64 d, .int .u64 a] := h50
        refine relAsk_in (by rfl) ?_
        intro v51 h51
        obtain rfl : v51 = .pointer (some ⟨w.heap.size + 1, 0, none⟩) := h51
        refine relAsk_in (by rfl) ?_
        intro v52 h52
        obtain rfl : v52 = W o := h52
        refine relAsk_in (by rfl) ?_
        intro v53 h53
        obtain rfl : v53 = .int .u64 z1 := h53
        refine relAsk_in (by rfl) ?_
        intro v54 h54
        obtain rfl : v54 = .pointer (some ⟨T, 2, none⟩) := h54
        refine relAsk_in (by rfl) ?_
        intro v55 h55
        obtain rfl : v55 = .int .u64 a := h55
        refine relAsk_in (by rfl) ?_
        intro v56 h56
        obtain rfl : v56 = .int .u64 y := h56
        refine relAsk_in (by rfl) ?_
        intro v57 h57
        obtain rfl : v57 = .int .u64 t := h57
        refine relAsk_nil ?_
        replace HB := Lib.hid (HB.out.trans (hb9.mono HB.out.size))
        replace HR := Lib.hid (HR.out.below hb9 HR.out.lt)
        replace HS := Lib.hid (HS.out.below hb9 HS.out.lt)
        replace HT := Lib.hid (HT.out.below hb9 HT.out.lt)
        clear hb9
        go_simp
        have t2 := HT.out.c2
        go_wp2_with fail
        exact bodyPost_ret (v := .tuple #[.int .u64 a, .int .u64 (t), .int .u64 (0)]) (by simp [results, Try.results51, go_sem]) rfl ⟨by rw [HV.out, HTT.out]; simp, HB.out⟩
end Go.Proofs.Ytiflfcdegpmhnaa
namespace Go.Proofs.Ytiflfcdegpmhnaa
open Go.RowKit

theorem am_T (a d cold b : Int) (cn oc oz nz cz on : Bool) (h : oc = true → oz = cz) (ba : 0 ≤ a ∧ a ≤ 800 ∧ 1000 ≤ d ∧ d ≤ 5000) : ∃ x p s, amV a d b cn oc oz nz cz on = .tuple #[.int .u64 x, .int .u64 p, .int .u64 s] ∧ storeT a d cold b cn oc oz nz cz on = stT (x + cold) p s true ∧ 0 ≤ x ∧ x ≤ 20000 := by
  unfold amV storeT clrZ
  cases cn
  · cases oc
    · cases oz <;> cases nz <;> cases cz <;> cases on <;> exact ⟨_, _, _, rfl, rfl, by omega, by omega⟩
    · have h := h rfl
      subst h
      cases oz <;> cases nz <;> cases on <;> exact ⟨_, _, _, rfl, rfl, by simp; try omega, by simp; try omega⟩
  · exact ⟨_, _, _, rfl, rfl, by omega, by omega⟩
theorem store_eq {f b : Int} {o c n left : Nat} {warm : Bool} {k16 : Int} (_ho : Big o) (_hc : Big c) (_hn : Big n) (h5 : ¬ (f < 5 ∨ f = 6)) (hk16 : k16 = if 9 ≤ f then 2100 else 0) :
    ∃ x p s, amV (rA f) (rC f) b (decide (c = n)) (decide (o = c)) (decide (o = 0)) (decide (n = 0)) (decide (c = 0)) (decide (o = n)) = .tuple #[.int .u64 x, .int .u64 p, .int .u64 s] ∧
      Hid (¬ (7 ≤ f ∧ left ≤ 2300) → storeN f b o c n warm left = stT (x + if warm = false then k16 else 0) p s true) ∧ (0 ≤ x ∧ x ≤ 20000 ∧ 0 ≤ k16 ∧ k16 ≤ 2100) := by
  obtain ⟨x, p, s, h1, h2, h3, h4⟩ := am_T (rA f) (rC f) (if 9 ≤ f ∧ warm = false then 2100 else 0) b (decide (c = n)) (decide (o = c)) (decide (o = 0)) (decide (n = 0)) (decide (c = 0)) (decide (o = n)) (fun h => by have := of_decide_eq_true h; subst this; rfl) (rates_bound f)
  refine ⟨x, p, s, h1, fun hn => ?_, h3, h4, by rw [hk16]; split <;> omega, by rw [hk16]; split <;> omega⟩
  unfold storeN storeV
  rw [if_neg h5, if_neg hn]
  have e : (if 9 ≤ f ∧ warm = false then (2100 : Int) else 0) = if warm = false then k16 else 0 := by
    rw [hk16]
    cases warm <;> simp
  rw [← e]
  exact h2

set_option maxRecDepth 100000 in
set_option maxHeartbeats 12800000 in
theorem pstore_c (f : Int) (k : Nat → Int) {o c n left : Nat} {warm : Bool} (hk0 : 0 ≤ k 22) (hk1 : k 22 ≤ 1000000) (hk16 : k 16 = if 9 ≤ f then 2100 else 0) (ho : Big o) (hc : Big c) (hn : Big n) (w : World) : Calls Try.prog 23 #[.agg (RulesK f k), .agg (StC o c n warm left)] w (RetV (storeN f (k 22) o c n warm left) w) := by
  obtain ⟨V, hV⟩ : ∃ V, V = storeN f (k 22) o c n warm left := ⟨_, rfl⟩
  rw [← hV]
  obtain ⟨X, hX⟩ : ∃ X, X = (w.alloc (.cells (RulesK f k) 26)).alloc (.cells (StC o c n warm left) 41) := ⟨_, rfl⟩
  obtain ⟨hR, hS, hB⟩ := start_st w f k o c n warm left X hX
  have HR := Lib.hid hR
  have HS := Lib.hid hS
  have HB := Lib.hid hB
  have HX := Lib.hid hX
  clear hX hR hS hB
  rcases (show f < 5 ∨ f = 6 ∨ f = 5 ∨ (7 ≤ f ∧ left ≤ 2300) ∨ (7 ≤ f ∧ 2300 < left) by omega) with hf | hf | hf | ⟨hf, hl⟩ | ⟨hf, hl⟩
  · skip
    have e : ∃ x y, aloneV (k 22) (decide (c = 0)) (decide (n = 0)) = .tuple #[.int .u64 x, .int .u64 y] ∧ V = stT x y 0 true := by
      have hA : f < 5 ∨ f = 6 := by omega
      rw [hV]
      unfold storeN storeV
      rw [if_pos hA]
      unfold aloneV clrZ
      cases decide (c = 0) <;> cases decide (n = 0) <;> exact ⟨_, _, rfl, rfl⟩
    obtain ⟨x, y, e1, e2⟩ := e
    have KA : Hid (∀ v, Calls Try.prog 50 #[.agg (RulesK f k), .agg (StC o c n warm left)] v (RetV (.tuple #[.int .u64 x, .int .u64 y]) v)) := fun v => by have h := alone_c (left := left) (warm := warm) f k ho hc hn v; rw [e1] at h; exact h
    have HV := Lib.hid e2
    clear e1 e2 hV ho hc hn hk0 hk1 hk16
    go_enter Try.func23, Try.ntmps23
    go_upto_region 1 with (fail)
    rw [show (w.alloc (.cells (RulesK f k) 26)).alloc (.cells (StC o c n warm left) 41) = X from HX.out.symm]
    clear HX
    have r0 := HR.out.fork
    go_upto_region 2 with (fail)
    refine wp_region_lit ?_
    refine wpList_load_row rfl 26 (.tmp 2) rfl w.heap.size rfl 26 _ (0, 0) _ HR.out Try.underlying26 rfl infoRules ?_
    refine wpList_load_row rfl 41 (.tmp 3) rfl (w.heap.size + 1) rfl 41 _ (0, 0) _ HS.out Try.underlying41 rfl (by rw [infoStore]; rfl) ?_
    go_simp
    go_wp2_with fail
    (with_reducible refine (KA.out _).mono ?_)
    rintro e1 w1 ⟨rfl, hb1⟩
    replace HB := Lib.hid (HB.out.trans (hb1.mono HB.out.size))
    replace HR := Lib.hid (HR.out.below hb1 HR.out.lt)
    replace HS := Lib.hid (HS.out.below hb1 HS.out.lt)
    clear hb1 KA
    clear r0
    go_wp2_with fail
    exact bodyPost_ret (v := stT (x) (y) (0) true) (by simp [results, Try.results23, go_sem, stT]) rfl ⟨by rw [HV.out], HB.out⟩
  · have hf5 : ¬ f < 5 := by omega
    have e : ∃ x y, aloneV (k 22) (decide (c = 0)) (decide (n = 0)) = .tuple #[.int .u64 x, .int .u64 y] ∧ V = stT x y 0 true := by
      have hA : f < 5 ∨ f = 6 := by omega
      rw [hV]
      unfold storeN storeV
      rw [if_pos hA]
      unfold aloneV clrZ
      cases decide (c = 0) <;> cases decide (n = 0) <;> exact ⟨_, _, rfl, rfl⟩
    obtain ⟨x, y, e1, e2⟩ := e
    have KA : Hid (∀ v, Calls Try.prog 50 #[.agg (RulesK f k), .agg (StC o c n warm left)] v (RetV (.tuple #[.int .u64 x, .int .u64 y]) v)) := fun v => by have h := alone_c (left := left) (warm := warm) f k ho hc hn v; rw [e1] at h; exact h
    have HV := Lib.hid e2
    have q6 : ((f : Int) == 6) = true := by rw [hf]; rfl
    clear hf e1 e2 hV ho hc hn hk0 hk1 hk16
    go_enter Try.func23, Try.ntmps23
    go_upto_region 1 with (fail)
    rw [show (w.alloc (.cells (RulesK f k) 26)).alloc (.cells (StC o c n warm left) 41) = X from HX.out.symm]
    clear HX
    have r0 := HR.out.fork
    go_upto_region 2 with (fail)
    refine wp_region_lit ?_
    refine wpList_load_row rfl 26 (.tmp 2) rfl w.heap.size rfl 26 _ (0, 0) _ HR.out Try.underlying26 rfl infoRules ?_
    refine wpList_load_row rfl 41 (.tmp 3) rfl (w.heap.size + 1) rfl 41 _ (0, 0) _ HS.out Try.underlying41 rfl (by rw [infoStore]; rfl) ?_
    go_simp
    go_wp2_with fail
    (with_reducible refine (KA.out _).mono ?_)
    rintro e1 w1 ⟨rfl, hb1⟩
    replace HB := Lib.hid (HB.out.trans (hb1.mono HB.out.size))
    replace HR := Lib.hid (HR.out.below hb1 HR.out.lt)
    replace HS := Lib.hid (HS.out.below hb1 HS.out.lt)
    clear hb1 KA
    clear r0
    go_wp2_with fail
    exact bodyPost_ret (v := stT (x) (y) (0) true) (by simp [results, Try.results23, go_sem, stT]) rfl ⟨by rw [HV.out], HB.out⟩
  · have HN : Hid (¬ (7 ≤ f ∧ left ≤ 2300)) := fun h => by omega
    have q7 : 5 ≤ f := by omega
    obtain ⟨x, p, s, e1, e2, bx⟩ := store_eq (f := f) (b := k 22) (left := left) (warm := warm) ho hc hn (by omega) hk16
    have KA : Hid (∀ v, Calls Try.prog 51 #[.agg (RulesK f k), .agg (StC o c n warm left)] v (RetV (.tuple #[.int .u64 x, .int .u64 p, .int .u64 s]) v)) := fun v => by have h := among_c (left := left) (warm := warm) f k hk0 hk1 ho hc hn v; rw [e1] at h; exact h
    clear e1 hk0 hk1 ho hc hn hk16
    have hf5 : ¬ f < 5 := by omega
    have q6 : ((f : Int) == 6) = false := by rw [hf]; rfl
    have hf7 : ¬ 7 ≤ f := by omega
    clear hf
    go_enter Try.func23, Try.ntmps23
    go_upto_region 1 with (fail)
    rw [show (w.alloc (.cells (RulesK f k) 26)).alloc (.cells (StC o c n warm left) 41) = X from HX.out.symm]
    clear HX
    have r0 := HR.out.fork
    go_upto_region 4 with (fail)
    have s13 := HS.out.cl
    go_upto_region 6 with (fail)
    clear r0 s13
    go_upto_region 6 with (fail)
    refine wp_region_lit ?_
    refine wpList_load_row rfl 26 (.tmp 2) rfl w.heap.size rfl 26 _ (0, 0) _ HR.out Try.underlying26 rfl infoRules ?_
    refine wpList_load_row rfl 41 (.tmp 3) rfl (w.heap.size + 1) rfl 41 _ (0, 0) _ HS.out Try.underlying41 rfl (by rw [infoStore]; rfl) ?_
    go_simp
    go_wp2_with fail
    (with_reducible refine (KA.out _).mono ?_)
    rintro e1 w1 ⟨rfl, hb1⟩
    replace HB := Lib.hid (HB.out.trans (hb1.mono HB.out.size))
    replace HR := Lib.hid (HR.out.below hb1 HR.out.lt)
    replace HS := Lib.hid (HS.out.below hb1 HS.out.lt)
    clear hb1 KA
    have w12 := HS.out.cw
    have r16 := HR.out.c16
    cases warm with
    | true =>
      have hv := e2.out (by first | exact HN.out | omega)
      rw [if_neg (by simp), Int.add_zero] at hv
      go_wp2_with fail
      exact bodyPost_ret (v := stT (x) (p) (s) true) (by simp [results, Try.results23, go_sem, stT]) rfl ⟨by rw [hV, hv], HB.out⟩
    | false =>
      have hv := e2.out (by first | exact HN.out | omega)
      rw [if_pos rfl] at hv
      have E := Lib.hid bx
      obtain ⟨u, hu⟩ : ∃ u, u = x + k 16 := ⟨_, rfl⟩
      have E3 : IntKind.u64.wrap (x + k 16) = u := by have := bx; rw [IntKind.wrap_u64]; omega
      rw [← hu] at hv
      clear hu bx E
      have HVV := Lib.hid (hV.trans hv)
      clear hV hv e2
      go_wp2_with fail
      exact bodyPost_ret (v := stT (u) (p) (s) true) (by simp [results, Try.results23, go_sem, stT]) rfl ⟨by rw [HVV.out], HB.out⟩
  · have hf5 : ¬ f < 5 := by omega
    have hf6 : ¬ f = 6 := by omega
    have hV2 : V = stT 0 0 0 false := by
      rw [hV]
      unfold storeN storeV
      rw [if_neg (by omega), if_pos ⟨hf, hl⟩]
    have HV := Lib.hid hV2
    clear hV hV2 ho hc hn hk0 hk1 hk16
    go_enter Try.func23, Try.ntmps23
    go_upto_region 1 with (fail)
    rw [show (w.alloc (.cells (RulesK f k) 26)).alloc (.cells (StC o c n warm left) 41) = X from HX.out.symm]
    clear HX
    have r0 := HR.out.fork
    have s13 := HS.out.cl
    go_wp2_with fail
    exact bodyPost_ret (v := stT (0) (0) (0) false) (by simp [results, Try.results23, go_sem, stT]) rfl ⟨by rw [HV.out], HB.out⟩
  · have hf5 : ¬ f < 5 := by omega
    have hf6 : ¬ f = 6 := by omega
    have HN : Hid (¬ (7 ≤ f ∧ left ≤ 2300)) := fun h => by omega
    have q7 : 5 ≤ f := by omega
    obtain ⟨x, p, s, e1, e2, bx⟩ := store_eq (f := f) (b := k 22) (left := left) (warm := warm) ho hc hn (by omega) hk16
    have KA : Hid (∀ v, Calls Try.prog 51 #[.agg (RulesK f k), .agg (StC o c n warm left)] v (RetV (.tuple #[.int .u64 x, .int .u64 p, .int .u64 s]) v)) := fun v => by have h := among_c (left := left) (warm := warm) f k hk0 hk1 ho hc hn v; rw [e1] at h; exact h
    clear e1 hk0 hk1 ho hc hn hk16
    have hl2 : ¬ (left : Int) ≤ 2300 := by omega
    go_enter Try.func23, Try.ntmps23
    go_upto_region 1 with (fail)
    rw [show (w.alloc (.cells (RulesK f k) 26)).alloc (.cells (StC o c n warm left) 41) = X from HX.out.symm]
    clear HX
    have r0 := HR.out.fork
    go_upto_region 4 with (fail)
    have s13 := HS.out.cl
    go_upto_region 6 with (fail)
    clear r0 s13
    go_upto_region 6 with (fail)
    refine wp_region_lit ?_
    refine wpList_load_row rfl 26 (.tmp 2) rfl w.heap.size rfl 26 _ (0, 0) _ HR.out Try.underlying26 rfl infoRules ?_
    refine wpList_load_row rfl 41 (.tmp 3) rfl (w.heap.size + 1) rfl 41 _ (0, 0) _ HS.out Try.underlying41 rfl (by rw [infoStore]; rfl) ?_
    go_simp
    go_wp2_with fail
    (with_reducible refine (KA.out _).mono ?_)
    rintro e1 w1 ⟨rfl, hb1⟩
    replace HB := Lib.hid (HB.out.trans (hb1.mono HB.out.size))
    replace HR := Lib.hid (HR.out.below hb1 HR.out.lt)
    replace HS := Lib.hid (HS.out.below hb1 HS.out.lt)
    clear hb1 KA
    have w12 := HS.out.cw
    have r16 := HR.out.c16
    cases warm with
    | true =>
      have hv := e2.out (by first | exact HN.out | omega)
      rw [if_neg (by simp), Int.add_zero] at hv
      go_wp2_with fail
      exact bodyPost_ret (v := stT (x) (p) (s) true) (by simp [results, Try.results23, go_sem, stT]) rfl ⟨by rw [hV, hv], HB.out⟩
    | false =>
      have hv := e2.out (by first | exact HN.out | omega)
      rw [if_pos rfl] at hv
      have E := Lib.hid bx
      obtain ⟨u, hu⟩ : ∃ u, u = x + k 16 := ⟨_, rfl⟩
      have E3 : IntKind.u64.wrap (x + k 16) = u := by have := bx; rw [IntKind.wrap_u64]; omega
      rw [← hu] at hv
      clear hu bx E
      have HVV := Lib.hid (hV.trans hv)
      clear hV hv e2
      go_wp2_with fail
      exact bodyPost_ret (v := stT (u) (p) (s) true) (by simp [results, Try.results23, go_sem, stT]) rfl ⟨by rw [HVV.out], HB.out⟩
end Go.Proofs.Ytiflfcdegpmhnaa
