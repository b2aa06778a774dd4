/- Numbers of layer 5: package rlp's and the reference's. -/
import Derived.Test.YtchhnalalplggaaRlWakes
import Derived.Test.YtchhnalalplggaaFrom
import Derived.Test.YtchhnalalplggaaShort
import Derived.Test.YtchhnalalplggaaRefN
import Derived.Test.YtchhnalalplggaaRefW
namespace Go.Proofs.Ytchhnalalplggaa
open Go.RowKit

set_option maxRecDepth 100000 in
set_option maxHeartbeats 3200000 in
theorem rl_short1_c {a : Nat} (ha : Big a) (w : World) : Calls Try.prog 48 #[W a] w (RetR (fun w' v => Byt w' v (shortv a)) w) := by
  have gA := Arr.new4 w 52 (lim 0 a) (lim 1 a) (lim 2 a) (lim 3 a)
  have gW := (Below.refl w.heap.size w).alloc (Nat.le_refl _) (.cells #[.int .u64 (lim 0 a : Nat), .int .u64 (lim 1 a : Nat), .int .u64 (lim 2 a : Nat), .int .u64 (lim 3 a : Nat)] 52)
  have kN : ∀ w, Calls Try.prog 65 #[.agg #[.int .u64 (lim 0 a : Nat), .int .u64 (lim 1 a : Nat), .int .u64 (lim 2 a : Nat), .int .u64 (lim 3 a : Nat)]] w (RetR (fun w' v => Num w' v a 8) w) := fun w => rN_c (isW_lim ha) w
  have KN := Lib.hid kN
  have HA := Lib.hid ha
  clear kN ha
  go_enter Try.func48, Try.ntmps48
  go_upto_region 1 with (fail)
  generalize w.alloc (.cells #[.int .u64 (lim 0 a : Nat), .int .u64 (lim 1 a : Nat), .int .u64 (lim 2 a : Nat), .int .u64 (lim 3 a : Nat)] 52) = X at *
  obtain ⟨x0, x1, x2, x3⟩ := gA.cells4
  go_wp2_with fail
  (with_reducible refine (KN.out _).mono ?_)
  rintro e w1 ⟨v1, rfl, h1, hb1⟩
  have gW := Lib.hid (gW.trans (hb1.mono gW.size))
  clear x0 x1 x2 x3 gA hb1
  have hl := Lib.hid (rbytes_n w1 h1 (by omega))
  clear h1
  go_wp2_with fail
  (with_reducible refine hl.out.mono ?_)
  rintro e w2 ⟨v2, rfl, ⟨bs, hby, hcan, _⟩, hb2⟩
  have he : bs = shortv a := by
    have h := hcan.inj (shortv_can HA.out) (by omega)
    rw [← List.reverse_reverse bs, h, List.reverse_reverse]
  subst he
  have HB := Lib.hid hby
  have gW := Lib.hid (gW.out.trans (hb2.mono gW.out.size))
  clear hby hcan hb2 hl
  go_wp2_with fail
  go_ret
  exact ⟨_, rfl, HB.out, gW.out⟩

theorem word_set {w : World} {g : Nat} {u v x y : Value} {t : TypeId} (h : w.heap[g]? = some (.cells #[u, v, x, y] t (0, 0))) (a b c d : Value) : ((((w.setCell ⟨g, 0, none⟩ a).setCell ⟨g, 1, none⟩ b).setCell ⟨g, 2, none⟩ c).setCell ⟨g, 3, none⟩ d).heap[g]? = some (.cells #[a, b, c, d] t (0, 0)) := by
  have h0 := heap_setCell_same w g 0 _ t a h
  have h1 := heap_setCell_same _ g 1 _ t b h0
  have h2 := heap_setCell_same _ g 2 _ t c h1
  have h3 := heap_setCell_same _ g 3 _ t d h2
  simpa using h3
theorem below_word {B : Nat} {w0 w : World} (h : Below B w0 w) {g : Nat} (hg : B ≤ g) (a b c d : Value) : Below B w0 ((((w.setCell ⟨g, 0, none⟩ a).setCell ⟨g, 1, none⟩ b).setCell ⟨g, 2, none⟩ c).setCell ⟨g, 3, none⟩ d) :=
  (((h.setCell (p := ⟨g, 0, none⟩) hg _).setCell (p := ⟨g, 1, none⟩) hg _).setCell (p := ⟨g, 2, none⟩) hg _).setCell (p := ⟨g, 3, none⟩) hg _
theorem infoWord : (Try.prog.info? 52).map (·.size) = some 4 := by kernel_rfl
theorem results_word1 {fn : Func} {p u : Tmp} (h : fn.results = #[.cell p 52, .tmp u]) (tmps : Array Value) (w : World) (g : Nat) (a b c d : Value)
    (hp : tmps.getD p undef = .pointer (some ⟨g, 0, none⟩)) (hg : w.heap[g]? = some (.cells #[a, b, c, d] 52 (0, 0))) :
    (results fn tmps).run Try.prog w = .ok (.tuple #[.agg #[a, b, c, d], tmps.getD u undef]) w := by
  have hp' : tmps[p]?.getD undef = .pointer (some ⟨g, 0, none⟩) := by simpa using hp
  simp [results, h, hp', asAddr, run_loadVar_row w g 52 52 #[a, b, c, d] (0, 0) _ hg Try.underlying52 rfl infoWord]
theorem four_cells5 {w : World} {g : Nat} {u v x y : Value} {t : TypeId} (h : w.heap[g]? = some (.cells #[u, v, x, y] t (0, 0))) : w.cell? ⟨g, 0, none⟩ = some u ∧ w.cell? ⟨g, 1, none⟩ = some v ∧ w.cell? ⟨g, 2, none⟩ = some x ∧ w.cell? ⟨g, 3, none⟩ = some y ∧
    w.frozen? ⟨g, 0, none⟩ = false ∧ w.frozen? ⟨g, 1, none⟩ = false ∧ w.frozen? ⟨g, 2, none⟩ = false ∧ w.frozen? ⟨g, 3, none⟩ = false := by
  refine ⟨?_, ?_, ?_, ?_, ?_, ?_, ?_, ?_⟩
  · rw [cell_of_row _ _ _ _ t (0, 0) h]; rfl
  · rw [cell_of_row _ _ _ _ t (0, 0) h]; rfl
  · rw [cell_of_row _ _ _ _ t (0, 0) h]; rfl
  · rw [cell_of_row _ _ _ _ t (0, 0) h]; rfl
  · exact frozen_of_row _ _ _ _ t h
  · exact frozen_of_row _ _ _ _ t h
  · exact frozen_of_row _ _ _ _ t h
  · exact frozen_of_row _ _ _ _ t h
theorem W_0 : W 0 = .agg #[.int .u64 0, .int .u64 0, .int .u64 0, .int .u64 0] := by simp [lim]

set_option maxRecDepth 100000 in
set_option maxHeartbeats 3200000 in
theorem from_no {A : Option Addr} {c n : Nat} (w : World) (hn : 32 < n) : Calls Try.prog 46 #[.slice A n c] w (RetV (.tuple #[.agg #[.int .u64 0, .int .u64 0, .int .u64 0, .int .u64 0], .bool false]) w) := by
  have hn' : (32 : Int) < (n : Int) := by omega
  have h0 : ((w.alloc (.cells #[.int .u64 0, .int .u64 0, .int .u64 0, .int .u64 0] 52)).alloc (.cells #[.int .u64 0, .int .u64 0, .int .u64 0, .int .u64 0] 52)).heap[w.heap.size]? = some (.cells #[.int .u64 0, .int .u64 0, .int .u64 0, .int .u64 0] 52 (0, 0)) := by
    rw [Below.heap_alloc _ _ _ (by simp)]
    exact heap_alloc_new w _
  have h1 : ((w.alloc (.cells #[.int .u64 0, .int .u64 0, .int .u64 0, .int .u64 0] 52)).alloc (.cells #[.int .u64 0, .int .u64 0, .int .u64 0, .int .u64 0] 52)).heap[w.heap.size + 1]? = some (.cells #[.int .u64 0, .int .u64 0, .int .u64 0, .int .u64 0] 52 (0, 0)) := by
    have := heap_alloc_new (w.alloc (.cells #[.int .u64 0, .int .u64 0, .int .u64 0, .int .u64 0] 52)) (.cells #[.int .u64 0, .int .u64 0, .int .u64 0, .int .u64 0] 52)
    simpa using this
  have HB : Hid (Below w.heap.size w ((w.alloc (.cells #[.int .u64 0, .int .u64 0, .int .u64 0, .int .u64 0] 52)).alloc (.cells #[.int .u64 0, .int .u64 0, .int .u64 0, .int .u64 0] 52))) := ((Below.refl _ _).alloc (Nat.le_refl _) _).alloc (by simp) _
  obtain ⟨x0, x1, x2, x3, y0, y1, y2, y3⟩ := four_cells5 h0
  obtain ⟨u0, u1, u2, u3, -, -, -, -⟩ := four_cells5 h1
  have H0 := Lib.hid h0
  clear h0 h1
  go_enter Try.func46, Try.ntmps46
  go_upto_region 2 with (fail)
  generalize ((w.alloc (.cells #[.int .u64 0, .int .u64 0, .int .u64 0, .int .u64 0] 52)).alloc (.cells #[.int .u64 0, .int .u64 0, .int .u64 0, .int .u64 0] 52)) = X at *
  go_wp2_with fail
  refine bodyPost_ret (results_word1 Try.results46 _ _ w.heap.size _ _ _ _ rfl (word_set H0.out _ _ _ _)) rfl ⟨rfl, below_word HB.out (Nat.le_refl _) _ _ _ _⟩
/-- Number, of both. -/
def numS (xs : List Nat) : Nat × Nat := if 0 < xs.length ∧ xs.getD 0 0 = 0 then (0, 2) else if 32 < xs.length then (0, 3) else (be xs, 0)
def NumQ (xs : List Nat) (w : World) (e : Ending) (w' : World) : Prop := e = .returned (.tuple #[W (numS xs).1, .int .i64 ((numS xs).2 : Nat)]) ∧ Below w.heap.size w w'

set_option maxRecDepth 100000 in
set_option maxHeartbeats 3200000 in
theorem number_q {A : Option Addr} {c : Nat} {xs : List Nat} (w : World) (h : Rd .u8 w A c xs) (hd : Ds 256 xs) (hl : xs.length ≤ 16777216) : Calls Try.prog 24 #[.slice A xs.length c] w (NumQ xs w) := by
  have HB0 : Hid (Below w.heap.size w (w.alloc (.cells #[.int .u64 0, .int .u64 0, .int .u64 0, .int .u64 0] 52))) := (Below.refl _ _).alloc (Nat.le_refl _) _
  have h0 := heap_alloc_new w (.cells #[.int .u64 0, .int .u64 0, .int .u64 0, .int .u64 0] 52)
  have H0 := Lib.hid h0
  obtain ⟨y0, y1, y2, y3, y4, y5, y6, y7⟩ := four_cells5 h0
  have HSZ : Hid ((w.alloc (.cells #[.int .u64 0, .int .u64 0, .int .u64 0, .int .u64 0] 52)).heap.size = w.heap.size + 1) := by show _ = _; simp
  have HRD := Lib.hid h
  have HDS := Lib.hid hd
  rcases Nat.eq_zero_or_pos xs.length with e | e
  · have HNB : Hid (¬ (0 < xs.length ∧ xs.getD 0 0 = 0)) := by intro h; omega
    obtain ⟨L, hL⟩ : ∃ L, L = xs.length := ⟨_, rfl⟩
    have HL := Lib.hid hL
    rw [← hL]
    have j1 : ¬ (0 : Int) < (L : Int) := by omega
    have j2 : ¬ 0 < L := by omega
    clear h hd h0 e hL
    by_cases h32 : 32 < xs.length
    · exfalso; have := HL.out; omega
    · have g1 : ¬ (32 : Int) < (L : Int) := by have := HL.out; omega
      have HS : Hid (numS xs = (be xs, 0)) := by show _ = _; unfold numS; rw [if_neg HNB.out, if_neg h32]
      have hbe : be xs < 256 ^ 32 := Nat.lt_of_lt_of_le (be_lt HDS.out) (Nat.pow_le_pow_right (by omega) (by omega))
      have c1 := from_t (w.alloc (.cells #[.int .u64 0, .int .u64 0, .int .u64 0, .int .u64 0] 52)) (HRD.out.alloc _) HDS.out (by omega)
      have hN : dv 256 xs.reverse = be xs := rfl
      rw [hN, ← HL.out] at c1
      obtain ⟨l0, e0⟩ : ∃ z, z = lim 0 (be xs) := ⟨_, rfl⟩
      obtain ⟨l1, e1⟩ : ∃ z, z = lim 1 (be xs) := ⟨_, rfl⟩
      obtain ⟨l2, e2⟩ : ∃ z, z = lim 2 (be xs) := ⟨_, rfl⟩
      obtain ⟨l3, e3⟩ : ∃ z, z = lim 3 (be xs) := ⟨_, rfl⟩
      have hW : W (be xs) = .agg #[.int .u64 (l0 : Nat), .int .u64 (l1 : Nat), .int .u64 (l2 : Nat), .int .u64 (l3 : Nat)] := by rw [e0, e1, e2, e3]
      rw [hW] at c1
      have C1 := Lib.hid c1
      have HWE := Lib.hid hW
      clear h32 c1 hN hbe e0 e1 e2 e3 hW
      go_enter Try.func24, Try.ntmps24
      go_upto_region 1 with (fail)
      generalize w.alloc (.cells #[.int .u64 0, .int .u64 0, .int .u64 0, .int .u64 0] 52) = X at *
      go_wp2_with fail
      (with_reducible refine C1.out.mono ?_)
      rintro e w1 ⟨rfl, hb1⟩
      have h1 := (Below.heap_alloc w1 (.cells #[.int .u64 (l0 : Nat), .int .u64 (l1 : Nat), .int .u64 (l2 : Nat), .int .u64 (l3 : Nat)] 52) w.heap.size (by have := hb1.size; rw [HSZ.out] at this; omega)).trans ((hb1.block w.heap.size (by rw [HSZ.out]; omega)).trans H0.out)
      have H1 := Lib.hid h1
      have HB1 := Lib.hid ((HB0.out.trans (hb1.mono (by rw [HSZ.out]; omega))).alloc (by have := hb1.size; rw [HSZ.out] at this; omega) (.cells #[.int .u64 (l0 : Nat), .int .u64 (l1 : Nat), .int .u64 (l2 : Nat), .int .u64 (l3 : Nat)] 52))
      clear y0 y1 y2 y3 y4 y5 y6 y7 C1 hb1
      obtain ⟨y0, y1, y2, y3, y4, y5, y6, y7⟩ := four_cells5 h1
      obtain ⟨u0, u1, u2, u3, -, -, -, -⟩ := four_cells5 (heap_alloc_new w1 (.cells #[.int .u64 (l0 : Nat), .int .u64 (l1 : Nat), .int .u64 (l2 : Nat), .int .u64 (l3 : Nat)] 52))
      clear h1
      go_wp2_with fail
      refine bodyPost_ret (results_word1 Try.results24 _ _ w.heap.size _ _ _ _ rfl (word_set H1.out _ _ _ _)) rfl ?_
      exact ⟨by rw [HS.out, HWE.out]; rfl, below_word HB1.out (Nat.le_refl _) _ _ _ _⟩
  · obtain ⟨b, o, rfl, hb, hc⟩ := h.at_ e
    have z0 : (w.alloc (.cells #[.int .u64 0, .int .u64 0, .int .u64 0, .int .u64 0] 52)).cell? ⟨b, o, none⟩ = some (.int .u8 (xs.getD 0 0 : Nat)) := by
      have h1 := hc 0 e
      rw [Nat.add_zero] at h1
      exact (HB0.out.cell (p := ⟨b, o, none⟩) hb).trans h1
    obtain ⟨x, hx⟩ : ∃ x, x = xs.getD 0 0 := ⟨_, rfl⟩
    rw [← hx] at z0
    obtain ⟨L, hL⟩ : ∃ L, L = xs.length := ⟨_, rfl⟩
    have HL := Lib.hid hL
    rw [← hL]
    have j1 : (0 : Int) < (L : Int) := by omega
    have j2 : 0 < L := by omega
    by_cases hx0 : x = 0
    · have hx1 : ((x : Int) == 0) = true := by simp; omega
      have HS : Hid (numS xs = (0, 2)) := if_pos ⟨by omega, by omega⟩
      clear h hd h0 e hL hc hb hx hx0 hl
      go_enter Try.func24, Try.ntmps24
      go_upto_region 1 with (fail)
      generalize w.alloc (.cells #[.int .u64 0, .int .u64 0, .int .u64 0, .int .u64 0] 52) = X at *
      go_wp2_with fail
      refine bodyPost_ret (results_word1 Try.results24 _ _ w.heap.size _ _ _ _ rfl (word_set H0.out _ _ _ _)) rfl ?_
      exact ⟨by rw [HS.out, W_0]; rfl, below_word HB0.out (Nat.le_refl _) _ _ _ _⟩
    · have hx1 : ((x : Int) == 0) = false := by simp; omega
      have HNB : Hid (¬ (0 < xs.length ∧ xs.getD 0 0 = 0)) := by intro h; omega
      clear h hd h0 e hL hc hb hx hx0
      by_cases h32 : 32 < xs.length
      · have g1 : (32 : Int) < (L : Int) := by have := HL.out; omega
        have C1 := Lib.hid (from_no (A := some ⟨b, o, none⟩) (c := c) (n := L) (w.alloc (.cells #[.int .u64 0, .int .u64 0, .int .u64 0, .int .u64 0] 52)) (by have := HL.out; omega))
        have HS : Hid (numS xs = (0, 3)) := by show _ = _; unfold numS; rw [if_neg HNB.out, if_pos (by omega)]
        clear h32
        go_enter Try.func24, Try.ntmps24
        go_upto_region 1 with (fail)
        generalize w.alloc (.cells #[.int .u64 0, .int .u64 0, .int .u64 0, .int .u64 0] 52) = X at *
        go_wp2_with fail
        (with_reducible refine C1.out.mono ?_)
        rintro e w1 ⟨rfl, hb1⟩
        have h1 := (Below.heap_alloc w1 (.cells #[.int .u64 0, .int .u64 0, .int .u64 0, .int .u64 0] 52) w.heap.size (by have := hb1.size; rw [HSZ.out] at this; omega)).trans ((hb1.block w.heap.size (by rw [HSZ.out]; omega)).trans H0.out)
        have H1 := Lib.hid h1
        have HB1 := Lib.hid ((HB0.out.trans (hb1.mono (by rw [HSZ.out]; omega))).alloc (by have := hb1.size; rw [HSZ.out] at this; omega) (.cells #[.int .u64 0, .int .u64 0, .int .u64 0, .int .u64 0] 52))
        clear y0 y1 y2 y3 y4 y5 y6 y7 C1 hb1
        obtain ⟨y0, y1, y2, y3, y4, y5, y6, y7⟩ := four_cells5 h1
        clear h1
        go_wp2_with fail
        refine bodyPost_ret (results_word1 Try.results24 _ _ w.heap.size _ _ _ _ rfl (word_set H1.out _ _ _ _)) rfl ?_
        exact ⟨by rw [HS.out, W_0]; rfl, below_word HB1.out (Nat.le_refl _) _ _ _ _⟩
      · have g1 : ¬ (32 : Int) < (L : Int) := by have := HL.out; omega
        have HS : Hid (numS xs = (be xs, 0)) := by show _ = _; unfold numS; rw [if_neg HNB.out, if_neg h32]
        have hbe : be xs < 256 ^ 32 := Nat.lt_of_lt_of_le (be_lt HDS.out) (Nat.pow_le_pow_right (by omega) (by omega))
        have c1 := from_t (w.alloc (.cells #[.int .u64 0, .int .u64 0, .int .u64 0, .int .u64 0] 52)) (HRD.out.alloc _) HDS.out (by omega)
        have hN : dv 256 xs.reverse = be xs := rfl
        rw [hN, ← HL.out] at c1
        obtain ⟨l0, e0⟩ : ∃ z, z = lim 0 (be xs) := ⟨_, rfl⟩
        obtain ⟨l1, e1⟩ : ∃ z, z = lim 1 (be xs) := ⟨_, rfl⟩
        obtain ⟨l2, e2⟩ : ∃ z, z = lim 2 (be xs) := ⟨_, rfl⟩
        obtain ⟨l3, e3⟩ : ∃ z, z = lim 3 (be xs) := ⟨_, rfl⟩
        have hW : W (be xs) = .agg #[.int .u64 (l0 : Nat), .int .u64 (l1 : Nat), .int .u64 (l2 : Nat), .int .u64 (l3 : Nat)] := by rw [e0, e1, e2, e3]
        rw [hW] at c1
        have C1 := Lib.hid c1
        have HWE := Lib.hid hW
        clear h32 c1 hN hbe e0 e1 e2 e3 hW
        go_enter Try.func24, Try.ntmps24
        go_upto_region 1 with (fail)
        generalize w.alloc (.cells #[.int .u64 0, .int .u64 0, .int .u64 0, .int .u64 0] 52) = X at *
        go_wp2_with fail
        (with_reducible refine C1.out.mono ?_)
        rintro e w1 ⟨rfl, hb1⟩
        have h1 := (Below.heap_alloc w1 (.cells #[.int .u64 (l0 : Nat), .int .u64 (l1 : Nat), .int .u64 (l2 : Nat), .int .u64 (l3 : Nat)] 52) w.heap.size (by have := hb1.size; rw [HSZ.out] at this; omega)).trans ((hb1.block w.heap.size (by rw [HSZ.out]; omega)).trans H0.out)
        have H1 := Lib.hid h1
        have HB1 := Lib.hid ((HB0.out.trans (hb1.mono (by rw [HSZ.out]; omega))).alloc (by have := hb1.size; rw [HSZ.out] at this; omega) (.cells #[.int .u64 (l0 : Nat), .int .u64 (l1 : Nat), .int .u64 (l2 : Nat), .int .u64 (l3 : Nat)] 52))
        clear y0 y1 y2 y3 y4 y5 y6 y7 C1 hb1
        obtain ⟨y0, y1, y2, y3, y4, y5, y6, y7⟩ := four_cells5 h1
        obtain ⟨u0, u1, u2, u3, -, -, -, -⟩ := four_cells5 (heap_alloc_new w1 (.cells #[.int .u64 (l0 : Nat), .int .u64 (l1 : Nat), .int .u64 (l2 : Nat), .int .u64 (l3 : Nat)] 52))
        clear h1
        go_wp2_with fail
        refine bodyPost_ret (results_word1 Try.results24 _ _ w.heap.size _ _ _ _ rfl (word_set H1.out _ _ _ _)) rfl ?_
        exact ⟨by rw [HS.out, HWE.out]; rfl, below_word HB1.out (Nat.le_refl _) _ _ _ _⟩

set_option maxRecDepth 100000 in
set_option maxHeartbeats 3200000 in
theorem rnumber_q {A : Option Addr} {c : Nat} {xs : List Nat} (w : World) (h : Rd .u8 w A c xs) (hd : Ds 256 xs) (hl : xs.length ≤ 16777216) : Calls Try.prog 25 #[.slice A xs.length c] w (NumQ xs w) := by
  have HB0 : Hid (Below w.heap.size w (w.alloc (.cells #[.int .u64 0, .int .u64 0, .int .u64 0, .int .u64 0] 52))) := (Below.refl _ _).alloc (Nat.le_refl _) _
  have h0 := heap_alloc_new w (.cells #[.int .u64 0, .int .u64 0, .int .u64 0, .int .u64 0] 52)
  have H0 := Lib.hid h0
  obtain ⟨y0, y1, y2, y3, y4, y5, y6, y7⟩ := four_cells5 h0
  have HSZ : Hid ((w.alloc (.cells #[.int .u64 0, .int .u64 0, .int .u64 0, .int .u64 0] 52)).heap.size = w.heap.size + 1) := by show _ = _; simp
  have HRD := Lib.hid h
  have HDS := Lib.hid hd
  rcases Nat.eq_zero_or_pos xs.length with e | e
  · have HNB : Hid (¬ (0 < xs.length ∧ xs.getD 0 0 = 0)) := by intro h; omega
    obtain ⟨L, hL⟩ : ∃ L, L = xs.length := ⟨_, rfl⟩
    have HL := Lib.hid hL
    rw [← hL]
    have j1 : ¬ (0 : Int) < (L : Int) := by omega
    have j2 : ¬ 0 < L := by omega
    clear h hd h0 e hL
    by_cases h32 : 32 < xs.length
    · exfalso; have := HL.out; omega
    · have g1 : ¬ (32 : Int) < (L : Int) := by have := HL.out; omega
      have HS : Hid (numS xs = (be xs, 0)) := by show _ = _; unfold numS; rw [if_neg HNB.out, if_neg h32]
      have hbe : be xs < 256 ^ 32 := Nat.lt_of_lt_of_le (be_lt HDS.out) (Nat.pow_le_pow_right (by omega) (by omega))
      have c1 := rfrom_n (v := .slice A xs.length c) (w.alloc (.cells #[.int .u64 0, .int .u64 0, .int .u64 0, .int .u64 0] 52)) ⟨A, c, rfl, HRD.out.alloc _, HDS.out⟩ (by omega)
      have hN : dv 256 xs.reverse = be xs := rfl
      rw [hN, ← HL.out] at c1
      have C1 := Lib.hid c1
      have HBE := Lib.hid hbe
      have HLL : Hid (xs.length ≤ 32) := by show _ ≤ _; omega
      clear h32 c1 hN hbe
      go_enter Try.func25, Try.ntmps25
      go_upto_region 1 with (fail)
      generalize w.alloc (.cells #[.int .u64 0, .int .u64 0, .int .u64 0, .int .u64 0] 52) = X at *
      go_wp2_with fail
      (with_reducible refine C1.out.mono ?_)
      rintro e w1 ⟨v1, rfl, hn1, hb1⟩
      have C2 := Lib.hid (rW_n w1 hn1 (by have := HLL.out; omega))
      have h1 := (hb1.block w.heap.size (by rw [HSZ.out]; omega)).trans H0.out
      have HB1 := Lib.hid (HB0.out.trans (hb1.mono (by rw [HSZ.out]; omega)))
      have HS1 : Hid (w.heap.size < w1.heap.size) := by have := hb1.size; rw [HSZ.out] at this; show _ < _; omega
      have H1 := Lib.hid h1
      clear C1 hn1 hb1 h1 y0 y1 y2 y3 y4 y5 y6 y7
      go_wp2_with fail
      (with_reducible refine C2.out.mono ?_)
      rintro e w2 ⟨q0, q1, q2, q3, rfl, hisw, hb2⟩
      have h2 := (hb2.block w.heap.size HS1.out).trans H1.out
      have HB2 := Lib.hid (HB1.out.trans (hb2.mono HB1.out.size))
      have hmod : be xs % 115792089237316195423570985008687907853269984665640564039457584007913129639936 = be xs := Nat.mod_eq_of_lt (by have := HBE.out; rw [show (256 : Nat) ^ 32 = 115792089237316195423570985008687907853269984665640564039457584007913129639936 by decide] at this; exact this)
      rw [hmod] at hisw
      have hW : W4 q0 q1 q2 q3 = W (be xs) := by
        obtain ⟨i0, i1, i2, i3⟩ := hisw.inj (isW_lim hisw.big)
        rw [i0, i1, i2, i3]
      have H2 := Lib.hid h2
      have HWE := Lib.hid hW
      obtain ⟨y0, y1, y2, y3, y4, y5, y6, y7⟩ := four_cells5 h2
      unfold W4
      clear C2 hb2 h2 hmod hisw hW
      go_wp2_with fail
      refine bodyPost_ret (results_word1 Try.results25 _ _ w.heap.size _ _ _ _ rfl (word_set H2.out _ _ _ _)) rfl ?_
      exact ⟨by rw [HS.out, ← HWE.out]; rfl, below_word HB2.out (Nat.le_refl _) _ _ _ _⟩
  · obtain ⟨b, o, rfl, hb, hc⟩ := h.at_ e
    have z0 : (w.alloc (.cells #[.int .u64 0, .int .u64 0, .int .u64 0, .int .u64 0] 52)).cell? ⟨b, o, none⟩ = some (.int .u8 (xs.getD 0 0 : Nat)) := by
      have h1 := hc 0 e
      rw [Nat.add_zero] at h1
      exact (HB0.out.cell (p := ⟨b, o, none⟩) hb).trans h1
    obtain ⟨x, hx⟩ : ∃ x, x = xs.getD 0 0 := ⟨_, rfl⟩
    rw [← hx] at z0
    obtain ⟨L, hL⟩ : ∃ L, L = xs.length := ⟨_, rfl⟩
    have HL := Lib.hid hL
    rw [← hL]
    have j1 : (0 : Int) < (L : Int) := by omega
    have j2 : 0 < L := by omega
    by_cases hx0 : x = 0
    · have hx1 : ((x : Int) == 0) = true := by simp; omega
      have HS : Hid (numS xs = (0, 2)) := if_pos ⟨by omega, by omega⟩
      clear h hd h0 e hL hc hb hx hx0 hl
      go_enter Try.func25, Try.ntmps25
      go_upto_region 1 with (fail)
      generalize w.alloc (.cells #[.int .u64 0, .int .u64 0, .int .u64 0, .int .u64 0] 52) = X at *
      go_wp2_with fail
      refine bodyPost_ret (results_word1 Try.results25 _ _ w.heap.size _ _ _ _ rfl (word_set H0.out _ _ _ _)) rfl ?_
      exact ⟨by rw [HS.out, W_0]; rfl, below_word HB0.out (Nat.le_refl _) _ _ _ _⟩
    · have hx1 : ((x : Int) == 0) = false := by simp; omega
      have HNB : Hid (¬ (0 < xs.length ∧ xs.getD 0 0 = 0)) := by intro h; omega
      clear h hd h0 e hL hc hb hx hx0
      by_cases h32 : 32 < xs.length
      · have g1 : (32 : Int) < (L : Int) := by have := HL.out; omega

        have HS : Hid (numS xs = (0, 3)) := by show _ = _; unfold numS; rw [if_neg HNB.out, if_pos (by omega)]
        clear h32
        go_enter Try.func25, Try.ntmps25
        go_upto_region 1 with (fail)
        generalize w.alloc (.cells #[.int .u64 0, .int .u64 0, .int .u64 0, .int .u64 0] 52) = X at *
        go_wp2_with fail
        refine bodyPost_ret (results_word1 Try.results25 _ _ w.heap.size _ _ _ _ rfl (word_set H0.out _ _ _ _)) rfl ?_
        exact ⟨by rw [HS.out, W_0]; rfl, below_word HB0.out (Nat.le_refl _) _ _ _ _⟩
      · have g1 : ¬ (32 : Int) < (L : Int) := by have := HL.out; omega
        have HS : Hid (numS xs = (be xs, 0)) := by show _ = _; unfold numS; rw [if_neg HNB.out, if_neg h32]
        have hbe : be xs < 256 ^ 32 := Nat.lt_of_lt_of_le (be_lt HDS.out) (Nat.pow_le_pow_right (by omega) (by omega))
        have c1 := rfrom_n (v := .slice (some ⟨b, o, none⟩) xs.length c) (w.alloc (.cells #[.int .u64 0, .int .u64 0, .int .u64 0, .int .u64 0] 52)) ⟨some ⟨b, o, none⟩, c, rfl, HRD.out.alloc _, HDS.out⟩ (by omega)
        have hN : dv 256 xs.reverse = be xs := rfl
        rw [hN, ← HL.out] at c1
        have C1 := Lib.hid c1
        have HBE := Lib.hid hbe
        have HLL : Hid (xs.length ≤ 32) := by show _ ≤ _; omega
        clear h32 c1 hN hbe
        go_enter Try.func25, Try.ntmps25
        go_upto_region 1 with (fail)
        generalize w.alloc (.cells #[.int .u64 0, .int .u64 0, .int .u64 0, .int .u64 0] 52) = X at *
        go_wp2_with fail
        (with_reducible refine C1.out.mono ?_)
        rintro e w1 ⟨v1, rfl, hn1, hb1⟩
        have C2 := Lib.hid (rW_n w1 hn1 (by have := HLL.out; omega))
        have h1 := (hb1.block w.heap.size (by rw [HSZ.out]; omega)).trans H0.out
        have HB1 := Lib.hid (HB0.out.trans (hb1.mono (by rw [HSZ.out]; omega)))
        have HS1 : Hid (w.heap.size < w1.heap.size) := by have := hb1.size; rw [HSZ.out] at this; show _ < _; omega
        have H1 := Lib.hid h1
        clear C1 hn1 hb1 h1 y0 y1 y2 y3 y4 y5 y6 y7
        go_wp2_with fail
        (with_reducible refine C2.out.mono ?_)
        rintro e w2 ⟨q0, q1, q2, q3, rfl, hisw, hb2⟩
        have h2 := (hb2.block w.heap.size HS1.out).trans H1.out
        have HB2 := Lib.hid (HB1.out.trans (hb2.mono HB1.out.size))
        have hmod : be xs % 115792089237316195423570985008687907853269984665640564039457584007913129639936 = be xs := Nat.mod_eq_of_lt (by have := HBE.out; rw [show (256 : Nat) ^ 32 = 115792089237316195423570985008687907853269984665640564039457584007913129639936 by decide] at this; exact this)
        rw [hmod] at hisw
        have hW : W4 q0 q1 q2 q3 = W (be xs) := by
          obtain ⟨i0, i1, i2, i3⟩ := hisw.inj (isW_lim hisw.big)
          rw [i0, i1, i2, i3]
        have H2 := Lib.hid h2
        have HWE := Lib.hid hW
        obtain ⟨y0, y1, y2, y3, y4, y5, y6, y7⟩ := four_cells5 h2
        unfold W4
        clear C2 hb2 h2 hmod hisw hW
        go_wp2_with fail
        refine bodyPost_ret (results_word1 Try.results25 _ _ w.heap.size _ _ _ _ rfl (word_set H2.out _ _ _ _)) rfl ?_
        exact ⟨by rw [HS.out, ← HWE.out]; rfl, below_word HB2.out (Nat.le_refl _) _ _ _ _⟩

theorem IAt.ofByt {w : World} {v : Value} {bs : List Nat} (h : Byt w v bs) : IAt (fun _ => True) w (.agg #[.bool false, v, .slice none 0 0]) (.text bs) := by
  obtain ⟨A, c, rfl, hr, hd⟩ := h
  exact IAt.mk (S := fun _ => True) false A c none 0 0 0 (fun _ => undef) bs [] hr hd (fun h0 => by obtain ⟨b, o, e, _⟩ := hr.at_ h0; exact ⟨b, o, e, trivial⟩) (fun h => absurd h (by simp)) (Nat.le_refl _) (fun _ => rfl) (fun j hj => absurd hj (by simp)) (fun j x hj => by simp at hj)
def OfQ (a : Nat) (w : World) (e : Ending) (w' : World) : Prop := ∃ v, e = .returned (.agg #[.bool false, v, .slice none 0 0]) ∧ Byt w' v (shortv a) ∧ Below w.heap.size w w'

set_option maxRecDepth 100000 in
set_option maxHeartbeats 3200000 in
theorem of_q {a : Nat} (ha : Big a) (w : World) : Calls Try.prog 26 #[W a] w (OfQ a w) := by
  have k1 := fun w => short_c ha w
  obtain ⟨l0, e0⟩ : ∃ z, z = lim 0 a := ⟨_, rfl⟩
  obtain ⟨l1, e1⟩ : ∃ z, z = lim 1 a := ⟨_, rfl⟩
  obtain ⟨l2, e2⟩ : ∃ z, z = lim 2 a := ⟨_, rfl⟩
  obtain ⟨l3, e3⟩ : ∃ z, z = lim 3 a := ⟨_, rfl⟩
  have hW : W a = .agg #[.int .u64 (l0 : Nat), .int .u64 (l1 : Nat), .int .u64 (l2 : Nat), .int .u64 (l3 : Nat)] := by rw [e0, e1, e2, e3]
  rw [hW] at k1 ⊢
  have K1 := Lib.hid k1
  have h1 : ((w.alloc (.cells #[.int .u64 (l0 : Nat), .int .u64 (l1 : Nat), .int .u64 (l2 : Nat), .int .u64 (l3 : Nat)] 52)).alloc (.cells #[.bool false, .slice none 0 0, .slice none 0 0] 25)).heap[w.heap.size]? = some (.cells #[.int .u64 (l0 : Nat), .int .u64 (l1 : Nat), .int .u64 (l2 : Nat), .int .u64 (l3 : Nat)] 52 (0, 0)) := by
    rw [Below.heap_alloc _ _ _ (by simp)]
    exact heap_alloc_new w _
  have h2 : ((w.alloc (.cells #[.int .u64 (l0 : Nat), .int .u64 (l1 : Nat), .int .u64 (l2 : Nat), .int .u64 (l3 : Nat)] 52)).alloc (.cells #[.bool false, .slice none 0 0, .slice none 0 0] 25)).heap[w.heap.size + 1]? = some (.cells #[.bool false, .slice none 0 0, .slice none 0 0] 25 (0, 0)) := by
    have := heap_alloc_new (w.alloc (.cells #[.int .u64 (l0 : Nat), .int .u64 (l1 : Nat), .int .u64 (l2 : Nat), .int .u64 (l3 : Nat)] 52)) (.cells #[.bool false, .slice none 0 0, .slice none 0 0] 25)
    simpa using this
  have hb : Below w.heap.size w ((w.alloc (.cells #[.int .u64 (l0 : Nat), .int .u64 (l1 : Nat), .int .u64 (l2 : Nat), .int .u64 (l3 : Nat)] 52)).alloc (.cells #[.bool false, .slice none 0 0, .slice none 0 0] 25)) := ((Below.refl _ _).alloc (Nat.le_refl _) _).alloc (by simp) _
  have hs : ((w.alloc (.cells #[.int .u64 (l0 : Nat), .int .u64 (l1 : Nat), .int .u64 (l2 : Nat), .int .u64 (l3 : Nat)] 52)).alloc (.cells #[.bool false, .slice none 0 0, .slice none 0 0] 25)).heap.size = w.heap.size + 2 := by simp
  obtain ⟨x0, x1, x2, x3, -, -, -, -⟩ := four_cells5 h1
  have H2 := Lib.hid h2
  have HB := Lib.hid hb
  have HS := Lib.hid hs
  clear k1 e0 e1 e2 e3 hW h1 h2 hb hs
  go_enter Try.func26, Try.ntmps26
  go_upto_region 1 with (fail)
  generalize ((w.alloc (.cells #[.int .u64 (l0 : Nat), .int .u64 (l1 : Nat), .int .u64 (l2 : Nat), .int .u64 (l3 : Nat)] 52)).alloc (.cells #[.bool false, .slice none 0 0, .slice none 0 0] 25)) = X at *
  go_wp2_with fail
  (with_reducible refine (K1.out _).mono ?_)
  rintro e w1 ⟨v, rfl, hv, hb1⟩
  have h2 := (hb1.block (w.heap.size + 1) (by rw [HS.out]; omega)).trans H2.out
  have H3 := Lib.hid h2
  have HB1 := Lib.hid (HB.out.trans (hb1.mono (by rw [HS.out]; omega)))
  have HV := Lib.hid hv
  obtain ⟨A, c, rfl, hr, hd⟩ := hv
  obtain ⟨y0, y1, y2, y3, y4, y5⟩ := three_cells h2
  clear K1 hb1 h2 hr hd x0 x1 x2 x3
  go_wp2_with fail
  refine bodyPost_ret (results_cell_row Try.results26 _ _ (w.heap.size + 1) 25 _ (0, 0) _ rfl (item_set H3.out _ _ _) Try.underlying25 rfl infoItem) rfl ⟨_, rfl, byt_far_item H3.out HV.out, below_item HB1.out (by omega) _ _ _⟩

set_option maxRecDepth 100000 in
set_option maxHeartbeats 3200000 in
theorem rof_q {a : Nat} (ha : Big a) (w : World) : Calls Try.prog 27 #[W a] w (OfQ a w) := by
  have k1 := fun w => rl_short1_c ha w
  obtain ⟨l0, e0⟩ : ∃ z, z = lim 0 a := ⟨_, rfl⟩
  obtain ⟨l1, e1⟩ : ∃ z, z = lim 1 a := ⟨_, rfl⟩
  obtain ⟨l2, e2⟩ : ∃ z, z = lim 2 a := ⟨_, rfl⟩
  obtain ⟨l3, e3⟩ : ∃ z, z = lim 3 a := ⟨_, rfl⟩
  have hW : W a = .agg #[.int .u64 (l0 : Nat), .int .u64 (l1 : Nat), .int .u64 (l2 : Nat), .int .u64 (l3 : Nat)] := by rw [e0, e1, e2, e3]
  rw [hW] at k1 ⊢
  have K1 := Lib.hid k1
  have h1 : ((w.alloc (.cells #[.int .u64 (l0 : Nat), .int .u64 (l1 : Nat), .int .u64 (l2 : Nat), .int .u64 (l3 : Nat)] 52)).alloc (.cells #[.bool false, .slice none 0 0, .slice none 0 0] 25)).heap[w.heap.size]? = some (.cells #[.int .u64 (l0 : Nat), .int .u64 (l1 : Nat), .int .u64 (l2 : Nat), .int .u64 (l3 : Nat)] 52 (0, 0)) := by
    rw [Below.heap_alloc _ _ _ (by simp)]
    exact heap_alloc_new w _
  have h2 : ((w.alloc (.cells #[.int .u64 (l0 : Nat), .int .u64 (l1 : Nat), .int .u64 (l2 : Nat), .int .u64 (l3 : Nat)] 52)).alloc (.cells #[.bool false, .slice none 0 0, .slice none 0 0] 25)).heap[w.heap.size + 1]? = some (.cells #[.bool false, .slice none 0 0, .slice none 0 0] 25 (0, 0)) := by
    have := heap_alloc_new (w.alloc (.cells #[.int .u64 (l0 : Nat), .int .u64 (l1 : Nat), .int .u64 (l2 : Nat), .int .u64 (l3 : Nat)] 52)) (.cells #[.bool false, .slice none 0 0, .slice none 0 0] 25)
    simpa using this
  have hb : Below w.heap.size w ((w.alloc (.cells #[.int .u64 (l0 : Nat), .int .u64 (l1 : Nat), .int .u64 (l2 : Nat), .int .u64 (l3 : Nat)] 52)).alloc (.cells #[.bool false, .slice none 0 0, .slice none 0 0] 25)) := ((Below.refl _ _).alloc (Nat.le_refl _) _).alloc (by simp) _
  have hs : ((w.alloc (.cells #[.int .u64 (l0 : Nat), .int .u64 (l1 : Nat), .int .u64 (l2 : Nat), .int .u64 (l3 : Nat)] 52)).alloc (.cells #[.bool false, .slice none 0 0, .slice none 0 0] 25)).heap.size = w.heap.size + 2 := by simp
  obtain ⟨x0, x1, x2, x3, -, -, -, -⟩ := four_cells5 h1
  have H2 := Lib.hid h2
  have HB := Lib.hid hb
  have HS := Lib.hid hs
  clear k1 e0 e1 e2 e3 hW h1 h2 hb hs
  go_enter Try.func27, Try.ntmps27
  go_upto_region 1 with (fail)
  generalize ((w.alloc (.cells #[.int .u64 (l0 : Nat), .int .u64 (l1 : Nat), .int .u64 (l2 : Nat), .int .u64 (l3 : Nat)] 52)).alloc (.cells #[.bool false, .slice none 0 0, .slice none 0 0] 25)) = X at *
  go_wp2_with fail
  (with_reducible refine (K1.out _).mono ?_)
  rintro e w1 ⟨v, rfl, hv, hb1⟩
  have h2 := (hb1.block (w.heap.size + 1) (by rw [HS.out]; omega)).trans H2.out
  have H3 := Lib.hid h2
  have HB1 := Lib.hid (HB.out.trans (hb1.mono (by rw [HS.out]; omega)))
  have HV := Lib.hid hv
  obtain ⟨A, c, rfl, hr, hd⟩ := hv
  obtain ⟨y0, y1, y2, y3, y4, y5⟩ := three_cells h2
  clear K1 hb1 h2 hr hd x0 x1 x2 x3
  go_wp2_with fail
  refine bodyPost_ret (results_cell_row Try.results27 _ _ (w.heap.size + 1) 25 _ (0, 0) _ rfl (item_set H3.out _ _ _) Try.underlying25 rfl infoItem) rfl ⟨_, rfl, byt_far_item H3.out HV.out, below_item HB1.out (by omega) _ _ _⟩
end Go.Proofs.Ytchhnalalplggaa
