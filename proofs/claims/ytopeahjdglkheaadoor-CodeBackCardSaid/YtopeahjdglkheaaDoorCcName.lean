/- Package code: Name, Named, Pops. -/
import Derived.Test.YtopeahjdglkheaaDoorCdRow
import Derived.Great.BuildSlice
import Derived.Test.YtopeahjdglkheaaDoorCdBack
import Derived.Test.YtopeahjdglkheaaDoorFoOp
import Derived.Test.YtopeahjdglkheaaDoorCdShelf
import Derived.BigQuiet
namespace Go.Proofs.YtopeahjdglkheaaDoor
open Go.RowKit

/-- An operation's form: its name without a number, what it takes and lays. -/
def formC (r : ByteArray × Nat × Nat) : List Value := [.string r.1, .int .i64 (r.2.1 : Nat), .int .i64 (r.2.2 : Nat)]
def formV (r : ByteArray × Nat × Nat) : Value := .agg #[.string r.1, .int .i64 (r.2.1 : Nat), .int .i64 (r.2.2 : Nat)]
def tabC (lo n : Nat) : Array Value := ((List.range n).flatMap fun i => formC (rowT (lo + i))).toArray
theorem infoForm : (Tryd.prog.info? 58).map (·.size) = some 3 := by kernel_rfl
theorem three_cells {w : World} {g : Nat} {x y z : Value} {t : TypeId} (h : w.heap[g]? = some (.cells #[x, y, z] t (0, 0))) : w.cell? ⟨g, 0, none⟩ = some x ∧ w.cell? ⟨g, 1, none⟩ = some y ∧ w.cell? ⟨g, 2, none⟩ = some z ∧ w.frozen? ⟨g, 0, none⟩ = false ∧ w.frozen? ⟨g, 1, none⟩ = false ∧ w.frozen? ⟨g, 2, none⟩ = false := by
  refine ⟨?_, ?_, ?_, ?_, ?_, ?_⟩
  · rw [cell_of_row _ _ _ _ t (0, 0) h]; rfl
  · rw [cell_of_row _ _ _ _ t (0, 0) h]; rfl
  · rw [cell_of_row _ _ _ _ t (0, 0) h]; rfl
  · exact frozen_of_row _ _ _ _ t h
  · exact frozen_of_row _ _ _ _ t h
  · exact frozen_of_row _ _ _ _ t h

theorem reckoning_ix : ∀ m : Nat, m < 33 → ∀ w : World, (Instr.index 84 (.agg (tabC 0 33)) (.int .i64 (m : Nat))).run Tryd.prog w = .ok (formV (rowT (0 + m))) w
  | 0, _, _ => by kernel_rfl
  | 1, _, _ => by kernel_rfl
  | 2, _, _ => by kernel_rfl
  | 3, _, _ => by kernel_rfl
  | 4, _, _ => by kernel_rfl
  | 5, _, _ => by kernel_rfl
  | 6, _, _ => by kernel_rfl
  | 7, _, _ => by kernel_rfl
  | 8, _, _ => by kernel_rfl
  | 9, _, _ => by kernel_rfl
  | 10, _, _ => by kernel_rfl
  | 11, _, _ => by kernel_rfl
  | 12, _, _ => by kernel_rfl
  | 13, _, _ => by kernel_rfl
  | 14, _, _ => by kernel_rfl
  | 15, _, _ => by kernel_rfl
  | 16, _, _ => by kernel_rfl
  | 17, _, _ => by kernel_rfl
  | 18, _, _ => by kernel_rfl
  | 19, _, _ => by kernel_rfl
  | 20, _, _ => by kernel_rfl
  | 21, _, _ => by kernel_rfl
  | 22, _, _ => by kernel_rfl
  | 23, _, _ => by kernel_rfl
  | 24, _, _ => by kernel_rfl
  | 25, _, _ => by kernel_rfl
  | 26, _, _ => by kernel_rfl
  | 27, _, _ => by kernel_rfl
  | 28, _, _ => by kernel_rfl
  | 29, _, _ => by kernel_rfl
  | 30, _, _ => by kernel_rfl
  | 31, _, _ => by kernel_rfl
  | 32, _, _ => by kernel_rfl
  | k + 33, h, _ => absurd h (by omega)
set_option maxRecDepth 100000 in
set_option maxHeartbeats 6400000 in
theorem reckoning_c (m : Nat) (hm : m < 33) (w : World) : Calls Tryd.prog 44 #[.int .i64 ((m : Nat) : Int)] w (RetV (formV (rowT (0 + m))) w) := by
  have ix := fun w => reckoning_ix m hm w
  obtain ⟨s, p, q, hr⟩ : ∃ s p q, rowT (0 + m) = (s, p, q) := ⟨_, _, _, rfl⟩
  unfold formV at ix ⊢
  rw [hr] at ix ⊢
  clear hr
  dsimp only at ix ⊢
  clear hm
  have IX := Lib.hid ix
  clear ix
  have HN : Hid ((w.alloc (.cells #[.string s, .int .i64 (p : Nat), .int .i64 (q : Nat)] 58)).heap[w.heap.size]? = some (.cells #[.string s, .int .i64 (p : Nat), .int .i64 (q : Nat)] 58 (0, 0))) := heap_alloc_new w _
  have HB : Hid (Below w.heap.size w (w.alloc (.cells #[.string s, .int .i64 (p : Nat), .int .i64 (q : Nat)] 58))) := (Below.refl _ _).alloc (Nat.le_refl _) _
  obtain ⟨T, hT⟩ : ∃ T, T = tabC 0 33 := ⟨_, rfl⟩
  rw [← hT] at IX
  have HT := Lib.hid hT
  clear hT
  go_enter Tryd.func44, Tryd.ntmps44
  go_wp2_with (refine wpList_buildTo rfl 84 _ rfl (some 30) rfl T (by rw [HT.out]; kernel_rfl) ?_; have ix := IX.out)
  exact bodyPost_ret (v := .agg #[.string s, .int .i64 (p : Nat), .int .i64 (q : Nat)]) (results_cell_row Tryd.results44 _ _ w.heap.size 58 _ (0, 0) _ rfl HN.out Tryd.underlying58 rfl infoForm) rfl ⟨rfl, HB.out⟩

theorem telling_ix : ∀ m : Nat, m < 27 → ∀ w : World, (Instr.index 85 (.agg (tabC 48 27)) (.int .i64 (m : Nat))).run Tryd.prog w = .ok (formV (rowT (48 + m))) w
  | 0, _, _ => by kernel_rfl
  | 1, _, _ => by kernel_rfl
  | 2, _, _ => by kernel_rfl
  | 3, _, _ => by kernel_rfl
  | 4, _, _ => by kernel_rfl
  | 5, _, _ => by kernel_rfl
  | 6, _, _ => by kernel_rfl
  | 7, _, _ => by kernel_rfl
  | 8, _, _ => by kernel_rfl
  | 9, _, _ => by kernel_rfl
  | 10, _, _ => by kernel_rfl
  | 11, _, _ => by kernel_rfl
  | 12, _, _ => by kernel_rfl
  | 13, _, _ => by kernel_rfl
  | 14, _, _ => by kernel_rfl
  | 15, _, _ => by kernel_rfl
  | 16, _, _ => by kernel_rfl
  | 17, _, _ => by kernel_rfl
  | 18, _, _ => by kernel_rfl
  | 19, _, _ => by kernel_rfl
  | 20, _, _ => by kernel_rfl
  | 21, _, _ => by kernel_rfl
  | 22, _, _ => by kernel_rfl
  | 23, _, _ => by kernel_rfl
  | 24, _, _ => by kernel_rfl
  | 25, _, _ => by kernel_rfl
  | 26, _, _ => by kernel_rfl
  | k + 27, h, _ => absurd h (by omega)
set_option maxRecDepth 100000 in
set_option maxHeartbeats 6400000 in
theorem telling_c (m : Nat) (hm : m < 27) (w : World) : Calls Tryd.prog 45 #[.int .i64 ((48 + m : Nat) : Int)] w (RetV (formV (rowT (48 + m))) w) := by
  have ix := fun w => telling_ix m hm w
  obtain ⟨s, p, q, hr⟩ : ∃ s p q, rowT (48 + m) = (s, p, q) := ⟨_, _, _, rfl⟩
  unfold formV at ix ⊢
  rw [hr] at ix ⊢
  clear hr
  dsimp only at ix ⊢
  have wk : IntKind.i64.wrap (((48 + m : Nat) : Int) - 48) = (m : Int) := by rw [IntWalk.i64_in _ (by omega)]; omega
  obtain ⟨a, ha⟩ : ∃ a, a = 48 + m := ⟨_, rfl⟩
  rw [← ha] at wk ⊢
  clear ha
  clear hm
  have IX := Lib.hid ix
  clear ix
  have HN : Hid ((w.alloc (.cells #[.string s, .int .i64 (p : Nat), .int .i64 (q : Nat)] 58)).heap[w.heap.size]? = some (.cells #[.string s, .int .i64 (p : Nat), .int .i64 (q : Nat)] 58 (0, 0))) := heap_alloc_new w _
  have HB : Hid (Below w.heap.size w (w.alloc (.cells #[.string s, .int .i64 (p : Nat), .int .i64 (q : Nat)] 58))) := (Below.refl _ _).alloc (Nat.le_refl _) _
  obtain ⟨T, hT⟩ : ∃ T, T = tabC 48 27 := ⟨_, rfl⟩
  rw [← hT] at IX
  have HT := Lib.hid hT
  clear hT
  go_enter Tryd.func45, Tryd.ntmps45
  go_wp2_with (refine wpList_buildTo rfl 85 _ rfl (some 30) rfl T (by rw [HT.out]; kernel_rfl) ?_; have ix := IX.out)
  exact bodyPost_ret (v := .agg #[.string s, .int .i64 (p : Nat), .int .i64 (q : Nat)]) (results_cell_row Tryd.results45 _ _ w.heap.size 58 _ (0, 0) _ rfl HN.out Tryd.underlying58 rfl infoForm) rfl ⟨rfl, HB.out⟩

theorem keeping_ix : ∀ m : Nat, m < 15 → ∀ w : World, (Instr.index 86 (.agg (tabC 80 15)) (.int .i64 (m : Nat))).run Tryd.prog w = .ok (formV (rowT (80 + m))) w
  | 0, _, _ => by kernel_rfl
  | 1, _, _ => by kernel_rfl
  | 2, _, _ => by kernel_rfl
  | 3, _, _ => by kernel_rfl
  | 4, _, _ => by kernel_rfl
  | 5, _, _ => by kernel_rfl
  | 6, _, _ => by kernel_rfl
  | 7, _, _ => by kernel_rfl
  | 8, _, _ => by kernel_rfl
  | 9, _, _ => by kernel_rfl
  | 10, _, _ => by kernel_rfl
  | 11, _, _ => by kernel_rfl
  | 12, _, _ => by kernel_rfl
  | 13, _, _ => by kernel_rfl
  | 14, _, _ => by kernel_rfl
  | k + 15, h, _ => absurd h (by omega)
set_option maxRecDepth 100000 in
set_option maxHeartbeats 6400000 in
theorem keeping_c (m : Nat) (hm : m < 15) (w : World) : Calls Tryd.prog 46 #[.int .i64 ((80 + m : Nat) : Int)] w (RetV (formV (rowT (80 + m))) w) := by
  have ix := fun w => keeping_ix m hm w
  obtain ⟨s, p, q, hr⟩ : ∃ s p q, rowT (80 + m) = (s, p, q) := ⟨_, _, _, rfl⟩
  unfold formV at ix ⊢
  rw [hr] at ix ⊢
  clear hr
  dsimp only at ix ⊢
  have wk : IntKind.i64.wrap (((80 + m : Nat) : Int) - 80) = (m : Int) := by rw [IntWalk.i64_in _ (by omega)]; omega
  obtain ⟨a, ha⟩ : ∃ a, a = 80 + m := ⟨_, rfl⟩
  rw [← ha] at wk ⊢
  clear ha
  clear hm
  have IX := Lib.hid ix
  clear ix
  have HN : Hid ((w.alloc (.cells #[.string s, .int .i64 (p : Nat), .int .i64 (q : Nat)] 58)).heap[w.heap.size]? = some (.cells #[.string s, .int .i64 (p : Nat), .int .i64 (q : Nat)] 58 (0, 0))) := heap_alloc_new w _
  have HB : Hid (Below w.heap.size w (w.alloc (.cells #[.string s, .int .i64 (p : Nat), .int .i64 (q : Nat)] 58))) := (Below.refl _ _).alloc (Nat.le_refl _) _
  obtain ⟨T, hT⟩ : ∃ T, T = tabC 80 15 := ⟨_, rfl⟩
  rw [← hT] at IX
  have HT := Lib.hid hT
  clear hT
  go_enter Tryd.func46, Tryd.ntmps46
  go_wp2_with (refine wpList_buildTo rfl 86 _ rfl (some 18) rfl T (by rw [HT.out]; kernel_rfl) ?_; have ix := IX.out)
  exact bodyPost_ret (v := .agg #[.string s, .int .i64 (p : Nat), .int .i64 (q : Nat)]) (results_cell_row Tryd.results46 _ _ w.heap.size 58 _ (0, 0) _ rfl HN.out Tryd.underlying58 rfl infoForm) rfl ⟨rfl, HB.out⟩

theorem sending_ix : ∀ m : Nat, m < 16 → ∀ w : World, (Instr.index 87 (.agg (tabC 240 16)) (.int .i64 (m : Nat))).run Tryd.prog w = .ok (formV (rowT (240 + m))) w
  | 0, _, _ => by kernel_rfl
  | 1, _, _ => by kernel_rfl
  | 2, _, _ => by kernel_rfl
  | 3, _, _ => by kernel_rfl
  | 4, _, _ => by kernel_rfl
  | 5, _, _ => by kernel_rfl
  | 6, _, _ => by kernel_rfl
  | 7, _, _ => by kernel_rfl
  | 8, _, _ => by kernel_rfl
  | 9, _, _ => by kernel_rfl
  | 10, _, _ => by kernel_rfl
  | 11, _, _ => by kernel_rfl
  | 12, _, _ => by kernel_rfl
  | 13, _, _ => by kernel_rfl
  | 14, _, _ => by kernel_rfl
  | 15, _, _ => by kernel_rfl
  | k + 16, h, _ => absurd h (by omega)
set_option maxRecDepth 100000 in
set_option maxHeartbeats 6400000 in
theorem sending_c (m : Nat) (hm : m < 16) (w : World) : Calls Tryd.prog 47 #[.int .i64 ((240 + m : Nat) : Int)] w (RetV (formV (rowT (240 + m))) w) := by
  have ix := fun w => sending_ix m hm w
  obtain ⟨s, p, q, hr⟩ : ∃ s p q, rowT (240 + m) = (s, p, q) := ⟨_, _, _, rfl⟩
  unfold formV at ix ⊢
  rw [hr] at ix ⊢
  clear hr
  dsimp only at ix ⊢
  have wk : IntKind.i64.wrap (((240 + m : Nat) : Int) - 240) = (m : Int) := by rw [IntWalk.i64_in _ (by omega)]; omega
  obtain ⟨a, ha⟩ : ∃ a, a = 240 + m := ⟨_, rfl⟩
  rw [← ha] at wk ⊢
  clear ha
  clear hm
  have IX := Lib.hid ix
  clear ix
  have HN : Hid ((w.alloc (.cells #[.string s, .int .i64 (p : Nat), .int .i64 (q : Nat)] 58)).heap[w.heap.size]? = some (.cells #[.string s, .int .i64 (p : Nat), .int .i64 (q : Nat)] 58 (0, 0))) := heap_alloc_new w _
  have HB : Hid (Below w.heap.size w (w.alloc (.cells #[.string s, .int .i64 (p : Nat), .int .i64 (q : Nat)] 58))) := (Below.refl _ _).alloc (Nat.le_refl _) _
  obtain ⟨T, hT⟩ : ∃ T, T = tabC 240 16 := ⟨_, rfl⟩
  rw [← hT] at IX
  have HT := Lib.hid hT
  clear hT
  go_enter Tryd.func47, Tryd.ntmps47
  go_wp2_with (refine wpList_buildTo rfl 87 _ rfl (some 12) rfl T (by rw [HT.out]; kernel_rfl) ?_; have ix := IX.out)
  exact bodyPost_ret (v := .agg #[.string s, .int .i64 (p : Nat), .int .i64 (q : Nat)]) (results_cell_row Tryd.results47 _ _ w.heap.size 58 _ (0, 0) _ rfl HN.out Tryd.underlying58 rfl infoForm) rfl ⟨rfl, HB.out⟩
end Go.Proofs.YtopeahjdglkheaaDoor
namespace Go.Proofs.YtopeahjdglkheaaDoor
open Go.RowKit

/-- What look tells: a form, and the number at the end of its name. -/
def lkN (n : Nat) : (ByteArray × Nat × Nat) × Int :=
  if n < 95 then (rowT n, -1) else
  if n < 128 then ((⟨#[80, 85, 83, 72]⟩, 0, 1), (n - 95 : Nat)) else
  if n < 144 then ((⟨#[68, 85, 80]⟩, n - 127, n - 126), (n - 127 : Nat)) else
  if n < 160 then ((⟨#[83, 87, 65, 80]⟩, n - 142, n - 142), (n - 143 : Nat)) else
  if n < 240 then ((⟨#[76, 79, 71]⟩, n - 160 + 2, 0), (n - 160 : Nat)) else (rowT n, -1)
theorem lk_low : ∀ n : Nat, n < 48 → opFirst n ≠ 99 → n < 33 := by decide +kernel
theorem lk_mid : ∀ n : Nat, n < 80 → opFirst n ≠ 99 → 48 ≤ n → n < 75 := by decide +kernel
theorem lk_num : ∀ n : Nat, n < 256 → opFirst n ≠ 99 → (lkN n).2 ≠ -1 → (lkN n).2 = (((lkN n).2.toNat : Nat) : Int) ∧ (lkN n).2.toNat < 100 := by decide +kernel
/-- A name without its number, and the number. -/
theorem lk_name : ∀ n : Nat, n < 256 → opFirst n ≠ 99 → (rowN false n) = (if (lkN n).2 = -1 then (lkN n).1.1 else (lkN n).1.1 ++ sOf (decL (lkN n).2.toNat), (lkN n).1.2.1, (lkN n).1.2.2) := by decide +kernel
theorem there_c (f op : Int) (w : World) : Calls Tryd.prog 28 #[.int .i64 f, .int .i64 op] w fun e w' => e = .returned (.bool (opZ f op)) ∧ w' = w := by
  have K := Lib.hid (foop_c f op w)
  generalize opZ f op = b at *
  go_enter Tryd.func28, Tryd.ntmps28
  go_wp2_with fail
  (with_reducible refine K.out.mono ?_)
  rintro e w1 ⟨rfl, rfl⟩
  clear K
  go_wp2_with fail
  go_ret
  exact ⟨rfl, rfl⟩
set_option maxRecDepth 100000 in
set_option maxHeartbeats 6400000 in
theorem plook_reckoning (n : Nat) (hn : n < 33) (w : World) : Calls Tryd.prog 29 #[.int .i64 (n : Nat)] w (RetV (.tuple #[formV (lkN n).1, .int .i64 (lkN n).2]) w) := by
  have el : lkN n = (rowT n, -1) := by
    unfold lkN
    rw [if_pos (by omega)]
  rw [el]
  have k : ∀ u, Calls Tryd.prog 44 #[.int .i64 (n : Nat)] u (RetV (formV (rowT n)) u) := fun u => by
    have h := reckoning_c (n - 0) (by omega) u
    rw [show 0 + (n - 0) = n by omega] at h
    exact h
  unfold formV at k ⊢
  obtain ⟨s, p, q, hr⟩ : ∃ s p q, rowT n = (s, p, q) := ⟨_, _, _, rfl⟩
  rw [hr] at k ⊢
  dsimp only at k ⊢
  have K := Lib.hid k
  clear k hr el
  have t0 : (n : Int) < 48 := by omega
  clear hn
  have hg0 := heap_alloc_new w (.cells #[.string ⟨#[]⟩, .int .i64 0, .int .i64 0] 58)
  have hb0 := (Below.refl w.heap.size w).alloc (Nat.le_refl _) (.cells #[.string ⟨#[]⟩, .int .i64 0, .int .i64 0] 58)
  have hs0 : w.heap.size + 1 ≤ (w.alloc (.cells #[.string ⟨#[]⟩, .int .i64 0, .int .i64 0] 58)).heap.size := by simp
  go_enter Tryd.func29, Tryd.ntmps29
  go_upto_region 1 with (fail)
  generalize w.alloc (.cells #[.string ⟨#[]⟩, .int .i64 0, .int .i64 0] 58) = X at *
  have HG := Lib.hid hg0
  have HB := Lib.hid hb0
  have HS := Lib.hid hs0
  clear hg0 hb0 hs0
  go_wp2_with fail
  (with_reducible refine (K.out _).mono ?_)
  rintro e w1 ⟨rfl, hb1⟩
  have hg1 := (hb1.block w.heap.size (by have := HS.out; omega)).trans HG.out
  have HB1 := Lib.hid (HB.out.trans (hb1.mono HB.out.size))
  obtain ⟨c0, c1, c2, f0, f1, f2⟩ := three_cells hg1
  clear K hb1 hg1 HG HB
  go_wp2_with fail
  exact bodyPost_ret (v := .tuple #[.agg #[.string s, .int .i64 (p : Nat), .int .i64 (q : Nat)], .int .i64 (-1)]) (by simp [results, Tryd.results29, go_sem, c0, c1, c2]) rfl ⟨rfl, ((HB1.out.setCell (p := ⟨w.heap.size, 0, none⟩) (Nat.le_refl _) _).setCell (p := ⟨w.heap.size, 1, none⟩) (Nat.le_refl _) _).setCell (p := ⟨w.heap.size, 2, none⟩) (Nat.le_refl _) _⟩
set_option maxRecDepth 100000 in
set_option maxHeartbeats 6400000 in
theorem plook_telling (n : Nat) (hn : 48 ≤ n ∧ n < 75) (w : World) : Calls Tryd.prog 29 #[.int .i64 (n : Nat)] w (RetV (.tuple #[formV (lkN n).1, .int .i64 (lkN n).2]) w) := by
  have el : lkN n = (rowT n, -1) := by
    unfold lkN
    rw [if_pos (by omega)]
  rw [el]
  have k : ∀ u, Calls Tryd.prog 45 #[.int .i64 (n : Nat)] u (RetV (formV (rowT n)) u) := fun u => by
    have h := telling_c (n - 48) (by omega) u
    rw [show 48 + (n - 48) = n by omega] at h
    exact h
  unfold formV at k ⊢
  obtain ⟨s, p, q, hr⟩ : ∃ s p q, rowT n = (s, p, q) := ⟨_, _, _, rfl⟩
  rw [hr] at k ⊢
  dsimp only at k ⊢
  have K := Lib.hid k
  clear k hr el
  have t0 : ¬ (n : Int) < 48 := by omega
  have t1 : (n : Int) < 80 := by omega
  clear hn
  have hg0 := heap_alloc_new w (.cells #[.string ⟨#[]⟩, .int .i64 0, .int .i64 0] 58)
  have hb0 := (Below.refl w.heap.size w).alloc (Nat.le_refl _) (.cells #[.string ⟨#[]⟩, .int .i64 0, .int .i64 0] 58)
  have hs0 : w.heap.size + 1 ≤ (w.alloc (.cells #[.string ⟨#[]⟩, .int .i64 0, .int .i64 0] 58)).heap.size := by simp
  go_enter Tryd.func29, Tryd.ntmps29
  go_upto_region 1 with (fail)
  generalize w.alloc (.cells #[.string ⟨#[]⟩, .int .i64 0, .int .i64 0] 58) = X at *
  have HG := Lib.hid hg0
  have HB := Lib.hid hb0
  have HS := Lib.hid hs0
  clear hg0 hb0 hs0
  go_wp2_with fail
  (with_reducible refine (K.out _).mono ?_)
  rintro e w1 ⟨rfl, hb1⟩
  have hg1 := (hb1.block w.heap.size (by have := HS.out; omega)).trans HG.out
  have HB1 := Lib.hid (HB.out.trans (hb1.mono HB.out.size))
  obtain ⟨c0, c1, c2, f0, f1, f2⟩ := three_cells hg1
  clear K hb1 hg1 HG HB
  go_wp2_with fail
  exact bodyPost_ret (v := .tuple #[.agg #[.string s, .int .i64 (p : Nat), .int .i64 (q : Nat)], .int .i64 (-1)]) (by simp [results, Tryd.results29, go_sem, c0, c1, c2]) rfl ⟨rfl, ((HB1.out.setCell (p := ⟨w.heap.size, 0, none⟩) (Nat.le_refl _) _).setCell (p := ⟨w.heap.size, 1, none⟩) (Nat.le_refl _) _).setCell (p := ⟨w.heap.size, 2, none⟩) (Nat.le_refl _) _⟩
set_option maxRecDepth 100000 in
set_option maxHeartbeats 6400000 in
theorem plook_keeping (n : Nat) (hn : 80 ≤ n ∧ n < 95) (w : World) : Calls Tryd.prog 29 #[.int .i64 (n : Nat)] w (RetV (.tuple #[formV (lkN n).1, .int .i64 (lkN n).2]) w) := by
  have el : lkN n = (rowT n, -1) := by
    unfold lkN
    rw [if_pos (by omega)]
  rw [el]
  have k : ∀ u, Calls Tryd.prog 46 #[.int .i64 (n : Nat)] u (RetV (formV (rowT n)) u) := fun u => by
    have h := keeping_c (n - 80) (by omega) u
    rw [show 80 + (n - 80) = n by omega] at h
    exact h
  unfold formV at k ⊢
  obtain ⟨s, p, q, hr⟩ : ∃ s p q, rowT n = (s, p, q) := ⟨_, _, _, rfl⟩
  rw [hr] at k ⊢
  dsimp only at k ⊢
  have K := Lib.hid k
  clear k hr el
  have t0 : ¬ (n : Int) < 48 := by omega
  have t1 : ¬ (n : Int) < 80 := by omega
  have t2 : (n : Int) < 95 := by omega
  clear hn
  have hg0 := heap_alloc_new w (.cells #[.string ⟨#[]⟩, .int .i64 0, .int .i64 0] 58)
  have hb0 := (Below.refl w.heap.size w).alloc (Nat.le_refl _) (.cells #[.string ⟨#[]⟩, .int .i64 0, .int .i64 0] 58)
  have hs0 : w.heap.size + 1 ≤ (w.alloc (.cells #[.string ⟨#[]⟩, .int .i64 0, .int .i64 0] 58)).heap.size := by simp
  go_enter Tryd.func29, Tryd.ntmps29
  go_upto_region 1 with (fail)
  generalize w.alloc (.cells #[.string ⟨#[]⟩, .int .i64 0, .int .i64 0] 58) = X at *
  have HG := Lib.hid hg0
  have HB := Lib.hid hb0
  have HS := Lib.hid hs0
  clear hg0 hb0 hs0
  go_wp2_with fail
  (with_reducible refine (K.out _).mono ?_)
  rintro e w1 ⟨rfl, hb1⟩
  have hg1 := (hb1.block w.heap.size (by have := HS.out; omega)).trans HG.out
  have HB1 := Lib.hid (HB.out.trans (hb1.mono HB.out.size))
  obtain ⟨c0, c1, c2, f0, f1, f2⟩ := three_cells hg1
  clear K hb1 hg1 HG HB
  go_wp2_with fail
  exact bodyPost_ret (v := .tuple #[.agg #[.string s, .int .i64 (p : Nat), .int .i64 (q : Nat)], .int .i64 (-1)]) (by simp [results, Tryd.results29, go_sem, c0, c1, c2]) rfl ⟨rfl, ((HB1.out.setCell (p := ⟨w.heap.size, 0, none⟩) (Nat.le_refl _) _).setCell (p := ⟨w.heap.size, 1, none⟩) (Nat.le_refl _) _).setCell (p := ⟨w.heap.size, 2, none⟩) (Nat.le_refl _) _⟩
set_option maxRecDepth 100000 in
set_option maxHeartbeats 6400000 in
theorem plook_sending (n : Nat) (hn : 240 ≤ n ∧ n < 256) (w : World) : Calls Tryd.prog 29 #[.int .i64 (n : Nat)] w (RetV (.tuple #[formV (lkN n).1, .int .i64 (lkN n).2]) w) := by
  have el : lkN n = (rowT n, -1) := by
    unfold lkN
    rw [if_neg (by omega), if_neg (by omega), if_neg (by omega), if_neg (by omega), if_neg (by omega)]
  rw [el]
  have k : ∀ u, Calls Tryd.prog 47 #[.int .i64 (n : Nat)] u (RetV (formV (rowT n)) u) := fun u => by
    have h := sending_c (n - 240) (by omega) u
    rw [show 240 + (n - 240) = n by omega] at h
    exact h
  unfold formV at k ⊢
  obtain ⟨s, p, q, hr⟩ : ∃ s p q, rowT n = (s, p, q) := ⟨_, _, _, rfl⟩
  rw [hr] at k ⊢
  dsimp only at k ⊢
  have K := Lib.hid k
  clear k hr el
  have t0 : ¬ (n : Int) < 48 := by omega
  have t1 : ¬ (n : Int) < 80 := by omega
  have t2 : ¬ (n : Int) < 95 := by omega
  have t3 : ¬ (n : Int) < 128 := by omega
  have t4 : ¬ (n : Int) < 144 := by omega
  have t5 : ¬ (n : Int) < 160 := by omega
  have t6 : ¬ (n : Int) < 240 := by omega
  clear hn
  have hg0 := heap_alloc_new w (.cells #[.string ⟨#[]⟩, .int .i64 0, .int .i64 0] 58)
  have hb0 := (Below.refl w.heap.size w).alloc (Nat.le_refl _) (.cells #[.string ⟨#[]⟩, .int .i64 0, .int .i64 0] 58)
  have hs0 : w.heap.size + 1 ≤ (w.alloc (.cells #[.string ⟨#[]⟩, .int .i64 0, .int .i64 0] 58)).heap.size := by simp
  go_enter Tryd.func29, Tryd.ntmps29
  go_upto_region 1 with (fail)
  generalize w.alloc (.cells #[.string ⟨#[]⟩, .int .i64 0, .int .i64 0] 58) = X at *
  have HG := Lib.hid hg0
  have HB := Lib.hid hb0
  have HS := Lib.hid hs0
  clear hg0 hb0 hs0
  go_wp2_with fail
  (with_reducible refine (K.out _).mono ?_)
  rintro e w1 ⟨rfl, hb1⟩
  have hg1 := (hb1.block w.heap.size (by have := HS.out; omega)).trans HG.out
  have HB1 := Lib.hid (HB.out.trans (hb1.mono HB.out.size))
  obtain ⟨c0, c1, c2, f0, f1, f2⟩ := three_cells hg1
  clear K hb1 hg1 HG HB
  go_wp2_with fail
  exact bodyPost_ret (v := .tuple #[.agg #[.string s, .int .i64 (p : Nat), .int .i64 (q : Nat)], .int .i64 (-1)]) (by simp [results, Tryd.results29, go_sem, c0, c1, c2]) rfl ⟨rfl, ((HB1.out.setCell (p := ⟨w.heap.size, 0, none⟩) (Nat.le_refl _) _).setCell (p := ⟨w.heap.size, 1, none⟩) (Nat.le_refl _) _).setCell (p := ⟨w.heap.size, 2, none⟩) (Nat.le_refl _) _⟩
set_option maxRecDepth 100000 in
set_option maxHeartbeats 6400000 in
theorem plook_push (n : Nat) (h1 : 95 ≤ n) (h2 : n < 128) (w : World) : Calls Tryd.prog 29 #[.int .i64 (n : Nat)] w (RetV (.tuple #[formV (lkN n).1, .int .i64 (lkN n).2]) w) := by
  have el : lkN n = (((⟨#[80, 85, 83, 72]⟩ : ByteArray), 0, 1), ((n - 95 : Nat) : Int)) := by
    unfold lkN
    rw [if_neg (by omega), if_pos (by omega)]
  rw [el]
  unfold formV
  dsimp only
  clear el
  have t0 : ¬ (n : Int) < 48 := by omega
  have t1 : ¬ (n : Int) < 80 := by omega
  have t2 : ¬ (n : Int) < 95 := by omega
  have t3 : (n : Int) < 128 := by omega
  have w1 : IntKind.i64.wrap ((n : Int) - 95) = ((n - 95 : Nat) : Int) := by rw [IntWalk.i64_in _ (by omega)]; omega
  obtain ⟨k, hk⟩ : ∃ k, k = n - 95 := ⟨_, rfl⟩
  rw [← hk] at w1 ⊢
  clear hk
  have hg0 := heap_alloc_new w (.cells #[.string ⟨#[]⟩, .int .i64 0, .int .i64 0] 58)
  have hb0 := (Below.refl w.heap.size w).alloc (Nat.le_refl _) (.cells #[.string ⟨#[]⟩, .int .i64 0, .int .i64 0] 58)
  have hs0 : w.heap.size + 1 ≤ (w.alloc (.cells #[.string ⟨#[]⟩, .int .i64 0, .int .i64 0] 58)).heap.size := by simp
  clear h1 h2
  go_enter Tryd.func29, Tryd.ntmps29
  go_upto_region 1 with (fail)
  generalize w.alloc (.cells #[.string ⟨#[]⟩, .int .i64 0, .int .i64 0] 58) = X at *
  have HB := Lib.hid hb0
  obtain ⟨c0, c1, c2, f0, f1, f2⟩ := three_cells hg0
  clear hg0 hb0 hs0
  go_wp2_with fail
  exact bodyPost_ret (v := .tuple #[.agg #[.string ⟨#[80, 85, 83, 72]⟩, .int .i64 (0 : Nat), .int .i64 (1 : Nat)], .int .i64 (k : Nat)]) (by simp [results, Tryd.results29, go_sem, c0, c1, c2]) rfl ⟨rfl, ((HB.out.setCell (p := ⟨w.heap.size, 0, none⟩) (Nat.le_refl _) _).setCell (p := ⟨w.heap.size, 1, none⟩) (Nat.le_refl _) _).setCell (p := ⟨w.heap.size, 2, none⟩) (Nat.le_refl _) _⟩
set_option maxRecDepth 100000 in
set_option maxHeartbeats 6400000 in
theorem plook_dup (n : Nat) (h1 : 128 ≤ n) (h2 : n < 144) (w : World) : Calls Tryd.prog 29 #[.int .i64 (n : Nat)] w (RetV (.tuple #[formV (lkN n).1, .int .i64 (lkN n).2]) w) := by
  have el : lkN n = (((⟨#[68, 85, 80]⟩ : ByteArray), n - 127, n - 126), ((n - 127 : Nat) : Int)) := by
    unfold lkN
    rw [if_neg (by omega), if_neg (by omega), if_pos (by omega)]
  rw [el]
  unfold formV
  dsimp only
  clear el
  have t0 : ¬ (n : Int) < 48 := by omega
  have t1 : ¬ (n : Int) < 80 := by omega
  have t2 : ¬ (n : Int) < 95 := by omega
  have t3 : ¬ (n : Int) < 128 := by omega
  have t4 : (n : Int) < 144 := by omega
  have w1 : IntKind.i64.wrap ((n : Int) - 128) = ((n - 128 : Nat) : Int) := by rw [IntWalk.i64_in _ (by omega)]; omega
  have w2 : IntKind.i64.wrap (((n - 128 : Nat) : Int) + 1) = ((n - 127 : Nat) : Int) := by rw [IntWalk.i64_in _ (by omega)]; omega
  have w3 : IntKind.i64.wrap (((n - 127 : Nat) : Int) + 1) = ((n - 126 : Nat) : Int) := by rw [IntWalk.i64_in _ (by omega)]; omega
  obtain ⟨j, hj⟩ : ∃ j, j = n - 128 := ⟨_, rfl⟩
  obtain ⟨k, hk⟩ : ∃ k, k = n - 127 := ⟨_, rfl⟩
  obtain ⟨l, hl⟩ : ∃ l, l = n - 126 := ⟨_, rfl⟩
  rw [← hk, ← hl]
  rw [← hj] at w1 w2
  rw [← hk] at w2 w3
  rw [← hl] at w3
  clear hj hk hl
  have hg0 := heap_alloc_new w (.cells #[.string ⟨#[]⟩, .int .i64 0, .int .i64 0] 58)
  have hb0 := (Below.refl w.heap.size w).alloc (Nat.le_refl _) (.cells #[.string ⟨#[]⟩, .int .i64 0, .int .i64 0] 58)
  have hs0 : w.heap.size + 1 ≤ (w.alloc (.cells #[.string ⟨#[]⟩, .int .i64 0, .int .i64 0] 58)).heap.size := by simp
  clear h1 h2
  go_enter Tryd.func29, Tryd.ntmps29
  go_upto_region 1 with (fail)
  generalize w.alloc (.cells #[.string ⟨#[]⟩, .int .i64 0, .int .i64 0] 58) = X at *
  have HB := Lib.hid hb0
  obtain ⟨c0, c1, c2, f0, f1, f2⟩ := three_cells hg0
  clear hg0 hb0 hs0
  go_wp2_with fail
  exact bodyPost_ret (v := .tuple #[.agg #[.string ⟨#[68, 85, 80]⟩, .int .i64 (k : Nat), .int .i64 (l : Nat)], .int .i64 (k : Nat)]) (by simp [results, Tryd.results29, go_sem, c0, c1, c2]) rfl ⟨rfl, ((HB.out.setCell (p := ⟨w.heap.size, 0, none⟩) (Nat.le_refl _) _).setCell (p := ⟨w.heap.size, 1, none⟩) (Nat.le_refl _) _).setCell (p := ⟨w.heap.size, 2, none⟩) (Nat.le_refl _) _⟩
set_option maxRecDepth 100000 in
set_option maxHeartbeats 6400000 in
theorem plook_swap (n : Nat) (h1 : 144 ≤ n) (h2 : n < 160) (w : World) : Calls Tryd.prog 29 #[.int .i64 (n : Nat)] w (RetV (.tuple #[formV (lkN n).1, .int .i64 (lkN n).2]) w) := by
  have el : lkN n = (((⟨#[83, 87, 65, 80]⟩ : ByteArray), n - 142, n - 142), ((n - 143 : Nat) : Int)) := by
    unfold lkN
    rw [if_neg (by omega), if_neg (by omega), if_neg (by omega), if_pos (by omega)]
  rw [el]
  unfold formV
  dsimp only
  clear el
  have t0 : ¬ (n : Int) < 48 := by omega
  have t1 : ¬ (n : Int) < 80 := by omega
  have t2 : ¬ (n : Int) < 95 := by omega
  have t3 : ¬ (n : Int) < 128 := by omega
  have t4 : ¬ (n : Int) < 144 := by omega
  have t5 : (n : Int) < 160 := by omega
  have w1 : IntKind.i64.wrap ((n : Int) - 144) = ((n - 144 : Nat) : Int) := by rw [IntWalk.i64_in _ (by omega)]; omega
  have w2 : IntKind.i64.wrap (((n - 144 : Nat) : Int) + 1) = ((n - 143 : Nat) : Int) := by rw [IntWalk.i64_in _ (by omega)]; omega
  have w3 : IntKind.i64.wrap (((n - 143 : Nat) : Int) + 1) = ((n - 142 : Nat) : Int) := by rw [IntWalk.i64_in _ (by omega)]; omega
  obtain ⟨j, hj⟩ : ∃ j, j = n - 144 := ⟨_, rfl⟩
  obtain ⟨k, hk⟩ : ∃ k, k = n - 143 := ⟨_, rfl⟩
  obtain ⟨l, hl⟩ : ∃ l, l = n - 142 := ⟨_, rfl⟩
  rw [← hk, ← hl]
  rw [← hj] at w1 w2
  rw [← hk] at w2 w3
  rw [← hl] at w3
  clear hj hk hl
  have hg0 := heap_alloc_new w (.cells #[.string ⟨#[]⟩, .int .i64 0, .int .i64 0] 58)
  have hb0 := (Below.refl w.heap.size w).alloc (Nat.le_refl _) (.cells #[.string ⟨#[]⟩, .int .i64 0, .int .i64 0] 58)
  have hs0 : w.heap.size + 1 ≤ (w.alloc (.cells #[.string ⟨#[]⟩, .int .i64 0, .int .i64 0] 58)).heap.size := by simp
  clear h1 h2
  go_enter Tryd.func29, Tryd.ntmps29
  go_upto_region 1 with (fail)
  generalize w.alloc (.cells #[.string ⟨#[]⟩, .int .i64 0, .int .i64 0] 58) = X at *
  have HB := Lib.hid hb0
  obtain ⟨c0, c1, c2, f0, f1, f2⟩ := three_cells hg0
  clear hg0 hb0 hs0
  go_wp2_with fail
  exact bodyPost_ret (v := .tuple #[.agg #[.string ⟨#[83, 87, 65, 80]⟩, .int .i64 (l : Nat), .int .i64 (l : Nat)], .int .i64 (k : Nat)]) (by simp [results, Tryd.results29, go_sem, c0, c1, c2]) rfl ⟨rfl, ((HB.out.setCell (p := ⟨w.heap.size, 0, none⟩) (Nat.le_refl _) _).setCell (p := ⟨w.heap.size, 1, none⟩) (Nat.le_refl _) _).setCell (p := ⟨w.heap.size, 2, none⟩) (Nat.le_refl _) _⟩
set_option maxRecDepth 100000 in
set_option maxHeartbeats 6400000 in
theorem plook_log (n : Nat) (h1 : 160 ≤ n) (h2 : n < 240) (w : World) : Calls Tryd.prog 29 #[.int .i64 (n : Nat)] w (RetV (.tuple #[formV (lkN n).1, .int .i64 (lkN n).2]) w) := by
  have el : lkN n = (((⟨#[76, 79, 71]⟩ : ByteArray), n - 160 + 2, 0), ((n - 160 : Nat) : Int)) := by
    unfold lkN
    rw [if_neg (by omega), if_neg (by omega), if_neg (by omega), if_neg (by omega), if_pos (by omega)]
  rw [el]
  unfold formV
  dsimp only
  clear el
  have t0 : ¬ (n : Int) < 48 := by omega
  have t1 : ¬ (n : Int) < 80 := by omega
  have t2 : ¬ (n : Int) < 95 := by omega
  have t3 : ¬ (n : Int) < 128 := by omega
  have t4 : ¬ (n : Int) < 144 := by omega
  have t5 : ¬ (n : Int) < 160 := by omega
  have t6 : (n : Int) < 240 := by omega
  have w1 : IntKind.i64.wrap ((n : Int) - 160) = ((n - 160 : Nat) : Int) := by rw [IntWalk.i64_in _ (by omega)]; omega
  have w2 : IntKind.i64.wrap (((n - 160 : Nat) : Int) + 2) = ((n - 160 + 2 : Nat) : Int) := by rw [IntWalk.i64_in _ (by omega)]; omega
  obtain ⟨k, hk⟩ : ∃ k, k = n - 160 := ⟨_, rfl⟩
  rw [← hk] at w1 w2 ⊢
  obtain ⟨l, hl⟩ : ∃ l, l = k + 2 := ⟨_, rfl⟩
  rw [← hl] at w2 ⊢
  clear hk hl
  have hg0 := heap_alloc_new w (.cells #[.string ⟨#[]⟩, .int .i64 0, .int .i64 0] 58)
  have hb0 := (Below.refl w.heap.size w).alloc (Nat.le_refl _) (.cells #[.string ⟨#[]⟩, .int .i64 0, .int .i64 0] 58)
  have hs0 : w.heap.size + 1 ≤ (w.alloc (.cells #[.string ⟨#[]⟩, .int .i64 0, .int .i64 0] 58)).heap.size := by simp
  clear h1 h2
  go_enter Tryd.func29, Tryd.ntmps29
  go_upto_region 1 with (fail)
  generalize w.alloc (.cells #[.string ⟨#[]⟩, .int .i64 0, .int .i64 0] 58) = X at *
  have HB := Lib.hid hb0
  obtain ⟨c0, c1, c2, f0, f1, f2⟩ := three_cells hg0
  clear hg0 hb0 hs0
  go_wp2_with fail
  exact bodyPost_ret (v := .tuple #[.agg #[.string ⟨#[76, 79, 71]⟩, .int .i64 (l : Nat), .int .i64 (0 : Nat)], .int .i64 (k : Nat)]) (by simp [results, Tryd.results29, go_sem, c0, c1, c2]) rfl ⟨rfl, ((HB.out.setCell (p := ⟨w.heap.size, 0, none⟩) (Nat.le_refl _) _).setCell (p := ⟨w.heap.size, 1, none⟩) (Nat.le_refl _) _).setCell (p := ⟨w.heap.size, 2, none⟩) (Nat.le_refl _) _⟩
theorem plook_c (n : Nat) (hn : n < 256) (h : opFirst n ≠ 99) (w : World) : Calls Tryd.prog 29 #[.int .i64 (n : Nat)] w (RetV (.tuple #[formV (lkN n).1, .int .i64 (lkN n).2]) w) := by
  by_cases h1 : n < 48
  · exact plook_reckoning n (lk_low n h1 h) w
  by_cases h2 : n < 80
  · exact plook_telling n ⟨by omega, lk_mid n h2 h (by omega)⟩ w
  by_cases h3 : n < 95
  · exact plook_keeping n ⟨by omega, h3⟩ w
  by_cases h4 : n < 128
  · exact plook_push n (by omega) h4 w
  by_cases h5 : n < 144
  · exact plook_dup n (by omega) h5 w
  by_cases h6 : n < 160
  · exact plook_swap n (by omega) h6 w
  by_cases h7 : n < 240
  · exact plook_log n (by omega) h7 w
  exact plook_sending n ⟨by omega, hn⟩ w
end Go.Proofs.YtopeahjdglkheaaDoor
namespace Go.Proofs.YtopeahjdglkheaaDoor
open Go.RowKit

theorem itoa_dec : ∀ (k n : Nat), n < 10 ^ (k + 1) → Lib.decDigits n = (decF k n).map UInt8.ofNat
  | 0, n, h => by
    rw [Lib.decDigits, dif_pos (by omega), decF, Nat.mod_eq_of_lt (by omega)]; rfl
  | k + 1, n, h => by
    rw [Lib.decDigits, decF]
    by_cases h0 : n < 10
    · rw [dif_pos h0, if_pos h0]; rfl
    · rw [dif_neg h0, if_neg h0, itoa_dec k (n / 10) (by rw [Nat.pow_succ] at h; omega), List.map_append]; rfl
theorem itoa_sOf {n : Nat} (h : n < 1000000000) : (⟨(Lib.decDigits n).toArray⟩ : ByteArray) = sOf (decL n) := by
  rw [itoa_dec 9 n (by omega)]
  unfold decL
  simp [sOf, strOfNums]

theorem nameZ_lk {f : Int} {n : Nat} (h : opZ f n = true) (h68 : ¬ (n = 68 ∧ 13 ≤ f)) : nameZ f n = if (lkN n).2 = -1 then (lkN n).1.1 else (lkN n).1.1 ++ sOf (decL (lkN n).2.toNat) := by
  obtain ⟨h0, _, h2⟩ := opZ_there h
  unfold nameZ
  rw [if_pos h, Int.toNat_natCast]
  have e : rowN (decide (13 ≤ f)) n = rowN false n := by
    by_cases h13 : 13 ≤ f
    · have hn : n ≠ 68 := fun hh => h68 ⟨hh, h13⟩
      unfold rowN
      simp only [hn, false_and, if_false]
    · rw [decide_eq_false h13]
  rw [e, lk_name n (by omega) h0]

theorem lk_small : ∀ n : Nat, n < 256 → (lkN n).1.1.size < 100 := by decide +kernel

set_option maxRecDepth 100000 in
set_option maxHeartbeats 6400000 in
theorem pname_c (f op : Int) (w : World) : Calls Tryd.prog 13 #[.int .i64 f, .int .i64 op] w (RetV (.string (nameZ f op)) w) := by
  cases ho : opZ f op with
  | false =>
    rw [nameZ_none ho]
    have KT : Hid (∀ w, Calls Tryd.prog 28 #[.int .i64 f, .int .i64 op] w fun e w' => e = .returned (.bool false) ∧ w' = w) := fun w => by have h := there_c f op w; rw [ho] at h; exact h
    clear ho
    go_enter Tryd.func13, Tryd.ntmps13
    go_wp2_with fail
    (with_reducible refine (KT.out _).mono ?_)
    rintro e w1 ⟨rfl, rfl⟩
    clear KT
    go_wp2_with fail
    go_ret
    exact ⟨rfl, Below.refl _ _⟩
  | true =>
    obtain ⟨h0, h1, h2⟩ := opZ_there ho
    obtain ⟨n, rfl⟩ : ∃ n : Nat, op = n := ⟨op.toNat, by omega⟩
    have KT : Hid (∀ w, Calls Tryd.prog 28 #[.int .i64 f, .int .i64 (n : Nat)] w fun e w' => e = .returned (.bool true) ∧ w' = w) := fun w => by have h := there_c f n w; rw [ho] at h; exact h
    by_cases h68 : n = 68 ∧ 13 ≤ f
    · obtain ⟨rfl, h13⟩ := h68
      have e : nameZ f (68 : Nat) = ⟨#[80, 82, 69, 86, 82, 65, 78, 68, 65, 79]⟩ := by
        unfold nameZ
        rw [if_pos ho, decide_eq_true h13]; rfl
      rw [e]
      have KT : Hid (∀ w, Calls Tryd.prog 28 #[.int .i64 f, .int .i64 68] w fun e w' => e = .returned (.bool true) ∧ w' = w) := KT
      show Calls Tryd.prog 13 #[.int .i64 f, .int .i64 68] w _
      clear ho h0 h1 h2 e
      go_enter Tryd.func13, Tryd.ntmps13
      go_wp2_with fail
      (with_reducible refine (KT.out _).mono ?_)
      rintro e w1 ⟨rfl, rfl⟩
      clear KT
      go_wp2_with fail
      go_ret
      exact ⟨rfl, Below.refl _ _⟩
    · have hz := nameZ_lk ho h68
      have KL := fun w => plook_c n (by omega) h0 w
      unfold formV at KL
      have hsz := lk_small n (by omega)
      have hnum := lk_num n (by omega) h0
      obtain ⟨x, hx⟩ : ∃ x, x = nameZ f n := ⟨_, rfl⟩
      rw [← hx] at hz ⊢
      obtain ⟨⟨⟨s, p, q⟩, k⟩, hlk⟩ : ∃ r, r = lkN n := ⟨_, rfl⟩
      rw [← hlk] at hz KL hsz hnum
      dsimp only at hz KL hsz hnum
      have KL := Lib.hid KL
      have HX : ∀ n : Nat, Hid (n = n) := fun _ => rfl
      have ht : (n = 68 ∧ ¬ (13 : Int) ≤ f) ∨ ¬ (n : Int) = 68 := by omega
      clear hx hlk ho h0 h1 h2 h68 HX
      by_cases hk : k = -1
      · subst hk
        rw [if_pos rfl] at hz
        subst hz
        clear hsz hnum
        rcases ht with ⟨rfl, h13⟩ | h68
        · have KT : Hid (∀ w, Calls Tryd.prog 28 #[.int .i64 f, .int .i64 68] w fun e w' => e = .returned (.bool true) ∧ w' = w) := KT
          have KL : Hid (∀ w, Calls Tryd.prog 29 #[.int .i64 68] w (RetV (.tuple #[.agg #[.string x, .int .i64 (p : Nat), .int .i64 (q : Nat)], .int .i64 (-1)]) w)) := KL
          show Calls Tryd.prog 13 #[.int .i64 f, .int .i64 68] w _
          go_enter Tryd.func13, Tryd.ntmps13
          go_wp2_with fail
          (with_reducible refine (KT.out _).mono ?_)
          rintro e w1 ⟨rfl, rfl⟩
          clear KT
          go_wp2_with fail
          (with_reducible refine (KL.out _).mono ?_)
          rintro e w2 ⟨rfl, hb⟩
          have HB := Lib.hid hb
          clear KL hb
          go_wp2_with fail
          go_ret
          exact ⟨rfl, HB.out.alloc HB.out.size _⟩
        · go_enter Tryd.func13, Tryd.ntmps13
          go_wp2_with fail
          (with_reducible refine (KT.out _).mono ?_)
          rintro e w1 ⟨rfl, rfl⟩
          clear KT
          go_wp2_with fail
          (with_reducible refine (KL.out _).mono ?_)
          rintro e w2 ⟨rfl, hb⟩
          have HB := Lib.hid hb
          clear KL hb
          go_wp2_with fail
          go_ret
          exact ⟨rfl, HB.out.alloc HB.out.size _⟩
      · rw [if_neg hk] at hz
        obtain ⟨e1, e2⟩ := hnum hk
        obtain ⟨m, hm⟩ : ∃ m, m = k.toNat := ⟨_, rfl⟩
        rw [← hm] at e1 e2 hz
        subst e1
        have kI : ∀ w, Calls Tryd.prog 31 #[.int .i64 (m : Nat)] w (fun e w' => e = .returned (.string (sOf (decL m))) ∧ w' = w) := fun w => by
          have h := hstrconv_Itoa_small m e2 w
          rw [itoa_sOf (by omega)] at h
          exact h
        have hl : ¬ 9223372036854775807 < s.size + (sOf (decL m)).size := by
          have := decF_len 9 m
          rw [sOf_size]
          unfold decL
          omega
        obtain ⟨d, hd⟩ : ∃ d, d = sOf (decL m) := ⟨_, rfl⟩
        rw [← hd] at kI hl hz
        have hk2 : ¬ (m : Int) = -1 := hk
        have KI := Lib.hid kI
        have HL := Lib.hid hl
        subst hz
        clear hm hd hnum hsz e2 kI hl hk
        rcases ht with ⟨rfl, h13⟩ | h68
        · have KT : Hid (∀ w, Calls Tryd.prog 28 #[.int .i64 f, .int .i64 68] w fun e w' => e = .returned (.bool true) ∧ w' = w) := KT
          have KL : Hid (∀ w, Calls Tryd.prog 29 #[.int .i64 68] w (RetV (.tuple #[.agg #[.string s, .int .i64 (p : Nat), .int .i64 (q : Nat)], .int .i64 (m : Nat)]) w)) := KL
          show Calls Tryd.prog 13 #[.int .i64 f, .int .i64 68] w _
          go_enter Tryd.func13, Tryd.ntmps13
          go_wp2_with fail
          (with_reducible refine (KT.out _).mono ?_)
          rintro e w1 ⟨rfl, rfl⟩
          clear KT
          go_wp2_with fail
          (with_reducible refine (KL.out _).mono ?_)
          rintro e w2 ⟨rfl, hb⟩
          have HB := Lib.hid (hb.alloc hb.size (.cells #[.string s, .int .i64 (p : Nat), .int .i64 (q : Nat)] 58))
          have hg := heap_alloc_new w2 (.cells #[.string s, .int .i64 (p : Nat), .int .i64 (q : Nat)] 58)
          obtain ⟨c0, c1, c2, f0, f1, f2⟩ := three_cells hg
          clear KL hb hg
          go_wp2_with fail
          have hl := HL.out
          go_quiet (exact Calls.quiet_of_same (KI.out _))
          go_simp
          go_wp2_with fail
          go_ret
          exact ⟨rfl, HB.out.trans (below_cdN _ _ _)⟩
        · go_enter Tryd.func13, Tryd.ntmps13
          go_wp2_with fail
          (with_reducible refine (KT.out _).mono ?_)
          rintro e w1 ⟨rfl, rfl⟩
          clear KT
          go_wp2_with fail
          (with_reducible refine (KL.out _).mono ?_)
          rintro e w2 ⟨rfl, hb⟩
          have HB := Lib.hid (hb.alloc hb.size (.cells #[.string s, .int .i64 (p : Nat), .int .i64 (q : Nat)] 58))
          have hg := heap_alloc_new w2 (.cells #[.string s, .int .i64 (p : Nat), .int .i64 (q : Nat)] 58)
          obtain ⟨c0, c1, c2, f0, f1, f2⟩ := three_cells hg
          clear KL hb hg
          go_wp2_with fail
          have hl := HL.out
          go_quiet (exact Calls.quiet_of_same (KI.out _))
          go_simp
          go_wp2_with fail
          go_ret
          exact ⟨rfl, HB.out.trans (below_cdN _ _ _)⟩

/-- The first operation from i on that is there and has that name, of k to come. -/
def namedG (f : Int) (s : ByteArray) : Nat → Nat → Option Nat
  | 0, _ => none
  | k + 1, i => if opZ f i = true ∧ nameZ f i = s then some i else namedG f s k (i + 1)
theorem namedG_none {f : Int} : ∀ k i, namedG f ⟨#[]⟩ k i = none
  | 0, _ => rfl
  | k + 1, i => by rw [namedG, if_neg (fun h => nameZ_some h.1 h.2), namedG_none k]
theorem namedG_some {f : Int} {s : ByteArray} (hs : s ≠ ⟨#[]⟩) : ∀ k i, namedG f s k i = namedF f s k i
  | 0, _ => rfl
  | k + 1, i => by
    rw [namedG, namedF, namedG_some hs k]
    by_cases h : nameZ f i = s
    · have ho : opZ f i = true := by
        cases h0 : opZ f i
        · exact absurd (h.symm.trans (nameZ_none h0)) hs
        · rfl
      rw [if_pos ⟨ho, h⟩, if_pos h]
    · rw [if_neg (fun hh => h hh.2), if_neg h]
theorem cnamedZ_G (f : Int) (s : ByteArray) : cnamedZ f s = namedG f s 256 0 := by
  unfold cnamedZ
  split
  · rename_i h; subst h; exact (namedG_none 256 0).symm
  · rename_i h; exact (namedG_some h 256 0).symm

set_option maxRecDepth 100000 in
set_option maxHeartbeats 6400000 in
theorem pnamed_c (f : Int) (s : ByteArray) (w : World) : Calls Tryd.prog 10 #[.int .i64 f, .string s] w (RetV (cnamedV (cnamedZ f s)) w) := by
  obtain ⟨q, hq⟩ : ∃ q, q = cnamedZ f s := ⟨_, rfl⟩
  rw [← hq]
  have HQ : Hid (q = namedG f s 256 0) := by rw [cnamedZ_G] at hq; exact hq
  clear hq
  go_enter Tryd.func10, Tryd.ntmps10
  go_wp2_with fail
  go_loopw [6, 7] (fun _ a wr => ∃ (m : Nat), a = .int .i64 (m : Int) ∧ Hid (m ≤ 256) ∧ Hid (q = namedG f s (256 - m) m) ∧ Hid (Below w.heap.size w wr)) (fun _ a _ => 256 - (intOf a).toNat)
  case atStart => exact ⟨0, rfl, Lib.hid (Nat.zero_le _), HQ, Lib.hid (Below.refl _ _)⟩
  case round =>
    clear HQ
    obtain ⟨m, rfl, hm, hq, hb⟩ := hrel
    by_cases h0 : m < 256
    · have hq2 := hq.out
      rw [show 256 - m = 256 - (m + 1) + 1 by omega, namedG] at hq2
      have KT := there_c f m
      have KN := Lib.hid (fun u => pname_c f m u)
      obtain ⟨x, hx⟩ : ∃ x, x = nameZ f m := ⟨_, rfl⟩
      obtain ⟨o, ho⟩ : ∃ o, o = opZ f m := ⟨_, rfl⟩
      rw [← ho] at KT hq2
      rw [← hx] at KN hq2
      have HQ2 := Lib.hid hq2
      clear hq hq2 hx ho
      cases o with
      | false =>
        have KT := Lib.hid KT
        have hq := HQ2.out
        rw [if_neg (fun h => by cases h.1)] at hq
        have HQ := Lib.hid hq
        clear hq HQ2 KN
        go_wp2_with fail
        (with_reducible refine (KT.out _).mono ?_)
        rintro e w2 ⟨rfl, rfl⟩
        clear KT
        go_wp2_with fail
        go_roundw
        case rel => exact ⟨m + 1, by go_num, Lib.hid (by omega), HQ, hb⟩
        case measure => simp [intOf]; omega
      | true =>
        have KT := Lib.hid KT
        by_cases he : x = s
        · have hq := HQ2.out
          rw [if_pos ⟨rfl, he⟩] at hq
          have HQ := Lib.hid hq
          have hee := cstr_eq he
          clear hq HQ2 he
          go_wp2_with fail
          (with_reducible refine (KT.out _).mono ?_)
          rintro e w2 ⟨rfl, rfl⟩
          clear KT
          go_wp2_with fail
          (with_reducible refine (KN.out _).mono ?_)
          rintro e w3 ⟨rfl, hb2⟩
          have HB2 := Lib.hid (hb.out.trans (hb2.mono hb.out.size))
          clear KN hb2
          go_wp2_with fail
          exact bodyPost_ret (v := .tuple #[.int .i64 (m : Nat), .bool true]) (by simp [results, Tryd.results10, go_sem]) rfl ⟨by rw [HQ.out]; rfl, HB2.out⟩
        · have hq := HQ2.out
          rw [if_neg (fun h => he h.2)] at hq
          have HQ := Lib.hid hq
          have hne := cstr_ne he
          clear hq HQ2 he
          go_wp2_with fail
          (with_reducible refine (KT.out _).mono ?_)
          rintro e w2 ⟨rfl, rfl⟩
          clear KT
          go_wp2_with fail
          (with_reducible refine (KN.out _).mono ?_)
          rintro e w3 ⟨rfl, hb2⟩
          have HB2 := Lib.hid (hb.out.trans (hb2.mono hb.out.size))
          clear KN hb2
          go_wp2_with fail
          go_roundw
          case rel => exact ⟨m + 1, by go_num, Lib.hid (by omega), HQ, HB2⟩
          case measure => simp [intOf]; omega
    · have hq2 := hq.out
      have hm2 := hm.out
      obtain rfl : m = 256 := by omega
      have HQ : Hid (q = none) := hq2
      clear hq hq2
      go_wp2_with fail
      exact bodyPost_ret (v := .tuple #[.int .i64 0, .bool false]) (by simp [results, Tryd.results10, go_sem]) rfl ⟨by rw [HQ.out]; rfl, hb.out⟩

set_option maxRecDepth 100000 in
set_option maxHeartbeats 6400000 in
theorem ppops_c (f op : Int) (w : World) : Calls Tryd.prog 9 #[.int .i64 f, .int .i64 op] w (RetV (.tuple #[.int .i64 (popsZ f op : Nat), .int .i64 (laysZ f op : Nat), .bool (opZ f op)]) w) := by
  cases ho : opZ f op with
  | false =>
    have e1 : popsZ f op = 0 := by unfold popsZ; rw [ho]; rfl
    have e2 : laysZ f op = 0 := by unfold laysZ; rw [ho]; rfl
    rw [e1, e2]
    have KT : Hid (∀ w, Calls Tryd.prog 28 #[.int .i64 f, .int .i64 op] w fun e w' => e = .returned (.bool false) ∧ w' = w) := fun w => by have h := there_c f op w; rw [ho] at h; exact h
    clear ho e1 e2
    go_enter Tryd.func9, Tryd.ntmps9
    go_wp2_with fail
    (with_reducible refine (KT.out _).mono ?_)
    rintro e w1 ⟨rfl, rfl⟩
    clear KT
    go_wp2_with fail
    exact bodyPost_ret (v := .tuple #[.int .i64 0, .int .i64 0, .bool false]) (by simp [results, Tryd.results9, go_sem]) rfl ⟨rfl, Below.refl _ _⟩
  | true =>
    obtain ⟨h0, h1, h2⟩ := opZ_there ho
    obtain ⟨n, rfl⟩ : ∃ n : Nat, op = n := ⟨op.toNat, by omega⟩
    have e := lk_name n (by omega) h0
    have e1 : popsZ f n = (lkN n).1.2.1 := by unfold popsZ; rw [if_pos ho, Int.toNat_natCast, e]
    have e2 : laysZ f n = (lkN n).1.2.2 := by unfold laysZ; rw [if_pos ho, Int.toNat_natCast, e]
    rw [e1, e2]
    have KT : Hid (∀ w, Calls Tryd.prog 28 #[.int .i64 f, .int .i64 (n : Nat)] w fun e w' => e = .returned (.bool true) ∧ w' = w) := fun w => by have h := there_c f n w; rw [ho] at h; exact h
    have KL := fun w => plook_c n (by omega) h0 w
    unfold formV at KL
    obtain ⟨⟨⟨s, p, q⟩, k⟩, hlk⟩ : ∃ r, r = lkN n := ⟨_, rfl⟩
    rw [← hlk] at KL ⊢
    dsimp only at KL ⊢
    have KL := Lib.hid KL
    clear hlk ho h0 h1 h2 e e1 e2
    go_enter Tryd.func9, Tryd.ntmps9
    go_wp2_with fail
    (with_reducible refine (KT.out _).mono ?_)
    rintro e w1 ⟨rfl, rfl⟩
    clear KT
    go_wp2_with fail
    (with_reducible refine (KL.out _).mono ?_)
    rintro e w2 ⟨rfl, hb⟩
    have HB := Lib.hid (hb.alloc hb.size (.cells #[.string s, .int .i64 (p : Nat), .int .i64 (q : Nat)] 58))
    have hg := heap_alloc_new w2 (.cells #[.string s, .int .i64 (p : Nat), .int .i64 (q : Nat)] 58)
    obtain ⟨c0, c1, c2, f0, f1, f2⟩ := three_cells hg
    clear KL hb hg
    go_wp2_with fail
    go_quiet (fail)
    go_simp
    go_wp2_with fail
    exact bodyPost_ret (v := .tuple #[.int .i64 (p : Nat), .int .i64 (q : Nat), .bool true]) (by simp [results, Tryd.results9, go_sem]) rfl ⟨rfl, HB.out.trans (below_cdN _ _ _)⟩
end Go.Proofs.YtopeahjdglkheaaDoor
