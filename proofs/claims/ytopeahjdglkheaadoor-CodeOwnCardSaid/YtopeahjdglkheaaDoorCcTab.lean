/- Package code's tables: reckoning, telling, keeping, sending. (Written by wip/genccTab.py.) -/
import Derived.Test.YtopeahjdglkheaaDoorCdRow
import Derived.Great.BuildSlice
namespace Go.Proofs.YtopeahjdglkheaaDoor
open Go.RowKit

/-- An operation's form: its name without a number, what it takes and lays. -/
def formC (r : ByteArray × Nat × Nat) : List Value := [.string r.1, .int .i64 (r.2.1 : Nat), .int .i64 (r.2.2 : Nat)]
def formV (r : ByteArray × Nat × Nat) : Value := .agg #[.string r.1, .int .i64 (r.2.1 : Nat), .int .i64 (r.2.2 : Nat)]
def tabC (lo n : Nat) : Array Value := ((List.range n).flatMap fun i => formC (rowT (lo + i))).toArray
theorem infoForm : (Tryd.prog.info? 58).map (·.size) = some 3 := by kernel_rfl
theorem three_cells {w : World} {g : Nat} {x y z : Value} {t : TypeId} (h : w.heap[g]? = some (.cells #[x, y, z] t (0, 0))) : w.cell? ⟨g, 0, none⟩ = some x ∧ w.cell? ⟨g, 1, none⟩ = some y ∧ w.cell? ⟨g, 2, none⟩ = some z ∧ w.frozen? ⟨g, 0, none⟩ = false ∧ w.frozen? ⟨g, 1, none⟩ = false ∧ w.frozen? ⟨g, 2, none⟩ = false := by
  refine ⟨?_, ?_, ?_, ?_, ?_, ?_⟩
  · rw [cell_of_row _ _ _ _ t (0, 0) h]; rfl
  · rw [cell_of_row _ _ _ _ t (0, 0) h]; rfl
  · rw [cell_of_row _ _ _ _ t (0, 0) h]; rfl
  · exact frozen_of_row _ _ _ _ t h
  · exact frozen_of_row _ _ _ _ t h
  · exact frozen_of_row _ _ _ _ t h

theorem reckoning_ix : ∀ m : Nat, m < 33 → ∀ w : World, (Instr.index 84 (.agg (tabC 0 33)) (.int .i64 (m : Nat))).run Tryd.prog w = .ok (formV (rowT (0 + m))) w
  | 0, _, _ => by kernel_rfl
  | 1, _, _ => by kernel_rfl
  | 2, _, _ => by kernel_rfl
  | 3, _, _ => by kernel_rfl
  | 4, _, _ => by kernel_rfl
  | 5, _, _ => by kernel_rfl
  | 6, _, _ => by kernel_rfl
  | 7, _, _ => by kernel_rfl
  | 8, _, _ => by kernel_rfl
  | 9, _, _ => by kernel_rfl
  | 10, _, _ => by kernel_rfl
  | 11, _, _ => by kernel_rfl
  | 12, _, _ => by kernel_rfl
  | 13, _, _ => by kernel_rfl
  | 14, _, _ => by kernel_rfl
  | 15, _, _ => by kernel_rfl
  | 16, _, _ => by kernel_rfl
  | 17, _, _ => by kernel_rfl
  | 18, _, _ => by kernel_rfl
  | 19, _, _ => by kernel_rfl
  | 20, _, _ => by kernel_rfl
  | 21, _, _ => by kernel_rfl
  | 22, _, _ => by kernel_rfl
  | 23, _, _ => by kernel_rfl
  | 24, _, _ => by kernel_rfl
  | 25, _, _ => by kernel_rfl
  | 26, _, _ => by kernel_rfl
  | 27, _, _ => by kernel_rfl
  | 28, _, _ => by kernel_rfl
  | 29, _, _ => by kernel_rfl
  | 30, _, _ => by kernel_rfl
  | 31, _, _ => by kernel_rfl
  | 32, _, _ => by kernel_rfl
  | k + 33, h, _ => absurd h (by omega)
set_option maxRecDepth 100000 in
set_option maxHeartbeats 6400000 in
theorem reckoning_c (m : Nat) (hm : m < 33) (w : World) : Calls Tryd.prog 44 #[.int .i64 ((m : Nat) : Int)] w (RetV (formV (rowT (0 + m))) w) := by
  have ix := fun w => reckoning_ix m hm w
  obtain ⟨s, p, q, hr⟩ : ∃ s p q, rowT (0 + m) = (s, p, q) := ⟨_, _, _, rfl⟩
  unfold formV at ix ⊢
  rw [hr] at ix ⊢
  clear hr
  dsimp only at ix ⊢
  clear hm
  have IX := Lib.hid ix
  clear ix
  have HN : Hid ((w.alloc (.cells #[.string s, .int .i64 (p : Nat), .int .i64 (q : Nat)] 58)).heap[w.heap.size]? = some (.cells #[.string s, .int .i64 (p : Nat), .int .i64 (q : Nat)] 58 (0, 0))) := heap_alloc_new w _
  have HB : Hid (Below w.heap.size w (w.alloc (.cells #[.string s, .int .i64 (p : Nat), .int .i64 (q : Nat)] 58))) := (Below.refl _ _).alloc (Nat.le_refl _) _
  obtain ⟨T, hT⟩ : ∃ T, T = tabC 0 33 := ⟨_, rfl⟩
  rw [← hT] at IX
  have HT := Lib.hid hT
  clear hT
  go_enter Tryd.func44, Tryd.ntmps44
  go_wp2_with (refine wpList_buildTo rfl 84 _ rfl (some 30) rfl T (by rw [HT.out]; kernel_rfl) ?_; have ix := IX.out)
  exact bodyPost_ret (v := .agg #[.string s, .int .i64 (p : Nat), .int .i64 (q : Nat)]) (results_cell_row Tryd.results44 _ _ w.heap.size 58 _ (0, 0) _ rfl HN.out Tryd.underlying58 rfl infoForm) rfl ⟨rfl, HB.out⟩

theorem telling_ix : ∀ m : Nat, m < 27 → ∀ w : World, (Instr.index 85 (.agg (tabC 48 27)) (.int .i64 (m : Nat))).run Tryd.prog w = .ok (formV (rowT (48 + m))) w
  | 0, _, _ => by kernel_rfl
  | 1, _, _ => by kernel_rfl
  | 2, _, _ => by kernel_rfl
  | 3, _, _ => by kernel_rfl
  | 4, _, _ => by kernel_rfl
  | 5, _, _ => by kernel_rfl
  | 6, _, _ => by kernel_rfl
  | 7, _, _ => by kernel_rfl
  | 8, _, _ => by kernel_rfl
  | 9, _, _ => by kernel_rfl
  | 10, _, _ => by kernel_rfl
  | 11, _, _ => by kernel_rfl
  | 12, _, _ => by kernel_rfl
  | 13, _, _ => by kernel_rfl
  | 14, _, _ => by kernel_rfl
  | 15, _, _ => by kernel_rfl
  | 16, _, _ => by kernel_rfl
  | 17, _, _ => by kernel_rfl
  | 18, _, _ => by kernel_rfl
  | 19, _, _ => by kernel_rfl
  | 20, _, _ => by kernel_rfl
  | 21, _, _ => by kernel_rfl
  | 22, _, _ => by kernel_rfl
  | 23, _, _ => by kernel_rfl
  | 24, _, _ => by kernel_rfl
  | 25, _, _ => by kernel_rfl
  | 26, _, _ => by kernel_rfl
  | k + 27, h, _ => absurd h (by omega)
set_option maxRecDepth 100000 in
set_option maxHeartbeats 6400000 in
theorem telling_c (m : Nat) (hm : m < 27) (w : World) : Calls Tryd.prog 45 #[.int .i64 ((48 + m : Nat) : Int)] w (RetV (formV (rowT (48 + m))) w) := by
  have ix := fun w => telling_ix m hm w
  obtain ⟨s, p, q, hr⟩ : ∃ s p q, rowT (48 + m) = (s, p, q) := ⟨_, _, _, rfl⟩
  unfold formV at ix ⊢
  rw [hr] at ix ⊢
  clear hr
  dsimp only at ix ⊢
  have wk : IntKind.i64.wrap (((48 + m : Nat) : Int) - 48) = (m : Int) := by rw [IntWalk.i64_in _ (by omega)]; omega
  obtain ⟨a, ha⟩ : ∃ a, a = 48 + m := ⟨_, rfl⟩
  rw [← ha] at wk ⊢
  clear ha
  clear hm
  have IX := Lib.hid ix
  clear ix
  have HN : Hid ((w.alloc (.cells #[.string s, .int .i64 (p : Nat), .int .i64 (q : Nat)] 58)).heap[w.heap.size]? = some (.cells #[.string s, .int .i64 (p : Nat), .int .i64 (q : Nat)] 58 (0, 0))) := heap_alloc_new w _
  have HB : Hid (Below w.heap.size w (w.alloc (.cells #[.string s, .int .i64 (p : Nat), .int .i64 (q : Nat)] 58))) := (Below.refl _ _).alloc (Nat.le_refl _) _
  obtain ⟨T, hT⟩ : ∃ T, T = tabC 48 27 := ⟨_, rfl⟩
  rw [← hT] at IX
  have HT := Lib.hid hT
  clear hT
  go_enter Tryd.func45, Tryd.ntmps45
  go_wp2_with (refine wpList_buildTo rfl 85 _ rfl (some 30) rfl T (by rw [HT.out]; kernel_rfl) ?_; have ix := IX.out)
  exact bodyPost_ret (v := .agg #[.string s, .int .i64 (p : Nat), .int .i64 (q : Nat)]) (results_cell_row Tryd.results45 _ _ w.heap.size 58 _ (0, 0) _ rfl HN.out Tryd.underlying58 rfl infoForm) rfl ⟨rfl, HB.out⟩

theorem keeping_ix : ∀ m : Nat, m < 15 → ∀ w : World, (Instr.index 86 (.agg (tabC 80 15)) (.int .i64 (m : Nat))).run Tryd.prog w = .ok (formV (rowT (80 + m))) w
  | 0, _, _ => by kernel_rfl
  | 1, _, _ => by kernel_rfl
  | 2, _, _ => by kernel_rfl
  | 3, _, _ => by kernel_rfl
  | 4, _, _ => by kernel_rfl
  | 5, _, _ => by kernel_rfl
  | 6, _, _ => by kernel_rfl
  | 7, _, _ => by kernel_rfl
  | 8, _, _ => by kernel_rfl
  | 9, _, _ => by kernel_rfl
  | 10, _, _ => by kernel_rfl
  | 11, _, _ => by kernel_rfl
  | 12, _, _ => by kernel_rfl
  | 13, _, _ => by kernel_rfl
  | 14, _, _ => by kernel_rfl
  | k + 15, h, _ => absurd h (by omega)
set_option maxRecDepth 100000 in
set_option maxHeartbeats 6400000 in
theorem keeping_c (m : Nat) (hm : m < 15) (w : World) : Calls Tryd.prog 46 #[.int .i64 ((80 + m : Nat) : Int)] w (RetV (formV (rowT (80 + m))) w) := by
  have ix := fun w => keeping_ix m hm w
  obtain ⟨s, p, q, hr⟩ : ∃ s p q, rowT (80 + m) = (s, p, q) := ⟨_, _, _, rfl⟩
  unfold formV at ix ⊢
  rw [hr] at ix ⊢
  clear hr
  dsimp only at ix ⊢
  have wk : IntKind.i64.wrap (((80 + m : Nat) : Int) - 80) = (m : Int) := by rw [IntWalk.i64_in _ (by omega)]; omega
  obtain ⟨a, ha⟩ : ∃ a, a = 80 + m := ⟨_, rfl⟩
  rw [← ha] at wk ⊢
  clear ha
  clear hm
  have IX := Lib.hid ix
  clear ix
  have HN : Hid ((w.alloc (.cells #[.string s, .int .i64 (p : Nat), .int .i64 (q : Nat)] 58)).heap[w.heap.size]? = some (.cells #[.string s, .int .i64 (p : Nat), .int .i64 (q : Nat)] 58 (0, 0))) := heap_alloc_new w _
  have HB : Hid (Below w.heap.size w (w.alloc (.cells #[.string s, .int .i64 (p : Nat), .int .i64 (q : Nat)] 58))) := (Below.refl _ _).alloc (Nat.le_refl _) _
  obtain ⟨T, hT⟩ : ∃ T, T = tabC 80 15 := ⟨_, rfl⟩
  rw [← hT] at IX
  have HT := Lib.hid hT
  clear hT
  go_enter Tryd.func46, Tryd.ntmps46
  go_wp2_with (refine wpList_buildTo rfl 86 _ rfl (some 18) rfl T (by rw [HT.out]; kernel_rfl) ?_; have ix := IX.out)
  exact bodyPost_ret (v := .agg #[.string s, .int .i64 (p : Nat), .int .i64 (q : Nat)]) (results_cell_row Tryd.results46 _ _ w.heap.size 58 _ (0, 0) _ rfl HN.out Tryd.underlying58 rfl infoForm) rfl ⟨rfl, HB.out⟩

theorem sending_ix : ∀ m : Nat, m < 16 → ∀ w : World, (Instr.index 87 (.agg (tabC 240 16)) (.int .i64 (m : Nat))).run Tryd.prog w = .ok (formV (rowT (240 + m))) w
  | 0, _, _ => by kernel_rfl
  | 1, _, _ => by kernel_rfl
  | 2, _, _ => by kernel_rfl
  | 3, _, _ => by kernel_rfl
  | 4, _, _ => by kernel_rfl
  | 5, _, _ => by kernel_rfl
  | 6, _, _ => by kernel_rfl
  | 7, _, _ => by kernel_rfl
  | 8, _, _ => by kernel_rfl
  | 9, _, _ => by kernel_rfl
  | 10, _, _ => by kernel_rfl
  | 11, _, _ => by kernel_rfl
  | 12, _, _ => by kernel_rfl
  | 13, _, _ => by kernel_rfl
  | 14, _, _ => by kernel_rfl
  | 15, _, _ => by kernel_rfl
  | k + 16, h, _ => absurd h (by omega)
set_option maxRecDepth 100000 in
set_option maxHeartbeats 6400000 in
theorem sending_c (m : Nat) (hm : m < 16) (w : World) : Calls Tryd.prog 47 #[.int .i64 ((240 + m : Nat) : Int)] w (RetV (formV (rowT (240 + m))) w) := by
  have ix := fun w => sending_ix m hm w
  obtain ⟨s, p, q, hr⟩ : ∃ s p q, rowT (240 + m) = (s, p, q) := ⟨_, _, _, rfl⟩
  unfold formV at ix ⊢
  rw [hr] at ix ⊢
  clear hr
  dsimp only at ix ⊢
  have wk : IntKind.i64.wrap (((240 + m : Nat) : Int) - 240) = (m : Int) := by rw [IntWalk.i64_in _ (by omega)]; omega
  obtain ⟨a, ha⟩ : ∃ a, a = 240 + m := ⟨_, rfl⟩
  rw [← ha] at wk ⊢
  clear ha
  clear hm
  have IX := Lib.hid ix
  clear ix
  have HN : Hid ((w.alloc (.cells #[.string s, .int .i64 (p : Nat), .int .i64 (q : Nat)] 58)).heap[w.heap.size]? = some (.cells #[.string s, .int .i64 (p : Nat), .int .i64 (q : Nat)] 58 (0, 0))) := heap_alloc_new w _
  have HB : Hid (Below w.heap.size w (w.alloc (.cells #[.string s, .int .i64 (p : Nat), .int .i64 (q : Nat)] 58))) := (Below.refl _ _).alloc (Nat.le_refl _) _
  obtain ⟨T, hT⟩ : ∃ T, T = tabC 240 16 := ⟨_, rfl⟩
  rw [← hT] at IX
  have HT := Lib.hid hT
  clear hT
  go_enter Tryd.func47, Tryd.ntmps47
  go_wp2_with (refine wpList_buildTo rfl 87 _ rfl (some 12) rfl T (by rw [HT.out]; kernel_rfl) ?_; have ix := IX.out)
  exact bodyPost_ret (v := .agg #[.string s, .int .i64 (p : Nat), .int .i64 (q : Nat)]) (results_cell_row Tryd.results47 _ _ w.heap.size 58 _ (0, 0) _ rfl HN.out Tryd.underlying58 rfl infoForm) rfl ⟨rfl, HB.out⟩
end Go.Proofs.YtopeahjdglkheaaDoor
