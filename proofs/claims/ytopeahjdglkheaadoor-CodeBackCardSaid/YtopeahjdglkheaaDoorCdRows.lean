/- Package quarryref18: rows, a fork's operations. (Its list is written from the print of the program's operations.) -/
import Derived.Test.YtopeahjdglkheaaDoorCdJumps
import Derived.Great.BuildSlice
namespace Go.Proofs.YtopeahjdglkheaaDoor
open Go.RowKit

/-- An operation's number, name, what it takes and lays. -/
def rowsT : List (Nat × ByteArray × Nat × Nat) := [
  (0, ⟨#[83, 84, 79, 80]⟩, 0, 0),
  (1, ⟨#[65, 68, 68]⟩, 2, 1),
  (2, ⟨#[77, 85, 76]⟩, 2, 1),
  (3, ⟨#[83, 85, 66]⟩, 2, 1),
  (4, ⟨#[68, 73, 86]⟩, 2, 1),
  (5, ⟨#[83, 68, 73, 86]⟩, 2, 1),
  (6, ⟨#[77, 79, 68]⟩, 2, 1),
  (7, ⟨#[83, 77, 79, 68]⟩, 2, 1),
  (8, ⟨#[65, 68, 68, 77, 79, 68]⟩, 3, 1),
  (9, ⟨#[77, 85, 76, 77, 79, 68]⟩, 3, 1),
  (10, ⟨#[69, 88, 80]⟩, 2, 1),
  (11, ⟨#[83, 73, 71, 78, 69, 88, 84, 69, 78, 68]⟩, 2, 1),
  (16, ⟨#[76, 84]⟩, 2, 1),
  (17, ⟨#[71, 84]⟩, 2, 1),
  (18, ⟨#[83, 76, 84]⟩, 2, 1),
  (19, ⟨#[83, 71, 84]⟩, 2, 1),
  (20, ⟨#[69, 81]⟩, 2, 1),
  (21, ⟨#[73, 83, 90, 69, 82, 79]⟩, 1, 1),
  (22, ⟨#[65, 78, 68]⟩, 2, 1),
  (23, ⟨#[79, 82]⟩, 2, 1),
  (24, ⟨#[88, 79, 82]⟩, 2, 1),
  (25, ⟨#[78, 79, 84]⟩, 1, 1),
  (26, ⟨#[66, 89, 84, 69]⟩, 2, 1),
  (27, ⟨#[83, 72, 76]⟩, 2, 1),
  (28, ⟨#[83, 72, 82]⟩, 2, 1),
  (29, ⟨#[83, 65, 82]⟩, 2, 1),
  (32, ⟨#[75, 69, 67, 67, 65, 75, 50, 53, 54]⟩, 2, 1),
  (48, ⟨#[65, 68, 68, 82, 69, 83, 83]⟩, 0, 1),
  (49, ⟨#[66, 65, 76, 65, 78, 67, 69]⟩, 1, 1),
  (50, ⟨#[79, 82, 73, 71, 73, 78]⟩, 0, 1),
  (51, ⟨#[67, 65, 76, 76, 69, 82]⟩, 0, 1),
  (52, ⟨#[67, 65, 76, 76, 86, 65, 76, 85, 69]⟩, 0, 1),
  (53, ⟨#[67, 65, 76, 76, 68, 65, 84, 65, 76, 79, 65, 68]⟩, 1, 1),
  (54, ⟨#[67, 65, 76, 76, 68, 65, 84, 65, 83, 73, 90, 69]⟩, 0, 1),
  (55, ⟨#[67, 65, 76, 76, 68, 65, 84, 65, 67, 79, 80, 89]⟩, 3, 0),
  (56, ⟨#[67, 79, 68, 69, 83, 73, 90, 69]⟩, 0, 1),
  (57, ⟨#[67, 79, 68, 69, 67, 79, 80, 89]⟩, 3, 0),
  (58, ⟨#[71, 65, 83, 80, 82, 73, 67, 69]⟩, 0, 1),
  (59, ⟨#[69, 88, 84, 67, 79, 68, 69, 83, 73, 90, 69]⟩, 1, 1),
  (60, ⟨#[69, 88, 84, 67, 79, 68, 69, 67, 79, 80, 89]⟩, 4, 0),
  (61, ⟨#[82, 69, 84, 85, 82, 78, 68, 65, 84, 65, 83, 73, 90, 69]⟩, 0, 1),
  (62, ⟨#[82, 69, 84, 85, 82, 78, 68, 65, 84, 65, 67, 79, 80, 89]⟩, 3, 0),
  (63, ⟨#[69, 88, 84, 67, 79, 68, 69, 72, 65, 83, 72]⟩, 1, 1),
  (64, ⟨#[66, 76, 79, 67, 75, 72, 65, 83, 72]⟩, 1, 1),
  (65, ⟨#[67, 79, 73, 78, 66, 65, 83, 69]⟩, 0, 1),
  (66, ⟨#[84, 73, 77, 69, 83, 84, 65, 77, 80]⟩, 0, 1),
  (67, ⟨#[78, 85, 77, 66, 69, 82]⟩, 0, 1),
  (68, ⟨#[68, 73, 70, 70, 73, 67, 85, 76, 84, 89]⟩, 0, 1),
  (69, ⟨#[71, 65, 83, 76, 73, 77, 73, 84]⟩, 0, 1),
  (70, ⟨#[67, 72, 65, 73, 78, 73, 68]⟩, 0, 1),
  (71, ⟨#[83, 69, 76, 70, 66, 65, 76, 65, 78, 67, 69]⟩, 0, 1),
  (72, ⟨#[66, 65, 83, 69, 70, 69, 69]⟩, 0, 1),
  (73, ⟨#[66, 76, 79, 66, 72, 65, 83, 72]⟩, 1, 1),
  (74, ⟨#[66, 76, 79, 66, 66, 65, 83, 69, 70, 69, 69]⟩, 0, 1),
  (80, ⟨#[80, 79, 80]⟩, 1, 0),
  (81, ⟨#[77, 76, 79, 65, 68]⟩, 1, 1),
  (82, ⟨#[77, 83, 84, 79, 82, 69]⟩, 2, 0),
  (83, ⟨#[77, 83, 84, 79, 82, 69, 56]⟩, 2, 0),
  (84, ⟨#[83, 76, 79, 65, 68]⟩, 1, 1),
  (85, ⟨#[83, 83, 84, 79, 82, 69]⟩, 2, 0),
  (86, ⟨#[74, 85, 77, 80]⟩, 1, 0),
  (87, ⟨#[74, 85, 77, 80, 73]⟩, 2, 0),
  (88, ⟨#[80, 67]⟩, 0, 1),
  (89, ⟨#[77, 83, 73, 90, 69]⟩, 0, 1),
  (90, ⟨#[71, 65, 83]⟩, 0, 1),
  (91, ⟨#[74, 85, 77, 80, 68, 69, 83, 84]⟩, 0, 0),
  (92, ⟨#[84, 76, 79, 65, 68]⟩, 1, 1),
  (93, ⟨#[84, 83, 84, 79, 82, 69]⟩, 2, 0),
  (94, ⟨#[77, 67, 79, 80, 89]⟩, 3, 0),
  (95, ⟨#[80, 85, 83, 72, 48]⟩, 0, 1),
  (240, ⟨#[67, 82, 69, 65, 84, 69]⟩, 3, 1),
  (241, ⟨#[67, 65, 76, 76]⟩, 7, 1),
  (242, ⟨#[67, 65, 76, 76, 67, 79, 68, 69]⟩, 7, 1),
  (243, ⟨#[82, 69, 84, 85, 82, 78]⟩, 2, 0),
  (244, ⟨#[68, 69, 76, 69, 71, 65, 84, 69, 67, 65, 76, 76]⟩, 6, 1),
  (245, ⟨#[67, 82, 69, 65, 84, 69, 50]⟩, 4, 1),
  (250, ⟨#[83, 84, 65, 84, 73, 67, 67, 65, 76, 76]⟩, 6, 1),
  (253, ⟨#[82, 69, 86, 69, 82, 84]⟩, 2, 0),
  (255, ⟨#[83, 69, 76, 70, 68, 69, 83, 84, 82, 85, 67, 84]⟩, 1, 0)]
/-- A row's four cells. -/
def rowC (r : Nat × ByteArray × Nat × Nat) : List Value := [.int .i64 (r.1 : Nat), .string r.2.1, .int .i64 (r.2.2.1 : Nat), .int .i64 (r.2.2.2 : Nat)]
def RowsAt (w : World) (g : Nat) (l : List (Nat × ByteArray × Nat × Nat)) : Prop := ∀ i r, l[i]? = some r → w.cell? ⟨g, i * 4, none⟩ = some (.int .i64 (r.1 : Nat)) ∧ w.cell? ⟨g, i * 4 + 1, none⟩ = some (.string r.2.1) ∧ w.cell? ⟨g, i * 4 + 2, none⟩ = some (.int .i64 (r.2.2.1 : Nat)) ∧ w.cell? ⟨g, i * 4 + 3, none⟩ = some (.int .i64 (r.2.2.2 : Nat))
theorem rowC_get : ∀ (l : List (Nat × ByteArray × Nat × Nat)) (i : Nat) (r : Nat × ByteArray × Nat × Nat), l[i]? = some r → ∀ k, k < 4 → (l.flatMap rowC)[i * 4 + k]? = (rowC r)[k]?
  | [], i, r, h, _, _ => by simp at h
  | a :: l, 0, r, h, k, hk => by
    simp only [List.getElem?_cons_zero, Option.some.injEq] at h
    subst h
    rw [List.flatMap_cons, Nat.zero_mul, Nat.zero_add, List.getElem?_append_left (by simpa [rowC] using hk)]
  | a :: l, i + 1, r, h, k, hk => by
    rw [List.getElem?_cons_succ] at h
    rw [List.flatMap_cons, List.getElem?_append_right (by simp [rowC]; omega), show (i + 1) * 4 + k - (rowC a).length = i * 4 + k by simp [rowC]; omega]
    exact rowC_get l i r h k hk
theorem infoRow : (Tryd.prog.info? 56).map (fun i => (i.zero, i.size, i.bytes)) = some (some (.agg #[.int .i64 0, .string .empty, .int .i64 0, .int .i64 0]), 4, 40) := by kernel_rfl
theorem rowsAt_new (w : World) : RowsAt (w.alloc (.cells (rowsT.flatMap rowC).toArray 56)) w.heap.size rowsT := fun i r hi => by
  have h := rowC_get rowsT i r hi
  have hc : ∀ j, (w.alloc (.cells (rowsT.flatMap rowC).toArray 56)).cell? ⟨w.heap.size, j, none⟩ = (rowsT.flatMap rowC)[j]? := fun j => by
    rw [cell_of_row _ _ j _ 56 (0, 0) (heap_alloc_new w _), List.getElem?_toArray]
  rw [hc, hc, hc, hc]
  exact ⟨h 0 (by omega), h 1 (by omega), h 2 (by omega), h 3 (by omega)⟩
set_option maxRecDepth 100000 in
set_option maxHeartbeats 6400000 in
theorem rrows_c (w : World) : Calls Tryd.prog 27 #[] w fun e w' => ∃ g, e = .returned (.slice (some ⟨g, 0, none⟩) 79 79) ∧ w.heap.size ≤ g ∧ g < w'.heap.size ∧ RowsAt w' g rowsT ∧ Below w.heap.size w w' := by
  have hra := rowsAt_new w
  have HRA := Lib.hid hra
  clear hra
  obtain ⟨i0, hi, hz0, hz1, hz2⟩ := info_parts infoRow
  have HI := Lib.hid hi
  have HZ0 := Lib.hid hz0
  have HZ1 := Lib.hid hz1
  clear hi hz0 hz1 hz2
  go_enter Tryd.func27, Tryd.ntmps27
  go_wp2_with (refine wpList_buildSlice rfl 53 56 79 _ rfl (rowsT.flatMap rowC).toArray i0 (.agg #[.int .i64 0, .string .empty, .int .i64 0, .int .i64 0]) Tryd.underlying53 HI.out HZ0.out (by rw [HZ1.out]; decide) (by rw [HZ1.out]; decide) (by rw [HZ1.out]; kernel_rfl) ?_)
  go_ret
  exact ⟨_, rfl, Nat.le_refl _, by simp, HRA.out, (Below.refl _ _).alloc (Nat.le_refl _) _⟩
end Go.Proofs.YtopeahjdglkheaaDoor
