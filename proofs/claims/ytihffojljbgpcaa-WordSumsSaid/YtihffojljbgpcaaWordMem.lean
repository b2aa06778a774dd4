/- Blocks of memory that hold arrays of 64-bit numbers. No program is named here. -/
import Derived.WalkKit
import Derived.Deep.Quiet
import Derived.Test.YtihffojljbgpcaaWordMath
namespace Go.Proofs.Ytihffojljbgpcaa
open Go.RowKit

/-- A limb of a list, as a value. -/
def U (n : Nat) : Value := .int .u64 (n : Int)
/-- Block g holds just the numbers xs, of element type t. -/
def Arr (w : World) (g : Nat) (t : TypeId) (xs : List Nat) : Prop := w.heap[g]? = some (.cells (xs.map U).toArray t (0, 0))

section
variable {w w' : World} {g : Nat} {t : TypeId} {xs : List Nat}
theorem Arr.lt (h : Arr w g t xs) : g < w.heap.size := by
  rcases Nat.lt_or_ge g w.heap.size with hlt | hge
  · exact hlt
  · unfold Arr at h; rw [Array.getElem?_eq_none hge] at h; cases h
theorem Arr.cell (h : Arr w g t xs) (k : Nat) (hk : k < xs.length) : w.cell? ⟨g, k, none⟩ = some (.int .u64 (xs.getD k 0 : Nat)) := by
  rw [cell_of_row w g k _ t (0, 0) h]
  simp [List.getElem?_eq_getElem hk, U]
theorem Arr.frozen (h : Arr w g t xs) (k : Nat) : w.frozen? ⟨g, k, none⟩ = false := frozen_of_row w g k _ t h
theorem Arr.alloc (h : Arr w g t xs) (o : Obj) : Arr (w.alloc o) g t xs := (Below.heap_alloc w o g h.lt).trans h
theorem Arr.set (h : Arr w g t xs) (k v : Nat) : Arr (w.setCell ⟨g, k, none⟩ (.int .u64 (v : Int))) g t (xs.set k v) := by
  unfold Arr
  rw [heap_setCell_same w g k _ t _ h]
  congr 2
  apply Array.ext'
  simp [U, List.map_set]
theorem Arr.far (h : Arr w g t xs) {p : Addr} (hp : g ≠ p.block) (v : Value) : Arr (w.setCell p v) g t xs := (Below.heap_setCell w p v g hp).trans h
theorem Arr.below {B : Nat} (h : Arr w g t xs) (hb : Below B w w') (hg : g < B) : Arr w' g t xs := (hb.block g hg).trans h
theorem Arr.drew (h : Arr w g t xs) : Arr w.drew g t xs := h
theorem Arr.drewN (h : Arr w g t xs) (n : Nat) : Arr (w.drewN n) g t xs := h
theorem Arr.new4 (w : World) (t : TypeId) (a b c d : Nat) : Arr (w.alloc (.cells #[.int .u64 (a : Nat), .int .u64 (b : Nat), .int .u64 (c : Nat), .int .u64 (d : Nat)] t)) w.heap.size t [a, b, c, d] := heap_alloc_new w _
theorem Arr.new4z (w : World) (t : TypeId) : Arr (w.alloc (.cells #[.int .u64 0, .int .u64 0, .int .u64 0, .int .u64 0] t)) w.heap.size t [0, 0, 0, 0] := heap_alloc_new w _
theorem Arr.new8 (w : World) (t : TypeId) (a b c d e f g i : Nat) : Arr (w.alloc (.cells #[.int .u64 (a : Nat), .int .u64 (b : Nat), .int .u64 (c : Nat), .int .u64 (d : Nat), .int .u64 (e : Nat), .int .u64 (f : Nat), .int .u64 (g : Nat), .int .u64 (i : Nat)] t)) w.heap.size t [a, b, c, d, e, f, g, i] := heap_alloc_new w _
theorem Arr.new8z (w : World) (t : TypeId) : Arr (w.alloc (.cells #[.int .u64 0, .int .u64 0, .int .u64 0, .int .u64 0, .int .u64 0, .int .u64 0, .int .u64 0, .int .u64 0] t)) w.heap.size t [0, 0, 0, 0, 0, 0, 0, 0] := heap_alloc_new w _
theorem Arr.cells4 {c0 c1 c2 c3 : Nat} (h : Arr w g t [c0, c1, c2, c3]) : w.cell? ⟨g, 0, none⟩ = some (.int .u64 (c0 : Nat)) ∧ w.cell? ⟨g, 1, none⟩ = some (.int .u64 (c1 : Nat)) ∧ w.cell? ⟨g, 2, none⟩ = some (.int .u64 (c2 : Nat)) ∧ w.cell? ⟨g, 3, none⟩ = some (.int .u64 (c3 : Nat)) :=
  ⟨h.cell 0 (by simp), h.cell 1 (by simp), h.cell 2 (by simp), h.cell 3 (by simp)⟩
theorem Arr.free4 {xs : List Nat} (h : Arr w g t xs) : w.frozen? ⟨g, 0, none⟩ = false ∧ w.frozen? ⟨g, 1, none⟩ = false ∧ w.frozen? ⟨g, 2, none⟩ = false ∧ w.frozen? ⟨g, 3, none⟩ = false :=
  ⟨h.frozen 0, h.frozen 1, h.frozen 2, h.frozen 3⟩
theorem Arr.put4 {c0 c1 c2 c3 : Nat} (h : Arr w g t [c0, c1, c2, c3]) (a b c d : Nat) :
    Arr ((((w.setCell ⟨g, 0, none⟩ (.int .u64 (a : Int))).setCell ⟨g, 1, none⟩ (.int .u64 (b : Int))).setCell ⟨g, 2, none⟩ (.int .u64 (c : Int))).setCell ⟨g, 3, none⟩ (.int .u64 (d : Int))) g t [a, b, c, d] :=
  (((h.set 0 a).set 1 b).set 2 c).set 3 d
theorem Arr.far4 {xs : List Nat} {f : Nat} (h : Arr w g t xs) (hf : g ≠ f) (a b c d : Value) :
    Arr ((((w.setCell ⟨f, 0, none⟩ a).setCell ⟨f, 1, none⟩ b).setCell ⟨f, 2, none⟩ c).setCell ⟨f, 3, none⟩ d) g t xs :=
  (((h.far (p := ⟨f, 0, none⟩) hf a).far (p := ⟨f, 1, none⟩) hf b).far (p := ⟨f, 2, none⟩) hf c).far (p := ⟨f, 3, none⟩) hf d
theorem below_put4 {B f : Nat} (h : Below B w w') (hf : B ≤ f) (a b c d : Value) :
    Below B w ((((w'.setCell ⟨f, 0, none⟩ a).setCell ⟨f, 1, none⟩ b).setCell ⟨f, 2, none⟩ c).setCell ⟨f, 3, none⟩ d) :=
  (((h.setCell (p := ⟨f, 0, none⟩) hf a).setCell (p := ⟨f, 1, none⟩) hf b).setCell (p := ⟨f, 2, none⟩) hf c).setCell (p := ⟨f, 3, none⟩) hf d
/-- What a call that makes memory leaves as it was. -/
theorem after_ {W w1 : World} (hb : Below W.heap.size W w1) : (∀ b o, b < W.heap.size → w1.cell? ⟨b, o, none⟩ = W.cell? ⟨b, o, none⟩) ∧ (∀ b o, b < W.heap.size → w1.frozen? ⟨b, o, none⟩ = W.frozen? ⟨b, o, none⟩) ∧
    (∀ b, b < W.heap.size → b < w1.heap.size) ∧ (∀ b, b < W.heap.size → ¬ (b = w1.heap.size)) :=
  ⟨fun b o h => hb.cell (p := ⟨b, o, none⟩) h, fun b o h => hb.frozen (p := ⟨b, o, none⟩) h, fun b h => Nat.lt_of_lt_of_le h hb.size, fun b h e => absurd hb.size (by omega)⟩
/-- A function that boxes two words and lays the place of its result. -/
theorem start3 (w : World) (t : TypeId) (a0 a1 a2 a3 b0 b1 b2 b3 : Nat) (X : World)
    (hX : X = ((w.alloc (.cells #[.int .u64 (a0 : Nat), .int .u64 (a1 : Nat), .int .u64 (a2 : Nat), .int .u64 (a3 : Nat)] t)).alloc (.cells #[.int .u64 (b0 : Nat), .int .u64 (b1 : Nat), .int .u64 (b2 : Nat), .int .u64 (b3 : Nat)] t)).alloc (.cells #[.int .u64 0, .int .u64 0, .int .u64 0, .int .u64 0] t)) :
    Arr X w.heap.size t [a0, a1, a2, a3] ∧ Arr X (w.heap.size + 1) t [b0, b1, b2, b3] ∧ Arr X (w.heap.size + 1 + 1) t [0, 0, 0, 0] ∧ X.heap.size = w.heap.size + 1 + 1 + 1 ∧ Below w.heap.size w X := by
  subst hX
  refine ⟨((Arr.new4 w t a0 a1 a2 a3).alloc _).alloc _, ?_, ?_, by simp, (((Below.refl _ _).alloc (Nat.le_refl _) _).alloc (by simp) _).alloc (by simp; omega) _⟩
  · have h := (Arr.new4 (w.alloc (.cells #[.int .u64 (a0 : Nat), .int .u64 (a1 : Nat), .int .u64 (a2 : Nat), .int .u64 (a3 : Nat)] t)) t b0 b1 b2 b3).alloc (.cells #[.int .u64 0, .int .u64 0, .int .u64 0, .int .u64 0] t)
    simpa using h
  · have h := Arr.new4z ((w.alloc (.cells #[.int .u64 (a0 : Nat), .int .u64 (a1 : Nat), .int .u64 (a2 : Nat), .int .u64 (a3 : Nat)] t)).alloc (.cells #[.int .u64 (b0 : Nat), .int .u64 (b1 : Nat), .int .u64 (b2 : Nat), .int .u64 (b3 : Nat)] t)) t
    simpa using h
theorem list4 {cs : List Nat} (h : cs.length = 4) : ∃ c0 c1 c2 c3, cs = [c0, c1, c2, c3] := by
  match cs, h with
  | [c0, c1, c2, c3], _ => exact ⟨c0, c1, c2, c3, rfl⟩
end
end Go.Proofs.Ytihffojljbgpcaa
