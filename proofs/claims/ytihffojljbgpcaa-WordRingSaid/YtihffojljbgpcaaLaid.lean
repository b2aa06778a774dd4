/- Words that stand in memory, and what calls and statements leave of them. -/
import Derived.Test.YtihffojljbgpcaaCanon
namespace Go.Proofs.Ytihffojljbgpcaa
open Go.RowKit Go.Sort

/-- The word n stands in block g. -/
def Cells (w : World) (g n : Nat) : Prop := w.cell? ⟨g, 0, none⟩ = some (.int .u64 (lim 0 n : Nat)) ∧ w.cell? ⟨g, 1, none⟩ = some (.int .u64 (lim 1 n : Nat)) ∧ w.cell? ⟨g, 2, none⟩ = some (.int .u64 (lim 2 n : Nat)) ∧ w.cell? ⟨g, 3, none⟩ = some (.int .u64 (lim 3 n : Nat))
theorem Cells.lt {w : World} {g n : Nat} (h : Cells w g n) : g < w.heap.size := block_lt_of_cell h.1
theorem Cells.below {w w' : World} {g n : Nat} (h : Cells w g n) (hb : Below w.heap.size w w') : Cells w' g n := by
  have hl := h.lt
  unfold Cells at *
  rw [hb.cell (p := ⟨g, 0, none⟩) hl, hb.cell (p := ⟨g, 1, none⟩) hl, hb.cell (p := ⟨g, 2, none⟩) hl, hb.cell (p := ⟨g, 3, none⟩) hl]
  exact h
theorem Cells.alloc {w : World} {g n : Nat} (h : Cells w g n) (o : Obj) : Cells (w.alloc o) g n := h.below ((Below.refl _ _).alloc (Nat.le_refl _) o)
theorem Cells.new (w : World) (t : TypeId) (n : Nat) : Cells (w.alloc (.cells #[.int .u64 (lim 0 n : Nat), .int .u64 (lim 1 n : Nat), .int .u64 (lim 2 n : Nat), .int .u64 (lim 3 n : Nat)] t)) w.heap.size n := (Arr.new4 w t _ _ _ _).cells4
theorem Cells.grown {w : World} {g n : Nat} (h : Cells w g n) (d : Nat) (os : Array Obj) : Cells (grow (redrawn w d) os) g n := h.below (below_regrown w d os)

/-- The words of l stand in memory; what was there when the law began is as it was. -/
def Laid (w W : World) (l : List (Nat × Nat)) : Prop := (∀ p ∈ l, Cells W p.1 p.2) ∧ w.heap.size ≤ W.heap.size ∧ Below w.heap.size w W
/-- .. in the midst of a statement that began when there were B blocks. -/
def Mid (w W : World) (B : Nat) (l : List (Nat × Nat)) : Prop := (∀ p ∈ l, p.1 < B ∧ Cells W p.1 p.2) ∧ B ≤ W.heap.size ∧ w.heap.size ≤ B ∧ Below w.heap.size w W
theorem Laid.mid {w W : World} {l : List (Nat × Nat)} (h : Laid w W l) : Mid w W.drew W.heap.size l := ⟨fun p hp => ⟨(h.1 p hp).lt, h.1 p hp⟩, Nat.le_refl _, h.2.1, h.2.2.drew⟩
theorem Mid.alloc {w W : World} {B : Nat} {l : List (Nat × Nat)} (h : Mid w W B l) (o : Obj) : Mid w (W.alloc o) B l :=
  ⟨fun p hp => ⟨(h.1 p hp).1, (h.1 p hp).2.alloc o⟩, by have := h.2.1; simp; omega, h.2.2.1, h.2.2.2.alloc (Nat.le_trans h.2.2.1 h.2.1) o⟩
theorem Laid.mid1 {w W : World} {l : List (Nat × Nat)} (h : Laid w W l) (o : Obj) : Mid w (W.alloc o).drew W.heap.size l := h.mid.alloc o
theorem Mid.call {w W W1 : World} {B : Nat} {l : List (Nat × Nat)} (h : Mid w W B l) (hb : Below W.heap.size W W1) : Mid w W1 B l :=
  ⟨fun p hp => ⟨(h.1 p hp).1, (h.1 p hp).2.below hb⟩, Nat.le_trans h.2.1 hb.size, h.2.2.1, h.2.2.2.trans (hb.mono (Nat.le_trans h.2.2.1 h.2.1))⟩
theorem zeros_call {W W1 : World} {f : Nat} {t : TypeId} (h : Arr W f t [0, 0, 0, 0]) (hb : Below W.heap.size W W1) : Arr W1 f t [0, 0, 0, 0] := h.below hb h.lt
theorem laid_late {w W : World} {B : Nat} {l : List (Nat × Nat)} (m : Mid w W B l) (t : TypeId) (n : Nat) :
    Laid w (W.alloc (.cells #[.int .u64 (lim 0 n : Nat), .int .u64 (lim 1 n : Nat), .int .u64 (lim 2 n : Nat), .int .u64 (lim 3 n : Nat)] t)) ((W.heap.size, n) :: l) := by
  have m2 := m.alloc (.cells #[.int .u64 (lim 0 n : Nat), .int .u64 (lim 1 n : Nat), .int .u64 (lim 2 n : Nat), .int .u64 (lim 3 n : Nat)] t)
  refine ⟨fun p hp => ?_, Nat.le_trans m2.2.2.1 m2.2.1, m2.2.2.2⟩
  rcases List.mem_cons.1 hp with rfl | hp
  · exact Cells.new W t n
  · exact (m2.1 p hp).2
theorem laid_early {w W : World} {B f : Nat} {l : List (Nat × Nat)} {t : TypeId} (m : Mid w W B l) (z : Arr W f t [0, 0, 0, 0]) (hf : B ≤ f) (n : Nat) :
    Laid w ((((W.setCell ⟨f, 0, none⟩ (.int .u64 (lim 0 n : Nat))).setCell ⟨f, 1, none⟩ (.int .u64 (lim 1 n : Nat))).setCell ⟨f, 2, none⟩ (.int .u64 (lim 2 n : Nat))).setCell ⟨f, 3, none⟩ (.int .u64 (lim 3 n : Nat))) ((f, n) :: l) := by
  refine ⟨fun p hp => ?_, by have := Nat.le_trans m.2.2.1 m.2.1; simpa [World.setCell] using this, below_put4 m.2.2.2 (Nat.le_trans m.2.2.1 hf) _ _ _ _⟩
  rcases List.mem_cons.1 hp with rfl | hp
  · exact (z.put4 _ _ _ _).cells4
  · obtain ⟨hlt, c0, c1, c2, c3⟩ := m.1 p hp
    have o : ∀ (W : World) (i j : Nat) (v : Value), (W.setCell ⟨f, j, none⟩ v).cell? ⟨p.1, i, none⟩ = W.cell? ⟨p.1, i, none⟩ := fun W i j v => World.cell?_setCell_other W ⟨f, j, none⟩ ⟨p.1, i, none⟩ v (by intro e; injection e with e; omega)
    unfold Cells
    simp only [o]
    exact ⟨c0, c1, c2, c3⟩
end Go.Proofs.Ytihffojljbgpcaa
