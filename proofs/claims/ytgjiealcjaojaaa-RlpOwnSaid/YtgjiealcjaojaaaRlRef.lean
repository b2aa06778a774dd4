/- The reference's first and Decode. -/
import Derived.Test.YtgjiealcjaojaaaRlSplit
import Derived.Test.YtgjiealcjaojaaaRlRead
import Derived.OneCell
namespace Go.Proofs.Ytgjiealcjaojaaa
open Go.RowKit

/-- The empty literal with bytes appended: a clone. -/
theorem acc_empty (w : World) : Acc (w.alloc (.cells #[] 5)) w.heap.size (.slice (some ⟨w.heap.size, 0, none⟩) 0 0) [] := Acc.of_row (Row.new (k := .u8) w 5 []) (Nat.le_refl _) (by simp)

theorem heap_lt2 {w : World} {g : Nat} {o : Obj} (h : w.heap[g]? = some o) : g < w.heap.size := (Array.getElem?_eq_some_iff.1 h).1
theorem byt_set {w : World} {v z : Value} {bs : List Nat} {X i : Nat} (h : Byt w v bs) (hne : v.ownBlock ≠ some X) : Byt (w.setCell ⟨X, i, none⟩ z) v bs := by
  obtain ⟨A, c, rfl, hr, hd⟩ := h
  refine ⟨A, c, rfl, ⟨hr.le, hr.cap, fun h0 => ?_⟩, hd⟩
  obtain ⟨b, o, rfl, hb, hc⟩ := hr.at_ h0
  exact ⟨b, o, rfl, by simpa using hb, fun j hj => (World.cell?_of_block (w := w) (Below.heap_setCell _ _ _ _ (fun e => hne (by rw [show b = X from e]; rfl)))).trans (hc j hj)⟩
theorem AccI.set {w : World} {base : Nat} {v z : Value} {us : List Value} {xs : List Itm} {X i : Nat} (h : AccI w base v us xs) (hX : X < base) : AccI (w.setCell ⟨X, i, none⟩ z) base v us xs :=
  ⟨ownsRow_setCell_other h.1 (a := ⟨X, i, none⟩) (fun e => by have := h.own X e; omega) _, fun j x hj => (h.2 j x hj).move (by simp) (fun _ _ h => h) fun p hp _ => World.cell?_of_block (w := w) (Below.heap_setCell _ _ _ _ (fun e => by have h1 := hp.1; have e2 : p.block = X := e; omega))⟩

end Go.Proofs.Ytgjiealcjaojaaa
