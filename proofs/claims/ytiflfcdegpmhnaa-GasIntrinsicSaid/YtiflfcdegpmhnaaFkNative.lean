/- Package quarryref13: Native. -/
import Derived.Test.YtiflfcdegpmhnaaFkFrom
import Derived.Test.YtiflfcdegpmhnaaDig
namespace Go.Proofs.Ytiflfcdegpmhnaa
open Go.RowKit

/-- An address by value: its bytes. -/
abbrev AdC (bs : List Nat) : Array Value := (bs.map fun n : Nat => Value.int .u8 (n : Int)).toArray
def AdV (bs : List Nat) : Value := .agg (AdC bs)
/-- The number of a contract of the machine's own at an address; 0: there is none. -/
def nativeZ (f : Int) (bs : List Nat) : Int :=
  if bs.take 19 = List.replicate 19 0 ∧ 0 ≤ f ∧ f ≤ 15 ∧ ((bs.getD 19 0 : Nat) : Int) ≤ fromZ f 4 [(4, 8), (7, 9), (15, 10)] then ((bs.getD 19 0 : Nat) : Int) else 0
theorem zeros_of {bs : List Nat} (hl : 19 ≤ bs.length) (h : ∀ j, j < 19 → bs.getD j 0 = 0) : bs.take 19 = List.replicate 19 0 := by
  refine List.ext_getElem (by simp; omega) fun i h1 h2 => ?_
  have h3 : i < 19 := by simpa using h2
  have := h i h3
  rw [List.getD_eq_getElem?_getD, List.getElem?_eq_getElem (by omega)] at this
  rw [List.getElem_take, List.getElem_replicate]
  exact this
theorem zeros_not {bs : List Nat} {m : Nat} (hm : m < 19) (h : bs.getD m 0 ≠ 0) : bs.take 19 ≠ List.replicate 19 0 := by
  intro e
  have h2 := congrArg (fun l : List Nat => l.getD m 0) e
  simp only [List.getD_eq_getElem?_getD, List.getElem?_take, if_pos hm, List.getElem?_replicate] at h2
  rw [List.getD_eq_getElem?_getD] at h
  rw [h2] at h
  exact h rfl
theorem most_small (f : Int) : 0 ≤ fromZ f 4 [(4, 8), (7, 9), (15, 10)] ∧ fromZ f 4 [(4, 8), (7, 9), (15, 10)] ≤ 10 := by
  simp only [fromZ]
  repeat' split
  all_goals omega
theorem pairs_new (w : World) (t : TypeId) (l : List (Int × Int)) (cs : Array Value) (h : cs.toList = l.flatMap fun p => [.int .u64 p.1, .int .u64 p.2]) : PairsAt (w.alloc (.cells cs t)) w.heap.size l := by
  have hg : ∀ (l : List (Int × Int)) (i : Nat) (p : Int × Int), l[i]? = some p → (l.flatMap fun p => [Value.int .u64 p.1, Value.int .u64 p.2])[i * 2]? = some (.int .u64 p.1) ∧ (l.flatMap fun p => [Value.int .u64 p.1, Value.int .u64 p.2])[i * 2 + 1]? = some (.int .u64 p.2) := by
    intro l
    induction l with
    | nil => intro i p h; simp at h
    | cons x r ih =>
      intro i p h
      cases i with
      | zero => simp at h; subst h; exact ⟨rfl, rfl⟩
      | succ i =>
        have := ih i p (by simpa using h)
        rw [show (i + 1) * 2 = i * 2 + 1 + 1 by omega]
        simpa using this
  intro i p hp
  obtain ⟨h0, h1⟩ := hg l i p hp
  rw [← h, Array.getElem?_toList] at h0 h1
  exact ⟨by rw [cell_of_row _ _ (i * 2) _ t (0, 0) (heap_alloc_new w _)]; exact h0, by rw [cell_of_row _ _ (i * 2 + 1) _ t (0, 0) (heap_alloc_new w _)]; exact h1⟩

theorem native_zero {f : Int} {bs : List Nat} (h : ¬ (bs.take 19 = List.replicate 19 0 ∧ 0 ≤ f ∧ f ≤ 15 ∧ ((bs.getD 19 0 : Nat) : Int) ≤ fromZ f 4 [(4, 8), (7, 9), (15, 10)])) : nativeZ f bs = 0 := by unfold nativeZ; rw [if_neg h]

end Go.Proofs.Ytiflfcdegpmhnaa
