/- The laws' nested: so many lists in one another around an item. -/
import Derived.Test.YtgjiealcjaojaaaRlRead
namespace Go.Proofs.Ytgjiealcjaojaaa
open Go.RowKit

def nestI (x : Itm) : Nat → Itm
  | 0 => x
  | n + 1 => .list [nestI x n]
/-- An item's value, laid in a new block, as the one item of a list. -/
theorem IAt.wrap {S : Nat → Prop} {w : World} {p q r : Value} {x : Itm} (h : IAt S w (.agg #[p, q, r]) x) (hX : S w.heap.size) :
    IAt S (w.alloc (.cells #[p, q, r] 56)) (.agg #[.bool true, .slice none 0 0, .slice (some ⟨w.heap.size, 0, none⟩) 1 1]) (.list [x]) := by
  have hb : Below w.heap.size w (w.alloc (.cells #[p, q, r] 56)) := (Below.refl _ _).alloc (Nat.le_refl _) _
  obtain ⟨c0, c1, c2, -, -, -⟩ := three_cells (heap_alloc_new w (.cells #[p, q, r] 56))
  have hsz : (w.alloc (.cells #[p, q, r] 56)).heap.size = w.heap.size + 1 := by simp
  exact IAt.mk (S := S) true none 0 (some ⟨w.heap.size, 0, none⟩) 1 w.heap.size 0 (fun j => #[p, q, r].getD j undef) [] [x] (Rd.nil _) Ds.nil (fun h => absurd h (by simp)) (fun _ => ⟨rfl, by omega, hX⟩) (Nat.le_refl _) (fun h => by cases h)
    (fun j hj => by
      have hj : j < 3 := hj
      rw [Nat.zero_add]
      match j, hj with
      | 0, _ => exact c0
      | 1, _ => exact c1
      | 2, _ => exact c2)
    (fun j y hj => by
      match j, hj with
      | 0, hj => injection hj with hj; subst hj; exact h.keep hb)
theorem item_far {w : World} {g k : Nat} {a b c : Value} (h : k ≠ g) : (((w.setCell ⟨g, 0, none⟩ a).setCell ⟨g, 1, none⟩ b).setCell ⟨g, 2, none⟩ c).heap[k]? = w.heap[k]? :=
  (Below.heap_setCell _ _ _ _ h).trans ((Below.heap_setCell _ _ _ _ h).trans (Below.heap_setCell _ _ _ _ h))
theorem results_item {fn : Func} {p : Tmp} (h : fn.results = #[.cell p 56]) (tmps : Array Value) (w : World) (g : Nat) (a b c : Value)
    (hp : tmps.getD p undef = .pointer (some ⟨g, 0, none⟩)) (hg : w.heap[g]? = some (.cells #[a, b, c] 56 (0, 0))) :
    (results fn tmps).run Try.prog w = .ok (.agg #[a, b, c]) w := by
  have hp' : tmps[p]?.getD undef = .pointer (some ⟨g, 0, none⟩) := by simpa using hp
  simp [results, h, hp', asAddr, run_loadVar_row w g 56 56 #[a, b, c] (0, 0) _ hg Try.underlying56 rfl infoItem]

end Go.Proofs.Ytgjiealcjaojaaa
