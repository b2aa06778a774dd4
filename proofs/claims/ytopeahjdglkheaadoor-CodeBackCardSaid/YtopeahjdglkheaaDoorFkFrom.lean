/- Package quarryref13: from, which tells the last of the values whose fork has come. -/
import Derived.Test.YtopeahjdglkheaaDoorProg
import Derived.Test.YtopeahjdglkheaaDoorWordMath
import Derived.Deep.QuietTactic
import Derived.BigQuiet
import Derived.OwnWalk
namespace Go.Proofs.YtopeahjdglkheaaDoor
open Go.RowKit

/-- The last of the values whose fork has come. -/
def fromZ (f : Int) : Int → List (Int × Int) → Int
  | a, [] => a
  | a, p :: r => fromZ f (if p.1 ≤ f then p.2 else a) r
theorem fromZ_cons (f a : Int) (p : Int × Int) (r : List (Int × Int)) : fromZ f a (p :: r) = fromZ f (if p.1 ≤ f then p.2 else a) r := rfl
/-- Pairs lie in a block. -/
def PairsAt (w : World) (g : Nat) (l : List (Int × Int)) : Prop := ∀ i p, l[i]? = some p → w.cell? ⟨g, i * 2, none⟩ = some (.int .u64 p.1) ∧ w.cell? ⟨g, i * 2 + 1, none⟩ = some (.int .u64 p.2)

end Go.Proofs.YtopeahjdglkheaaDoor
