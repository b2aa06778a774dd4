/- The contracts of package quarryref02's DivMod and Mod. -/
import Derived.Test.YtopeahjdglkheaaDoorRCmp
import Derived.Test.YtopeahjdglkheaaDoorRLess
import Derived.Test.YtopeahjdglkheaaDoorDig
import Derived.Test.YtopeahjdglkheaaDoorRBit
import Derived.Test.YtopeahjdglkheaaDoorRShl
import Derived.Deep.DeepCutAuto
import Derived.Deep.QuietTactic
import Derived.BigQuiet
import Derived.Deep.CutBlock
namespace Go.Proofs.YtopeahjdglkheaaDoor
open Go.RowKit

/-- Two numbers are told. -/
def RetTwo (a b L M : Nat) (w : World) (e : Ending) (w' : World) : Prop := ∃ u v, e = .returned (.tuple #[u, v]) ∧ Num w' u a L ∧ Num w' v b M ∧ Below w.heap.size w w'

theorem shift_of {ys : List Nat} {b : Nat} (hy : Can 4294967296 ys b) (hb : 0 < b) : ∃ S, blen b + S = 32 * ys.length ∧ S < 32 := by
  have h1 := hy.lt
  rw [pow32] at h1
  have h0 : 0 < ys.length := by
    rcases Nat.eq_zero_or_pos ys.length with h | h
    · rw [h] at h1; simp at h1; omega
    · exact h
  have h2 := hy.ge h0
  rw [pow32] at h2
  have a1 := blen_lt b
  have a2 := blen_ge hb
  have h3 : blen b ≤ 32 * ys.length := by
    rcases Nat.lt_or_ge (32 * ys.length) (blen b) with h | h
    · have : (2 : Nat) ^ (32 * ys.length) ≤ 2 ^ (blen b - 1) := Nat.pow_le_pow_right (by omega) (by omega)
      omega
    · exact h
  have h4 : 32 * (ys.length - 1) < blen b := by
    rcases Nat.lt_or_ge (32 * (ys.length - 1)) (blen b) with h | h
    · exact h
    · have : (2 : Nat) ^ blen b ≤ 2 ^ (32 * (ys.length - 1)) := Nat.pow_le_pow_right (by omega) h
      omega
  exact ⟨32 * ys.length - blen b, by omega, by omega⟩
theorem top_pos {ds : List Nat} {D : Nat} (h : Can 4294967296 ds D) (h0 : 0 < ds.length) : 0 < ds.getD (ds.length - 1) 0 := Nat.pos_of_ne_zero (h.2.2 h0)

end Go.Proofs.YtopeahjdglkheaaDoor
