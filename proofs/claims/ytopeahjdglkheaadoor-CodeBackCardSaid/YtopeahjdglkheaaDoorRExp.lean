/- The contract of package quarryref02's ModExp. -/
import Derived.Test.YtopeahjdglkheaaDoorRTrim
import Derived.Test.YtopeahjdglkheaaDoorRLess
import Derived.Test.YtopeahjdglkheaaDoorDig
import Derived.Test.YtopeahjdglkheaaDoorRBit
import Derived.Test.YtopeahjdglkheaaDoorRShl
import Derived.Deep.DeepCutAuto
import Derived.Deep.QuietTactic
import Derived.BigQuiet
import Derived.Deep.CutBlock
import Derived.Test.YtopeahjdglkheaaDoorRAdd
import Derived.Test.YtopeahjdglkheaaDoorWordMath
namespace Go.Proofs.YtopeahjdglkheaaDoor
open Go.RowKit

end Go.Proofs.YtopeahjdglkheaaDoor
namespace Go.Proofs.YtopeahjdglkheaaDoor
open Go.RowKit

/-- Two numbers are told. -/
def RetTwo (a b L M : Nat) (w : World) (e : Ending) (w' : World) : Prop := ∃ u v, e = .returned (.tuple #[u, v]) ∧ Num w' u a L ∧ Num w' v b M ∧ Below w.heap.size w w'

theorem shift_of {ys : List Nat} {b : Nat} (hy : Can 4294967296 ys b) (hb : 0 < b) : ∃ S, blen b + S = 32 * ys.length ∧ S < 32 := by
  have h1 := hy.lt
  rw [pow32] at h1
  have h0 : 0 < ys.length := by
    rcases Nat.eq_zero_or_pos ys.length with h | h
    · rw [h] at h1; simp at h1; omega
    · exact h
  have h2 := hy.ge h0
  rw [pow32] at h2
  have a1 := blen_lt b
  have a2 := blen_ge hb
  have h3 : blen b ≤ 32 * ys.length := by
    rcases Nat.lt_or_ge (32 * ys.length) (blen b) with h | h
    · have : (2 : Nat) ^ (32 * ys.length) ≤ 2 ^ (blen b - 1) := Nat.pow_le_pow_right (by omega) (by omega)
      omega
    · exact h
  have h4 : 32 * (ys.length - 1) < blen b := by
    rcases Nat.lt_or_ge (32 * (ys.length - 1)) (blen b) with h | h
    · exact h
    · have : (2 : Nat) ^ blen b ≤ 2 ^ (32 * (ys.length - 1)) := Nat.pow_le_pow_right (by omega) h
      omega
  exact ⟨32 * ys.length - blen b, by omega, by omega⟩
theorem top_pos {ds : List Nat} {D : Nat} (h : Can 4294967296 ds D) (h0 : 0 < ds.length) : 0 < ds.getD (ds.length - 1) 0 := Nat.pos_of_ne_zero (h.2.2 h0)

end Go.Proofs.YtopeahjdglkheaaDoor
namespace Go.Proofs.YtopeahjdglkheaaDoor
open Go.RowKit

theorem mul32 {x y z c : Nat} (hx : x < 4294967296) (hy : y < 4294967296) (hz : z < 4294967296) (hc : c < 4294967296) : x * y + z + c < 18446744073709551616 := by
  have : x * y ≤ 4294967295 * 4294967295 := Nat.mul_le_mul (by omega) (by omega)
  omega

end Go.Proofs.YtopeahjdglkheaaDoor
namespace Go.Proofs.YtopeahjdglkheaaDoor
open Go.RowKit

theorem msq {b q m r : Nat} (hr : r = b ^ q % m) : r * r % m = b ^ (2 * q) % m := by
  subst hr
  rw [← Nat.mul_mod, Nat.two_mul, Nat.pow_add]
theorem mmul {b q m r : Nat} (hr : r = b ^ q % m) : r * (b % m) % m = b ^ (q + 1) % m := by
  subst hr
  rw [← Nat.mul_mod, Nat.pow_succ]

end Go.Proofs.YtopeahjdglkheaaDoor
