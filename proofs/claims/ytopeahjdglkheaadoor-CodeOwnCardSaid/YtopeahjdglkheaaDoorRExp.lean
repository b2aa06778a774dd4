/- The contract of package quarryref02's ModExp. -/
import Derived.Test.YtopeahjdglkheaaDoorRDiv
import Derived.Test.YtopeahjdglkheaaDoorRMul
import Derived.Test.YtopeahjdglkheaaDoorWordMath
namespace Go.Proofs.YtopeahjdglkheaaDoor
open Go.RowKit

theorem msq {b q m r : Nat} (hr : r = b ^ q % m) : r * r % m = b ^ (2 * q) % m := by
  subst hr
  rw [← Nat.mul_mod, Nat.two_mul, Nat.pow_add]
theorem mmul {b q m r : Nat} (hr : r = b ^ q % m) : r * (b % m) % m = b ^ (q + 1) % m := by
  subst hr
  rw [← Nat.mul_mod, Nat.pow_succ]

end Go.Proofs.YtopeahjdglkheaaDoor
