/- The contract of package quarryref02's Mul. -/
import Derived.Test.YtopeahjdglkheaaDoorRAdd
namespace Go.Proofs.YtopeahjdglkheaaDoor
open Go.RowKit

theorem mul32 {x y z c : Nat} (hx : x < 4294967296) (hy : y < 4294967296) (hz : z < 4294967296) (hc : c < 4294967296) : x * y + z + c < 18446744073709551616 := by
  have : x * y ≤ 4294967295 * 4294967295 := Nat.mul_le_mul (by omega) (by omega)
  omega

end Go.Proofs.YtopeahjdglkheaaDoor
