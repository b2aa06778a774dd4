/- The contract of package word's divideByLimb. -/
import Derived.Test.YtgmpoefgcimaiaaWordLeaf
import Derived.Test.YtgmpoefgcimaiaaWordMath
import Derived.Test.YtgmpoefgcimaiaaDiv64
import Derived.Deep.RegionWith
namespace Go.Proofs.Ytgmpoefgcimaiaa
open Go.RowKit

/-- Quotient (eight limbs) and rest (four) of T by d. -/
def RetDivide (T d : Nat) (w : World) (e : Ending) (w' : World) : Prop := ∃ q0 q1 q2 q3 q4 q5 q6 q7 r0 r1 r2 r3 : Nat, e = .returned (.tuple #[L8 q0 q1 q2 q3 q4 q5 q6 q7, W4 r0 r1 r2 r3]) ∧
  Lims [q0, q1, q2, q3, q4, q5, q6, q7] ∧ vl [q0, q1, q2, q3, q4, q5, q6, q7] = T / d ∧ IsW r0 r1 r2 r3 (T % d) ∧ Below w.heap.size w w'

end Go.Proofs.Ytgmpoefgcimaiaa
