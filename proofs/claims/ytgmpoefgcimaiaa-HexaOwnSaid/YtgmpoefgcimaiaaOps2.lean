/- More operations of laws over words. -/
import Derived.Test.YtgmpoefgcimaiaaOps
namespace Go.Proofs.Ytgmpoefgcimaiaa
open Go.RowKit

section
variable {ops : Array Oper} {T : Facts} {o : Oper} {a : Act} {w : World}
theorem op_neW {n : Nat} (x y : Operand) (t : TypeId) (ho : o.op = .binOp .neq 30 x y t) (hx : a.eval x = W n) (hy : a.eval y = W n) (hw : Region.wanted o (yielded ops a.tmps) = true) (hf : factTo T o.dst (.bool false) w) : relStep Try.prog ops T o a w :=
  relStep_val (.bool false) hw hf (by
    have q := eqIn_same (lim 0 n) (lim 1 n) (lim 2 n) (lim 3 n)
    unfold execOp
    rw [ho]
    simp only [hx, hy]
    go_simp)

end
end Go.Proofs.Ytgmpoefgcimaiaa
