/- More operations of laws over words. -/
import Derived.Test.YtihffojljbgpcaaOps
namespace Go.Proofs.Ytihffojljbgpcaa
open Go.RowKit

section
variable {ops : Array Oper} {T : Facts} {o : Oper} {a : Act} {w : World}
theorem op_neW {n : Nat} (x y : Operand) (t : TypeId) (ho : o.op = .binOp .neq 24 x y t) (hx : a.eval x = W n) (hy : a.eval y = W n) (hw : Region.wanted o (yielded ops a.tmps) = true) (hf : factTo T o.dst (.bool false) w) : relStep Try.prog ops T o a w :=
  relStep_val (.bool false) hw hf (by
    have q := eqIn_same (lim 0 n) (lim 1 n) (lim 2 n) (lim 3 n)
    unfold execOp
    rw [ho]
    simp only [hx, hy]
    go_simp)
theorem relStep_pickF {P : Program} (c x y : Operand) (ho : o.op = .pick c x y) (hc : a.eval c = .bool false) (hw : Region.wanted o (yielded ops a.tmps) = true) (hf : factTo T o.dst (a.eval y) w) : relStep P ops T o a w :=
  relStep_val (a.eval y) hw hf (by
    unfold execOp
    rw [ho]
    simp only [hc]
    generalize a.eval x = vx
    generalize a.eval y = vy
    rfl)
end
end Go.Proofs.Ytihffojljbgpcaa
