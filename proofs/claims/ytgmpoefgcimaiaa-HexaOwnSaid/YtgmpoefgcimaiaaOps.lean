/- The operations of laws over words, each by a theorem of its own. -/
import Derived.Test.YtgmpoefgcimaiaaOpsS
import Derived.Test.YtgmpoefgcimaiaaLawFrame
namespace Go.Proofs.Ytgmpoefgcimaiaa
open Go.RowKit

section
variable {ops : Array Oper} {T : Facts} {o : Oper} {a : Act} {w : World}
theorem op_eqW {n : Nat} (x y : Operand) (t : TypeId) (ho : o.op = .binOp .eql 30 x y t) (hx : a.eval x = W n) (hy : a.eval y = W n) (hw : Region.wanted o (yielded ops a.tmps) = true) (hf : factTo T o.dst (.bool true) w) : relStep Try.prog ops T o a w :=
  relStep_val (.bool true) hw hf (by
    have q := eqIn_same (lim 0 n) (lim 1 n) (lim 2 n) (lim 3 n)
    unfold execOp
    rw [ho]
    simp only [hx, hy]
    go_simp)
theorem op_load {g k n : Nat} (x : Operand) (ho : o.op = .load 30 x) (hx : a.eval x = .pointer (some ⟨g, k, none⟩))
    (hc : w.cell? ⟨g, k, none⟩ = some (.int .u64 (lim 0 n : Nat)) ∧ w.cell? ⟨g, k + 1, none⟩ = some (.int .u64 (lim 1 n : Nat)) ∧ w.cell? ⟨g, k + 2, none⟩ = some (.int .u64 (lim 2 n : Nat)) ∧ w.cell? ⟨g, k + 3, none⟩ = some (.int .u64 (lim 3 n : Nat)))
    (hw : Region.wanted o (yielded ops a.tmps) = true) (hf : factTo T o.dst (W n) w) : relStep Try.prog ops T o a w :=
  relStep_val (W n) hw hf (by
    obtain ⟨c0, c1, c2, c3⟩ := hc
    unfold execOp
    rw [ho]
    simp only [hx]
    go_simp)
end
end Go.Proofs.Ytgmpoefgcimaiaa
