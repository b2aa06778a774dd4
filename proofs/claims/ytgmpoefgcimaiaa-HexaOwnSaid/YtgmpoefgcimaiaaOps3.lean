/- Operations on bytes of arrays in laws. -/
import Derived.Test.YtgmpoefgcimaiaaOps2
import Derived.Test.YtgmpoefgcimaiaaArr32
namespace Go.Proofs.Ytgmpoefgcimaiaa
open Go.RowKit

section
variable {ops : Array Oper} {T : Facts} {o : Oper} {a : Act} {w : World}
theorem op_index33 {g m : Nat} (x y : Operand) (ho : o.op = .indexAddr 37 x y) (hm : m < 32) (hx : a.eval x = .pointer (some ⟨g, 0, none⟩)) (hy : a.eval y = .int .i64 (m : Nat)) (hw : Region.wanted o (yielded ops a.tmps) = true) (hf : factTo T o.dst (.pointer (some ⟨g, m, none⟩)) w) : relStep Try.prog ops T o a w :=
  relStep_val (.pointer (some ⟨g, m, none⟩)) hw hf (by
    have h : (m : Int) < 32 := by omega
    clear hm
    unfold execOp
    rw [ho]
    simp only [hx, hy]
    go_simp)
theorem op_load8 {g m : Nat} {z : Int} (x : Operand) (ho : o.op = .load 5 x) (hx : a.eval x = .pointer (some ⟨g, m, none⟩)) (hc : w.cell? ⟨g, m, none⟩ = some (.int .u8 z)) (hw : Region.wanted o (yielded ops a.tmps) = true) (hf : factTo T o.dst (.int .u8 z) w) : relStep Try.prog ops T o a w :=
  relStep_val (.int .u8 z) hw hf (by
    unfold execOp
    rw [ho]
    simp only [hx]
    go_simp)
theorem op_neU8 {z : Int} (x y : Operand) (t : TypeId) (ho : o.op = .binOp .neq 5 x y t) (hx : a.eval x = .int .u8 z) (hy : a.eval y = .int .u8 z) (hw : Region.wanted o (yielded ops a.tmps) = true) (hf : factTo T o.dst (.bool false) w) : relStep Try.prog ops T o a w :=
  relStep_val (.bool false) hw hf (by
    unfold execOp
    rw [ho]
    simp only [hx, hy]
    go_simp)
theorem op_conv64 {m : Nat} (x : Operand) (ho : o.op = .convert 3 28 x) (hm : m < 18446744073709551616) (hx : a.eval x = .int .i64 (m : Nat)) (hw : Region.wanted o (yielded ops a.tmps) = true) (hf : factTo T o.dst (.int .u64 (m : Nat)) w) : relStep Try.prog ops T o a w :=
  relStep_val (.int .u64 (m : Nat)) hw hf (by
    have h : IntKind.u64.wrap (m : Int) = (m : Int) := by rw [wrapU, Nat.mod_eq_of_lt hm]
    clear hm
    unfold execOp
    rw [ho]
    simp only [hx]
    go_simp)
theorem op_conv8 {m : Nat} (x : Operand) (ho : o.op = .convert 5 28 x) (hm : m < 18446744073709551616) (hx : a.eval x = .int .u8 (m : Nat)) (hw : Region.wanted o (yielded ops a.tmps) = true) (hf : factTo T o.dst (.int .u64 (m : Nat)) w) : relStep Try.prog ops T o a w :=
  relStep_val (.int .u64 (m : Nat)) hw hf (by
    have h : IntKind.u64.wrap (m : Int) = (m : Int) := by rw [wrapU, Nat.mod_eq_of_lt hm]
    clear hm
    unfold execOp
    rw [ho]
    simp only [hx]
    go_simp)
end
end Go.Proofs.Ytgmpoefgcimaiaa
