/- More operations, for ForkRises. -/
import Derived.Test.YtijoafmbmplgcaaDoorLawForkAt
namespace Go.Proofs.YtijoafmbmplgcaaDoor
open Go.RowKit

section
variable {ops : Array Oper} {T : Facts} {o : Oper} {a : Act} {w : World}
theorem op_call3 {f : FuncId} {tys : Array TypeId} {R : World → Value → Prop} (x y z : Operand) (ho : o.op = .call { callee := .value (.func f), args := #[x, y, z], argTypes := tys }) (he : ∀ args w, (callFunc f args).run Tryd.prog w = .ok (.enter f args) w) (hw : Region.wanted o (yielded ops a.tmps) = true)
    (h : Calls Tryd.prog f #[a.eval x, a.eval y, a.eval z] w (RetR R w)) (k : ∀ v w', R w' v → factTo T o.dst v w') : relStep Tryd.prog ops T o a w :=
  relStep_call f #[a.eval x, a.eval y, a.eval z] hw h k (by
    have hp : a.eval (.func f) = .func (.func f) #[] #[] := rfl
    have e := he #[a.eval x, a.eval y, a.eval z] w
    clear h hw k
    generalize a.eval = p at *
    unfold execOp
    rw [ho]
    go_simp)
theorem op_ext0 {u v : Value} (x : Operand) (ho : o.op = .extract x 0) (hx : a.eval x = .tuple #[u, v]) (hw : Region.wanted o (yielded ops a.tmps) = true) (hf : factTo T o.dst u w) : relStep Tryd.prog ops T o a w :=
  relStep_val u hw hf (by
    unfold execOp
    rw [ho]
    simp only [hx]
    go_simp)
theorem op_ext1 {u v : Value} (x : Operand) (ho : o.op = .extract x 1) (hx : a.eval x = .tuple #[u, v]) (hw : Region.wanted o (yielded ops a.tmps) = true) (hf : factTo T o.dst v w) : relStep Tryd.prog ops T o a w :=
  relStep_val v hw hf (by
    unfold execOp
    rw [ho]
    simp only [hx]
    go_simp)
theorem op_idx0 {g : Nat} (x : Operand) (ho : o.op = .indexAddr 24 x (.const (.int .i64 0))) (hx : a.eval x = .pointer (some ⟨g, 0, none⟩)) (hw : Region.wanted o (yielded ops a.tmps) = true) (hf : factTo T o.dst (.pointer (some ⟨g, 0, none⟩)) w) : relStep Tryd.prog ops T o a w :=
  relStep_val _ hw hf (by
    have hp : a.eval (.const (.int .i64 0)) = .int .i64 0 := rfl
    unfold execOp
    rw [ho]
    simp only [hx, hp]
    go_simp)
theorem op_idx1 {g : Nat} (x : Operand) (ho : o.op = .indexAddr 24 x (.const (.int .i64 1))) (hx : a.eval x = .pointer (some ⟨g, 0, none⟩)) (hw : Region.wanted o (yielded ops a.tmps) = true) (hf : factTo T o.dst (.pointer (some ⟨g, 1, none⟩)) w) : relStep Tryd.prog ops T o a w :=
  relStep_val _ hw hf (by
    have hp : a.eval (.const (.int .i64 1)) = .int .i64 1 := rfl
    unfold execOp
    rw [ho]
    simp only [hx, hp]
    go_simp)
theorem op_ldU {g j n : Nat} (x : Operand) (ho : o.op = .load 22 x) (hx : a.eval x = .pointer (some ⟨g, j, none⟩)) (hc : w.cell? ⟨g, j, none⟩ = some (.int .u64 (n : Nat))) (hw : Region.wanted o (yielded ops a.tmps) = true) (hf : factTo T o.dst (.int .u64 (n : Nat)) w) : relStep Tryd.prog ops T o a w :=
  relStep_val _ hw hf (by
    unfold execOp
    rw [ho]
    simp only [hx]
    go_simp)
theorem op_rem1000 {n r : Nat} (x : Operand) (t : TypeId) (hr : r = n % 1000) (ho : o.op = .binOp .rem 22 x (.const (.int .u64 1000)) t) (hx : a.eval x = .int .u64 (n : Nat)) (hw : Region.wanted o (yielded ops a.tmps) = true) (hf : factTo T o.dst (.int .u64 (r : Nat)) w) : relStep Tryd.prog ops T o a w :=
  relStep_val _ hw hf (by
    have hp : a.eval (.const (.int .u64 1000)) = .int .u64 1000 := rfl
    have e1 : (n : Int) % 1000 = (r : Int) := by omega
    have e2 : (n : Int).tmod 1000 = (r : Int) := by rw [Int.tmod_eq_emod_of_nonneg (by omega)]; exact e1
    clear hr
    unfold execOp
    rw [ho]
    simp only [hx, hp]
    go_simp)
theorem op_addU {n r z : Nat} (x y : Operand) (t : TypeId) (hz : z = (n + r) % 18446744073709551616) (ho : o.op = .binOp .add 22 x y t) (hx : a.eval x = .int .u64 (n : Nat)) (hy : a.eval y = .int .u64 (r : Nat)) (hw : Region.wanted o (yielded ops a.tmps) = true) (hf : factTo T o.dst (.int .u64 (z : Nat)) w) : relStep Tryd.prog ops T o a w :=
  relStep_val _ hw hf (by
    have e1 : IntKind.u64.wrap ((n : Int) + (r : Int)) = (z : Int) := by rw [IntKind.wrap_u64]; omega
    clear hz
    unfold execOp
    rw [ho]
    simp only [hx, hy]
    go_simp)
end
theorem en_fkAt (args : Array Value) (w : World) : (callFunc 9 args).run Tryd.prog w = .ok (.enter 9 args) w := by go_simp
end Go.Proofs.YtijoafmbmplgcaaDoor
