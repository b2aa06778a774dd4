/- Operations of the laws of layer 13, for wp_region_see. -/
import Derived.Test.YtijoafmbmplgcaaDoorFkWakes
import Derived.Test.YtijoafmbmplgcaaDoorOpsS
import Derived.Test.YtijoafmbmplgcaaDoorRelSeq
namespace Go.Proofs.YtijoafmbmplgcaaDoor
open Go.RowKit

section
variable {ops : Array Oper} {T : Facts} {o : Oper} {a : Act} {w : World}
theorem op_call0 {f : FuncId} {tys : Array TypeId} {R : World → Value → Prop} (ho : o.op = .call { callee := .value (.func f), args := #[], argTypes := tys }) (he : ∀ args w, (callFunc f args).run Tryd.prog w = .ok (.enter f args) w) (hw : Region.wanted o (yielded ops a.tmps) = true)
    (h : Calls Tryd.prog f #[] w (RetR R w)) (k : ∀ v w', R w' v → factTo T o.dst v w') : relStep Tryd.prog ops T o a w :=
  relStep_call f #[] hw h k (by
    have hp : a.eval (.func f) = .func (.func f) #[] #[] := rfl
    have e := he #[] w
    clear h hw k
    generalize a.eval = p at *
    unfold execOp
    rw [ho]
    go_simp)
theorem op_call1 {f : FuncId} {tys : Array TypeId} {R : World → Value → Prop} (x : Operand) (ho : o.op = .call { callee := .value (.func f), args := #[x], argTypes := tys }) (he : ∀ args w, (callFunc f args).run Tryd.prog w = .ok (.enter f args) w) (hw : Region.wanted o (yielded ops a.tmps) = true)
    (h : Calls Tryd.prog f #[a.eval x] w (RetR R w)) (k : ∀ v w', R w' v → factTo T o.dst v w') : relStep Tryd.prog ops T o a w :=
  relStep_call f #[a.eval x] hw h k (by
    have hp : a.eval (.func f) = .func (.func f) #[] #[] := rfl
    have e := he #[a.eval x] w
    clear h hw k
    generalize a.eval = p at *
    unfold execOp
    rw [ho]
    go_simp)
theorem op_callB {f : FuncId} {tys : Array TypeId} {R : World → Value → Prop} (x y : Operand) (ho : o.op = .call { callee := .value (.func f), args := #[x, y], argTypes := tys }) (he : ∀ args w, (callFunc f args).run Tryd.prog w = .ok (.enter f args) w) (hw : Region.wanted o (yielded ops a.tmps) = true)
    (h : Calls Tryd.prog f #[a.eval x, a.eval y] w (RetR R w)) (k : ∀ v w', R w' v → factTo T o.dst v w') : relStep Tryd.prog ops T o a w :=
  relStep_call f #[a.eval x, a.eval y] hw h k (by
    have hp : a.eval (.func f) = .func (.func f) #[] #[] := rfl
    have e := he #[a.eval x, a.eval y] w
    clear h hw k
    generalize a.eval = p at *
    unfold execOp
    rw [ho]
    go_simp)
theorem op_eqBool {z : Bool} (x y : Operand) (t : TypeId) (ho : o.op = .binOp .eql 4 x y t) (hx : a.eval x = .bool z) (hy : a.eval y = .bool z) (hw : Region.wanted o (yielded ops a.tmps) = true) (hf : factTo T o.dst (.bool true) w) : relStep Tryd.prog ops T o a w :=
  relStep_val (.bool true) hw hf (by
    unfold execOp
    rw [ho]
    simp only [hx, hy]
    go_simp)
theorem op_loadAt {ty : TypeId} {p : Addr} {v : Value} (x : Operand) (ho : o.op = .load ty x) (hx : a.eval x = .pointer (some p)) (hl : (Instr.loadAt ty (.pointer (some p))).run Tryd.prog w = .ok v w) (hw : Region.wanted o (yielded ops a.tmps) = true) (hf : factTo T o.dst v w) : relStep Tryd.prog ops T o a w :=
  relStep_val v hw hf (by
    unfold execOp
    rw [ho]
    simp only [hx, Sem.run_bind, hl, Result.andThen_ok]
    rfl)
end
theorem RetV.ret {u : Value} {w : World} {e : Ending} {w' : World} (h : RetV u w e w') : RetR (fun _ v => v = u) w e w' := ⟨u, h.1, rfl, h.2⟩
theorem en_fkOp (args : Array Value) (w : World) : (callFunc 18 args).run Tryd.prog w = .ok (.enter 18 args) w := by go_simp
theorem en_rfkOp (args : Array Value) (w : World) : (callFunc 19 args).run Tryd.prog w = .ok (.enter 19 args) w := by go_simp
theorem en_fkNative (args : Array Value) (w : World) : (callFunc 20 args).run Tryd.prog w = .ok (.enter 20 args) w := by go_simp
theorem en_rfkNative (args : Array Value) (w : World) : (callFunc 21 args).run Tryd.prog w = .ok (.enter 21 args) w := by go_simp
theorem en_fkWakes (args : Array Value) (w : World) : (callFunc 13 args).run Tryd.prog w = .ok (.enter 13 args) w := by go_simp
/-- An address in a block of its own. -/
theorem load_ad {w : World} {g : Nat} {bs : List Nat} (h : Row .u8 w g 27 bs) (hl : bs.length = 20) : (Instr.loadAt 27 (.pointer (some ⟨g, 0, none⟩))).run Tryd.prog w = .ok (AdV bs) w := by
  have h1 : w.heap[g]? = some (.cells (AdC bs) 27 (0, 0)) := h
  simp only [Instr.loadAt, Instr.sureAddr, Sem.run_bind, Sem.run_pure, Result.andThen_ok]
  exact run_loadVar_row w _ _ _ (AdC bs) (0, 0) _ h1 Tryd.underlying27 rfl (by rw [infoAd]; simp [hl])
end Go.Proofs.YtijoafmbmplgcaaDoor
