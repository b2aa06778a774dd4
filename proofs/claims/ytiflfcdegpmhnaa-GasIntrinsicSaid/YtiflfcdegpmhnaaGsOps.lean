/- Operations of the laws on gas, for wp_region_see; and what lies in a block that stands. -/
import Derived.Test.YtiflfcdegpmhnaaGsWords
import Derived.Test.YtiflfcdegpmhnaaEqArr
namespace Go.Proofs.Ytiflfcdegpmhnaa
open Go.RowKit

section
variable {ops : Array Oper} {T : Facts} {o : Oper} {a : Act} {w : World}
theorem gs_call0 {f : FuncId} {tys : Array TypeId} {R : World → Value → Prop} (ho : o.op = .call { callee := .value (.func f), args := #[], argTypes := tys }) (he : ∀ args w, (callFunc f args).run Try.prog w = .ok (.enter f args) w) (hw : Region.wanted o (yielded ops a.tmps) = true)
    (h : Calls Try.prog f #[] w (RetR R w)) (k : ∀ v w', R w' v → factTo T o.dst v w') : relStep Try.prog ops T o a w :=
  relStep_call f #[] hw h k (by
    have hp : a.eval (.func f) = .func (.func f) #[] #[] := rfl
    have e := he #[] w
    clear h hw k
    generalize a.eval = p at *
    unfold execOp
    rw [ho]
    go_simp)
theorem gs_call1 {f : FuncId} {tys : Array TypeId} {R : World → Value → Prop} (x : Operand) (ho : o.op = .call { callee := .value (.func f), args := #[x], argTypes := tys }) (he : ∀ args w, (callFunc f args).run Try.prog w = .ok (.enter f args) w) (hw : Region.wanted o (yielded ops a.tmps) = true)
    (h : Calls Try.prog f #[a.eval x] w (RetR R w)) (k : ∀ v w', R w' v → factTo T o.dst v w') : relStep Try.prog ops T o a w :=
  relStep_call f #[a.eval x] hw h k (by
    have hp : a.eval (.func f) = .func (.func f) #[] #[] := rfl
    have e := he #[a.eval x] w
    clear h hw k
    generalize a.eval = p at *
    unfold execOp
    rw [ho]
    go_simp)
theorem gs_call2 {f : FuncId} {tys : Array TypeId} {R : World → Value → Prop} (x y : Operand) (ho : o.op = .call { callee := .value (.func f), args := #[x, y], argTypes := tys }) (he : ∀ args w, (callFunc f args).run Try.prog w = .ok (.enter f args) w) (hw : Region.wanted o (yielded ops a.tmps) = true)
    (h : Calls Try.prog f #[a.eval x, a.eval y] w (RetR R w)) (k : ∀ v w', R w' v → factTo T o.dst v w') : relStep Try.prog ops T o a w :=
  relStep_call f #[a.eval x, a.eval y] hw h k (by
    have hp : a.eval (.func f) = .func (.func f) #[] #[] := rfl
    have e := he #[a.eval x, a.eval y] w
    clear h hw k
    generalize a.eval = p at *
    unfold execOp
    rw [ho]
    go_simp)
theorem gs_call3 {f : FuncId} {tys : Array TypeId} {R : World → Value → Prop} (x y z : Operand) (ho : o.op = .call { callee := .value (.func f), args := #[x, y, z], argTypes := tys }) (he : ∀ args w, (callFunc f args).run Try.prog w = .ok (.enter f args) w) (hw : Region.wanted o (yielded ops a.tmps) = true)
    (h : Calls Try.prog f #[a.eval x, a.eval y, a.eval z] w (RetR R w)) (k : ∀ v w', R w' v → factTo T o.dst v w') : relStep Try.prog ops T o a w :=
  relStep_call f #[a.eval x, a.eval y, a.eval z] hw h k (by
    have hp : a.eval (.func f) = .func (.func f) #[] #[] := rfl
    have e := he #[a.eval x, a.eval y, a.eval z] w
    clear h hw k
    generalize a.eval = p at *
    unfold execOp
    rw [ho]
    go_simp)
theorem gs_ext {vs : Array Value} {v : Value} (x : Operand) (i : Nat) (ho : o.op = .extract x i) (hx : a.eval x = .tuple vs) (hv : vs[i]? = some v) (hw : Region.wanted o (yielded ops a.tmps) = true) (hf : factTo T o.dst v w) : relStep Try.prog ops T o a w :=
  relStep_val v hw hf (by
    unfold execOp
    rw [ho]
    simp only [hx]
    go_simp)
theorem gs_not {b : Bool} (x : Operand) (t : TypeId) (ho : o.op = .unOp .not t x) (hx : a.eval x = .bool b) (hw : Region.wanted o (yielded ops a.tmps) = true) (hf : factTo T o.dst (.bool (!b)) w) : relStep Try.prog ops T o a w :=
  relStep_val (.bool (!b)) hw hf (by
    unfold execOp
    rw [ho]
    simp only [hx]
    cases b <;> go_simp)
theorem gs_len {bs : List Nat} (x : Operand) (ho : o.op = .call { callee := .builtin .len, args := #[x], argTypes := #[54] }) (hx : Byt w (a.eval x) bs) (hw : Region.wanted o (yielded ops a.tmps) = true) (hf : factTo T o.dst (.int .i64 (bs.length : Nat)) w) : relStep Try.prog ops T o a w :=
  relStep_val (.int .i64 (bs.length : Nat)) hw hf (by
    obtain ⟨A, c, e, _, _⟩ := hx
    clear hw hf
    generalize a.eval = p at *
    unfold execOp
    rw [ho]
    go_simp)
theorem gs_bin {u v r : Value} (p : BinOp) (ty : TypeId) (x y : Operand) (t : TypeId) (ho : o.op = .binOp p ty x y t) (hx : a.eval x = u) (hy : a.eval y = v) (hq : ∀ w, (eqGuard p ty x y u v).run Try.prog w = .ok () w) (hr : ∀ w, (binOp p ty u v).run Try.prog w = .ok r w)
    (hw : Region.wanted o (yielded ops a.tmps) = true) (hf : factTo T o.dst r w) : relStep Try.prog ops T o a w :=
  relStep_val r hw hf (by
    have e := hr w
    have e2 := hq w
    unfold execOp
    rw [ho]
    simp only [hx, hy]
    go_simp)
theorem gs_conv {z : Int} (x : Operand) (ho : o.op = .convert 3 22 x) (hx : a.eval x = .int .i64 z) (hw : Region.wanted o (yielded ops a.tmps) = true) (hf : factTo T o.dst (.int .u64 (IntKind.u64.wrap z)) w) : relStep Try.prog ops T o a w :=
  relStep_val _ hw hf (by
    unfold execOp
    rw [ho]
    simp only [hx]
    go_simp)
theorem gs_faR {g k : Nat} (x : Operand) (ho : o.op = .fieldAddr 26 x k) (hk : k = 0 ∨ k = 21 ∨ k = 22 ∨ k = 23) (hx : a.eval x = .pointer (some ⟨g, 0, none⟩)) (hw : Region.wanted o (yielded ops a.tmps) = true) (hf : factTo T o.dst (.pointer (some ⟨g, k, none⟩)) w) : relStep Try.prog ops T o a w :=
  relStep_val (.pointer (some ⟨g, k, none⟩)) hw hf (by
    unfold execOp
    rw [ho]
    simp only [hx]
    rcases hk with rfl | rfl | rfl | rfl <;> go_simp)
theorem gs_load {g k : Nat} {v : Value} {t : TypeId} (x : Operand) (ho : o.op = .load t x) (ht : ∀ w, (isAgg t).run Try.prog w = .ok false w) (hx : a.eval x = .pointer (some ⟨g, k, none⟩)) (hc : w.cell? ⟨g, k, none⟩ = some v) (hw : Region.wanted o (yielded ops a.tmps) = true) (hf : factTo T o.dst v w) : relStep Try.prog ops T o a w :=
  relStep_val v hw hf (by
    unfold execOp
    rw [ho]
    simp only [hx]
    have := ht w
    go_simp)
theorem gs_loadW {g k n : Nat} (x : Operand) (ho : o.op = .load 24 x) (hx : a.eval x = .pointer (some ⟨g, k, none⟩))
    (hc : w.cell? ⟨g, k, none⟩ = some (.int .u64 (lim 0 n : Nat)) ∧ w.cell? ⟨g, k + 1, none⟩ = some (.int .u64 (lim 1 n : Nat)) ∧ w.cell? ⟨g, k + 2, none⟩ = some (.int .u64 (lim 2 n : Nat)) ∧ w.cell? ⟨g, k + 3, none⟩ = some (.int .u64 (lim 3 n : Nat)))
    (hw : Region.wanted o (yielded ops a.tmps) = true) (hf : factTo T o.dst (W n) w) : relStep Try.prog ops T o a w :=
  relStep_val (W n) hw hf (by
    obtain ⟨c0, c1, c2, c3⟩ := hc
    unfold execOp
    rw [ho]
    simp only [hx]
    go_simp)
theorem gs_loadAt {ty : TypeId} {p : Addr} {v : Value} (x : Operand) (ho : o.op = .load ty x) (hx : a.eval x = .pointer (some p)) (hl : (Instr.loadAt ty (.pointer (some p))).run Try.prog w = .ok v w) (hw : Region.wanted o (yielded ops a.tmps) = true) (hf : factTo T o.dst v w) : relStep Try.prog ops T o a w :=
  relStep_val v hw hf (by
    unfold execOp
    rw [ho]
    simp only [hx, Sem.run_bind, hl, Result.andThen_ok]
    rfl)
end
theorem RetV.gs {u : Value} {w : World} {e : Ending} {w' : World} (h : RetV u w e w') : RetR (fun _ v => v = u) w e w' := ⟨u, h.1, rfl, h.2⟩
/-- A fork's numbers lie in a block. -/
def RulesAt (w : World) (g : Nat) (f : Int) (k : Nat → Int) : Prop := w.heap[g]? = some (.cells (RulesK f k) 26 (0, 0))
theorem RulesAt.lt {w : World} {g : Nat} {f : Int} {k : Nat → Int} (h : RulesAt w g f k) : g < w.heap.size := by
  rcases Nat.lt_or_ge g w.heap.size with hlt | hge
  · exact hlt
  · unfold RulesAt at h; rw [Array.getElem?_eq_none hge] at h; cases h
theorem RulesAt.below {w w' : World} {g B : Nat} {f : Int} {k : Nat → Int} (h : RulesAt w g f k) (hb : Below B w w') (hg : g < B) : RulesAt w' g f k := (hb.block g hg).trans h
theorem RulesAt.alloc {w : World} {g : Nat} {f : Int} {k : Nat → Int} (h : RulesAt w g f k) (o : Obj) : RulesAt (w.alloc o) g f k := (Below.heap_alloc w o g h.lt).trans h
theorem RulesAt.new (w : World) (f : Int) (k : Nat → Int) : RulesAt (w.alloc (.cells (RulesK f k) 26)) w.heap.size f k := heap_alloc_new w _
theorem RulesAt.fork {w : World} {g : Nat} {f : Int} {k : Nat → Int} (h : RulesAt w g f k) : w.cell? ⟨g, 0, none⟩ = some (.int .i64 f) := by rw [cell_of_row _ _ 0 _ _ (0, 0) h]; rfl
theorem RulesAt.c21 {w : World} {g : Nat} {f : Int} {k : Nat → Int} (h : RulesAt w g f k) : w.cell? ⟨g, 21, none⟩ = some (.int .u64 (k 21)) := by rw [cell_of_row _ _ 21 _ _ (0, 0) h]; rfl
theorem RulesAt.c22 {w : World} {g : Nat} {f : Int} {k : Nat → Int} (h : RulesAt w g f k) : w.cell? ⟨g, 22, none⟩ = some (.int .u64 (k 22)) := by rw [cell_of_row _ _ 22 _ _ (0, 0) h]; rfl
theorem RulesAt.c23 {w : World} {g : Nat} {f : Int} {k : Nat → Int} (h : RulesAt w g f k) : w.cell? ⟨g, 23, none⟩ = some (.int .u64 (k 23)) := by rw [cell_of_row _ _ 23 _ _ (0, 0) h]; rfl
theorem RulesAt.load {w : World} {g : Nat} {f : Int} {k : Nat → Int} (h : RulesAt w g f k) : (Instr.loadAt 26 (.pointer (some ⟨g, 0, none⟩))).run Try.prog w = .ok (.agg (RulesK f k)) w := by
  have h1 : w.heap[g]? = some (.cells (RulesK f k) 26 (0, 0)) := h
  simp only [Instr.loadAt, Instr.sureAddr, Sem.run_bind, Sem.run_pure, Result.andThen_ok]
  exact run_loadVar_row w _ _ _ (RulesK f k) (0, 0) _ h1 Try.underlying26 rfl infoRules
theorem gs_u64 (w : World) : (isAgg 22).run Try.prog w = .ok false w := by kernel_rfl
theorem gs_int (w : World) : (isAgg 3).run Try.prog w = .ok false w := by kernel_rfl
theorem gs_boolT (w : World) : (isAgg 4).run Try.prog w = .ok false w := by kernel_rfl
theorem en_gsShort (args : Array Value) (w : World) : (callFunc 44 args).run Try.prog w = .ok (.enter 44 args) w := by go_simp
end Go.Proofs.Ytiflfcdegpmhnaa
