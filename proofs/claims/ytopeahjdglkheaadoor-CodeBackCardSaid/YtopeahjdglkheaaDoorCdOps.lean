/- Operations for wp_region_see in the texts on package code: calls, two-place operations, a literal of one byte, sums of strings. -/
import Derived.Test.YtopeahjdglkheaaDoorOpsS
import Derived.Test.YtopeahjdglkheaaDoorRelSeq
import Derived.Test.YtopeahjdglkheaaDoorCdJumps
import Derived.Great.BuildSlice
namespace Go.Proofs.YtopeahjdglkheaaDoor
open Go.RowKit

theorem RetV.cd {u : Value} {w : World} {e : Ending} {w' : World} (h : RetV u w e w') : RetR (fun _ v => v = u) w e w' := ⟨u, h.1, rfl, h.2⟩
section
variable {ops : Array Oper} {T : Facts} {o : Oper} {a : Act} {w : World}
theorem cd_call0 {f : FuncId} {tys : Array TypeId} {R : World → Value → Prop} (ho : o.op = .call { callee := .value (.func f), args := #[], argTypes := tys }) (he : ∀ args w, (callFunc f args).run Tryd.prog w = .ok (.enter f args) w) (hw : Region.wanted o (yielded ops a.tmps) = true)
    (h : Calls Tryd.prog f #[] w (RetR R w)) (k : ∀ v w', R w' v → factTo T o.dst v w') : relStep Tryd.prog ops T o a w :=
  relStep_call f #[] hw h k (by
    have hp : a.eval (.func f) = .func (.func f) #[] #[] := rfl
    have e := he #[] w
    clear h hw k
    generalize a.eval = p at *
    unfold execOp
    rw [ho]
    go_simp)
theorem cd_call1 {f : FuncId} {tys : Array TypeId} {R : World → Value → Prop} (x : Operand) (ho : o.op = .call { callee := .value (.func f), args := #[x], argTypes := tys }) (he : ∀ args w, (callFunc f args).run Tryd.prog w = .ok (.enter f args) w) (hw : Region.wanted o (yielded ops a.tmps) = true)
    (h : Calls Tryd.prog f #[a.eval x] w (RetR R w)) (k : ∀ v w', R w' v → factTo T o.dst v w') : relStep Tryd.prog ops T o a w :=
  relStep_call f #[a.eval x] hw h k (by
    have hp : a.eval (.func f) = .func (.func f) #[] #[] := rfl
    have e := he #[a.eval x] w
    clear h hw k
    generalize a.eval = p at *
    unfold execOp
    rw [ho]
    go_simp)
theorem cd_call2 {f : FuncId} {tys : Array TypeId} {R : World → Value → Prop} (x y : Operand) (ho : o.op = .call { callee := .value (.func f), args := #[x, y], argTypes := tys }) (he : ∀ args w, (callFunc f args).run Tryd.prog w = .ok (.enter f args) w) (hw : Region.wanted o (yielded ops a.tmps) = true)
    (h : Calls Tryd.prog f #[a.eval x, a.eval y] w (RetR R w)) (k : ∀ v w', R w' v → factTo T o.dst v w') : relStep Tryd.prog ops T o a w :=
  relStep_call f #[a.eval x, a.eval y] hw h k (by
    have hp : a.eval (.func f) = .func (.func f) #[] #[] := rfl
    have e := he #[a.eval x, a.eval y] w
    clear h hw k
    generalize a.eval = p at *
    unfold execOp
    rw [ho]
    go_simp)
theorem cd_ext {vs : Array Value} {v : Value} (x : Operand) (i : Nat) (ho : o.op = .extract x i) (hx : a.eval x = .tuple vs) (hv : vs[i]? = some v) (hw : Region.wanted o (yielded ops a.tmps) = true) (hf : factTo T o.dst v w) : relStep Tryd.prog ops T o a w :=
  relStep_val v hw hf (by
    unfold execOp
    rw [ho]
    simp only [hx]
    go_simp)
theorem cd_bin {u v r : Value} (p : BinOp) (ty : TypeId) (x y : Operand) (t : TypeId) (ho : o.op = .binOp p ty x y t) (hx : a.eval x = u) (hy : a.eval y = v) (hq : ∀ w, (eqGuard p ty x y u v).run Tryd.prog w = .ok () w) (hr : ∀ w, (binOp p ty u v).run Tryd.prog w = .ok r w)
    (hw : Region.wanted o (yielded ops a.tmps) = true) (hf : factTo T o.dst r w) : relStep Tryd.prog ops T o a w :=
  relStep_val r hw hf (by
    have e := hr w
    have e2 := hq w
    unfold execOp
    rw [ho]
    simp only [hx, hy]
    go_simp)
theorem cd_to8 {z : Int} (x : Operand) (ho : o.op = .convert 3 5 x) (hx : a.eval x = .int .i64 z) (hw : Region.wanted o (yielded ops a.tmps) = true) (hf : factTo T o.dst (.int .u8 (IntKind.u8.wrap z)) w) : relStep Tryd.prog ops T o a w :=
  relStep_val _ hw hf (by
    unfold execOp
    rw [ho]
    simp only [hx]
    go_simp)
theorem infoU8 : (Tryd.prog.info? 5).map (fun i => (i.zero, i.size, i.bytes)) = some (some (.int .u8 0), 1, 1) := by kernel_rfl
theorem byt_one (w : World) (m : Nat) (hm : m < 256) : Byt (w.alloc (.cells #[.int .u8 (m : Nat)] 5)) (.slice (some ⟨w.heap.size, 0, none⟩) 1 1) [m] := by
  refine ⟨some ⟨w.heap.size, 0, none⟩, 1, rfl, ⟨Nat.le_refl _, (fun h => by cases h), fun _ => ⟨w.heap.size, 0, rfl, by simp, fun j hj => ?_⟩⟩, fun x hx => ?_⟩
  · have hj : j < 1 := hj
    obtain rfl : j = 0 := by omega
    rw [cell_of_row _ _ (0 + 0) _ _ (0, 0) (heap_alloc_new w _)]
    rfl
  · rw [List.mem_singleton] at hx
    omega
theorem cd_bld1 {m : Nat} (x : Operand) (ho : o.op = .buildSlice 31 1 #[(0, x)]) (hx : a.eval x = .int .u8 (m : Nat)) (hm : m < 256) (hw : Region.wanted o (yielded ops a.tmps) = true) (hf : ∀ v w', Byt w' v [m] → factTo T o.dst v w') : relStep Tryd.prog ops T o a w := by
  obtain ⟨i0, hi, hz0, hz1, hz2⟩ := info_parts infoU8
  refine relStep_go hw ?_
  have hr : (execOp a.eval o).run Tryd.prog w = .ok (.value (.slice (some ⟨w.heap.size, 0, none⟩) 1 1)) (w.alloc (.cells #[.int .u8 (m : Nat)] 5)) := by
    unfold execOp
    rw [ho]
    simp only [Sem.run_bind]
    rw [run_buildSlice w 31 5 1 _ #[.int .u8 (m : Nat)] i0 (.int .u8 0) Tryd.underlying31 hi hz0 (by rw [hz1]; decide) (by rw [hz1]; decide) (by rw [hz1]; simp only [List.map_toArray, List.map_cons, List.map_nil, hx]; kernel_rfl)]
    rfl
  rw [hr]
  exact ⟨(Below.refl _ _).alloc (Nat.le_refl _) _, hf _ _ (byt_one w m hm)⟩
theorem cd_cat {s t : ByteArray} (x y : Operand) (ty : TypeId) (ho : o.op = .binOp .add 9 x y ty) (hx : a.eval x = .string s) (hy : a.eval y = .string t) (hl : ¬ 9223372036854775807 < s.size + t.size) (hw : Region.wanted o (yielded ops a.tmps) = true) (hf : factTo T o.dst (.string (s ++ t)) w) : relStep Tryd.prog ops T o a w :=
  relStep_val (.string (s ++ t)) hw hf (by
    unfold execOp
    rw [ho]
    simp only [hx, hy]
    go_simp)
end
end Go.Proofs.YtopeahjdglkheaaDoor
