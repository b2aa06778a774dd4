/- Facts of slots: a known value, a number, bytes, a pair of numbers; how a region's operations are asked. -/
import Derived.Test.YtopeahjdglkheaaDoorRel
import Derived.Test.YtopeahjdglkheaaDoorDig
import Derived.Test.YtopeahjdglkheaaDoorWordMath
import Derived.Test.YtopeahjdglkheaaDoorRExp
import Derived.Test.YtopeahjdglkheaaDoorRefW
namespace Go.Proofs.YtopeahjdglkheaaDoor
open Go.RowKit

def Fact.is (c : Value) : Fact := ⟨fun v _ => v = c, fun _ _ _ _ h => h⟩
def Fact.num (n L : Nat) : Fact := ⟨fun v w => Num w v n L, fun _ _ _ hb h => h.below hb⟩
def Fact.byt (bs : List Nat) : Fact := ⟨fun v w => Byt w v bs, fun _ _ _ hb h => h.below hb⟩
def Two (w : World) (v : Value) (a b L M : Nat) : Prop := ∃ x y, v = .tuple #[x, y] ∧ Num w x a L ∧ Num w y b M
def Fact.two (a b L M : Nat) : Fact := ⟨fun v w => Two w v a b L M, fun _ _ _ hb ⟨x, y, e, h, k⟩ => ⟨x, y, e, h.below hb, k.below hb⟩⟩

section
variable {P : Program} {ops : Array Oper} {T : Facts} {ds : List Nat}
theorem relOps_nil {a0 : Act} {w0 : World} : relOps P ops ds T a0 w0 [] := trivial
theorem relOps_cons {a0 : Act} {w0 : World} {o : Oper} {r : List Oper} (h : ∀ w, Below w0.heap.size w0 w → relAsk ds T w (fun a => relStep P ops T o a w) (o.looksAt ops) a0) (k : relOps P ops ds T a0 w0 r) : relOps P ops ds T a0 w0 (o :: r) := ⟨h, k⟩
theorem relAsk_nil {w : World} {K : Act → Prop} {a : Act} (h : K a) : relAsk ds T w K [] a := h
theorem relAsk_in {w : World} {K : Act → Prop} {a : Act} {t : Nat} {r : List Nat} (hc : ds.contains t = true) (h : ∀ v, factAt T t v w → relAsk ds T w K r (a.put (some t) v)) : relAsk ds T w K (t :: r) a := by
  unfold relAsk; rw [if_pos hc]; exact h
theorem relAsk_out {w : World} {K : Act → Prop} {a : Act} {t : Nat} {r : List Nat} (hc : ds.contains t = false) (h : relAsk ds T w K r a) : relAsk ds T w K (t :: r) a := by
  unfold relAsk; rw [if_neg (by rw [hc]; decide)]; exact h
theorem relStep_go {o : Oper} {a : Act} {w : World} (hw : Region.wanted o (yielded ops a.tmps) = true) (h : relUpon P T o.dst w ((execOp a.eval o).run P w)) : relStep P ops T o a w := by
  unfold relStep; rw [if_pos hw]; exact h
theorem relStep_skip {o : Oper} {a : Act} {w : World} (hw : Region.wanted o (yielded ops a.tmps) = false) (h : factTo T o.dst undef w) : relStep P ops T o a w := by
  unfold relStep; rw [if_neg (by rw [hw]; decide)]; exact h
theorem rel_val {d : Option Nat} {v : Value} {w : World} (h : factTo T d v w) : relUpon P T d w (.ok (.value v) w) := ⟨Below.refl _ _, h⟩
theorem rel_call {R : World → Value → Prop} {f : FuncId} {args : Array Value} {d : Option Nat} {w : World} (h : Calls P f args w (RetR R w)) (k : ∀ v w', R w' v → factTo T d v w') : relUpon P T d w (.ok (.enter f args) w) :=
  ⟨Below.refl _ _, h.mono fun _ w'' ⟨v, he, hr, hb⟩ => ⟨v, he, hb, k v w'' hr⟩⟩
theorem rel_callW {n : Nat} {f : FuncId} {args : Array Value} {d : Option Nat} {w : World} (h : Calls P f args w (RetW n w)) (k : ∀ w', factTo T d (W n) w') : relUpon P T d w (.ok (.enter f args) w) :=
  ⟨Below.refl _ _, h.mono fun _ w'' hh => ⟨W n, hh.val.1, hh.val.2, k w''⟩⟩
theorem rel_callV {u : Value} {f : FuncId} {args : Array Value} {d : Option Nat} {w : World} (h : Calls P f args w (RetV u w)) (k : ∀ w', factTo T d u w') : relUpon P T d w (.ok (.enter f args) w) :=
  ⟨Below.refl _ _, h.mono fun _ w'' hh => ⟨u, hh.1, hh.2, k w''⟩⟩
theorem rel_callD {u : Value} {f : FuncId} {args : Array Value} {d : Option Nat} {w : World} (h : Calls P f args w (RetD u w)) (k : ∀ w', factTo T d u w') : relUpon P T d w (.ok (.enter f args) w) :=
  ⟨Below.refl _ _, h.mono fun _ w'' hh => ⟨u, hh.below.1, hh.below.2, k w''⟩⟩
theorem rel_call2 {a b L M : Nat} {f : FuncId} {args : Array Value} {d : Option Nat} {w : World} (h : Calls P f args w (RetTwo a b L M w)) (k : ∀ v w', Two w' v a b L M → factTo T d v w') : relUpon P T d w (.ok (.enter f args) w) :=
  ⟨Below.refl _ _, h.mono fun _ w'' ⟨x, y, he, h1, h2, hb⟩ => ⟨.tuple #[x, y], he, hb, k _ w'' ⟨x, y, rfl, h1, h2⟩⟩⟩
theorem relStep_val {o : Oper} {a : Act} {w : World} (v : Value) (hw : Region.wanted o (yielded ops a.tmps) = true) (hf : factTo T o.dst v w) (hr : (execOp a.eval o).run P w = .ok (.value v) w) : relStep P ops T o a w :=
  relStep_go hw (by rw [hr]; exact rel_val hf)
theorem relStep_call {o : Oper} {a : Act} {w : World} (f : FuncId) (args : Array Value) {R : World → Value → Prop} (hw : Region.wanted o (yielded ops a.tmps) = true) (h : Calls P f args w (RetR R w)) (k : ∀ v w', R w' v → factTo T o.dst v w') (hr : (execOp a.eval o).run P w = .ok (.enter f args) w) : relStep P ops T o a w :=
  relStep_go hw (by rw [hr]; exact rel_call h k)
theorem relStep_callW {o : Oper} {a : Act} {w : World} (f : FuncId) (args : Array Value) {n : Nat} (hw : Region.wanted o (yielded ops a.tmps) = true) (h : Calls P f args w (RetW n w)) (k : ∀ w', factTo T o.dst (W n) w') (hr : (execOp a.eval o).run P w = .ok (.enter f args) w) : relStep P ops T o a w :=
  relStep_go hw (by rw [hr]; exact rel_callW h k)
theorem relStep_callV {o : Oper} {a : Act} {w : World} (f : FuncId) (args : Array Value) {u : Value} (hw : Region.wanted o (yielded ops a.tmps) = true) (h : Calls P f args w (RetV u w)) (k : ∀ w', factTo T o.dst u w') (hr : (execOp a.eval o).run P w = .ok (.enter f args) w) : relStep P ops T o a w :=
  relStep_go hw (by rw [hr]; exact rel_callV h k)
/-- A value moved. -/
theorem relStep_move {o : Oper} {a : Act} {w : World} (x : Operand) (ho : o.op = .move x) (hw : Region.wanted o (yielded ops a.tmps) = true) (hf : factTo T o.dst (a.eval x) w) : relStep P ops T o a w :=
  relStep_val (a.eval x) hw hf (by unfold execOp; rw [ho]; rfl)
theorem relStep_assign {o : Oper} {a : Act} {w : World} (x : Operand) (ho : o.op = .assign x) (hw : Region.wanted o (yielded ops a.tmps) = true) (hf : factTo T o.dst (a.eval x) w) : relStep P ops T o a w :=
  relStep_val (a.eval x) hw hf (by unfold execOp; rw [ho]; rfl)
theorem relStep_pick {o : Oper} {a : Act} {w : World} (c x y : Operand) (ho : o.op = .pick c x y) (hc : a.eval c = .bool true) (hw : Region.wanted o (yielded ops a.tmps) = true) (hf : factTo T o.dst (a.eval x) w) : relStep P ops T o a w :=
  relStep_val (a.eval x) hw hf (by
    unfold execOp
    rw [ho]
    simp only [hc]
    generalize a.eval x = vx
    generalize a.eval y = vy
    rfl)
end
end Go.Proofs.YtopeahjdglkheaaDoor
