/- Operations on strings, bools and integers in laws, whatever the law speaks of. -/
import Derived.Test.YtopeahjdglkheaaDoorFacts
import Derived.Laws.BytesArg
import Derived.ChangeKeysEq
namespace Go.Proofs.YtopeahjdglkheaaDoor
open Go.RowKit

/-- Bytes as a string. -/
def sOf (bs : List Nat) : ByteArray := strOfNums (bs.map fun n : Nat => (n : Int))
theorem run_sOf {w : World} {v : Value} {bs : List Nat} (h : Byt w v bs) : (convert 31 9 v).run Tryd.prog w = .ok (.string (sOf bs)) w := by
  obtain ⟨A, c, rfl, hrd, _⟩ := h
  rcases Nat.eq_zero_or_pos bs.length with h0 | h0
  · have hb : bs = [] := List.eq_nil_of_length_eq_zero h0
    subst hb
    rcases A with _ | ad
    · exact run_convert_bytes_nil w _ _ Tryd.underlying31 Tryd.underlying5 _ _ _ Tryd.underlying9
    · obtain ⟨b, o, s⟩ := ad
      rw [run_convert_bytes_string w _ _ _ _ _ _ Tryd.underlying31 Tryd.underlying5 Tryd.underlying9]
      show Sem.run _ (Conv.bytesToString (.slice (some ⟨b, o, s⟩) 0 c)) w = _
      rw [run_bytesToString w _ 0 c [] (by simp [loadCells, loadCellsFrom])]
      rfl
  · obtain ⟨b, o, rfl, _, hc⟩ := hrd.at_ h0
    refine run_convert_bytes_arg w _ _ Tryd.underlying31 Tryd.underlying5 b o bs.length c (bs.map fun n : Nat => (n : Int)) (by simp) (fun i hi => ?_) _ Tryd.underlying9
    rw [hc i hi]
    simp [hi]
section
variable {ops : Array Oper} {T : Facts} {o : Oper} {a : Act} {w : World}
theorem op_str {bs : List Nat} (x : Operand) (ho : o.op = .convert 31 9 x) (hx : Byt w (a.eval x) bs) (hw : Region.wanted o (yielded ops a.tmps) = true) (hf : factTo T o.dst (.string (sOf bs)) w) : relStep Tryd.prog ops T o a w :=
  relStep_val (.string (sOf bs)) hw hf (by
    obtain ⟨v, hv⟩ : ∃ v, v = a.eval x := ⟨_, rfl⟩
    rw [← hv] at hx
    have h := run_sOf hx
    unfold execOp
    rw [ho]
    simp only [← hv]
    clear hx hv
    go_simp)
theorem op_eqS {s : ByteArray} (x y : Operand) (t : TypeId) (ho : o.op = .binOp .eql 9 x y t) (hx : a.eval x = .string s) (hy : a.eval y = .string s) (hw : Region.wanted o (yielded ops a.tmps) = true) (hf : factTo T o.dst (.bool true) w) : relStep Tryd.prog ops T o a w :=
  relStep_val (.bool true) hw hf (by
    unfold execOp
    rw [ho]
    simp only [hx, hy]
    go_simp)
theorem op_eqB {p : Bool} (x y : Operand) (t : TypeId) (ho : o.op = .binOp .eql 4 x y t) (hx : a.eval x = .bool p) (hy : a.eval y = .bool p) (hw : Region.wanted o (yielded ops a.tmps) = true) (hf : factTo T o.dst (.bool true) w) : relStep Tryd.prog ops T o a w :=
  relStep_val (.bool true) hw hf (by
    unfold execOp
    rw [ho]
    simp only [hx, hy]
    cases p <;> go_simp)
theorem op_eqU {z : Int} (x y : Operand) (t : TypeId) (ho : o.op = .binOp .eql 32 x y t) (hx : a.eval x = .int .u64 z) (hy : a.eval y = .int .u64 z) (hw : Region.wanted o (yielded ops a.tmps) = true) (hf : factTo T o.dst (.bool true) w) : relStep Tryd.prog ops T o a w :=
  relStep_val (.bool true) hw hf (by
    unfold execOp
    rw [ho]
    simp only [hx, hy]
    go_simp)
theorem op_eqI {z : Int} (x y : Operand) (t : TypeId) (ho : o.op = .binOp .eql 3 x y t) (hx : a.eval x = .int .i64 z) (hy : a.eval y = .int .i64 z) (hw : Region.wanted o (yielded ops a.tmps) = true) (hf : factTo T o.dst (.bool true) w) : relStep Tryd.prog ops T o a w :=
  relStep_val (.bool true) hw hf (by
    unfold execOp
    rw [ho]
    simp only [hx, hy]
    go_simp)
theorem op_neB {p q : Bool} (x y : Operand) (t : TypeId) (ho : o.op = .binOp .neq 4 x y t) (hx : a.eval x = .bool p) (hy : a.eval y = .bool q) (hw : Region.wanted o (yielded ops a.tmps) = true) (hf : factTo T o.dst (.bool (p != q)) w) : relStep Tryd.prog ops T o a w :=
  relStep_val (.bool (p != q)) hw hf (by
    unfold execOp
    rw [ho]
    simp only [hx, hy]
    cases p <;> cases q <;> go_simp)
theorem relStep_pickF {P : Program} (c x y : Operand) (ho : o.op = .pick c x y) (hc : a.eval c = .bool false) (hw : Region.wanted o (yielded ops a.tmps) = true) (hf : factTo T o.dst (a.eval y) w) : relStep P ops T o a w :=
  relStep_val (a.eval y) hw hf (by
    unfold execOp
    rw [ho]
    simp only [hc]
    generalize a.eval x = vx
    generalize a.eval y = vy
    rfl)
end
end Go.Proofs.YtopeahjdglkheaaDoor
