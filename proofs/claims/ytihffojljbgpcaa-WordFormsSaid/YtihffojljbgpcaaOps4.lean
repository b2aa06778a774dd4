/- Operations on strings, bools, integers and arrays in laws. -/
import Derived.Test.YtihffojljbgpcaaOps3
import Derived.Laws.BytesArg
import Derived.ChangeKeysEq
namespace Go.Proofs.Ytihffojljbgpcaa
open Go.RowKit

/-- Bytes as a string. -/
def sOf (bs : List Nat) : ByteArray := strOfNums (bs.map fun n : Nat => (n : Int))
theorem run_sOf {w : World} {v : Value} {bs : List Nat} (h : Byt w v bs) : (convert 27 9 v).run Try.prog w = .ok (.string (sOf bs)) w := by
  obtain ⟨A, c, rfl, hrd, _⟩ := h
  rcases Nat.eq_zero_or_pos bs.length with h0 | h0
  · have hb : bs = [] := List.eq_nil_of_length_eq_zero h0
    subst hb
    rcases A with _ | ad
    · exact run_convert_bytes_nil w _ _ Try.underlying27 Try.underlying5 _ _ _ Try.underlying9
    · obtain ⟨b, o, s⟩ := ad
      rw [run_convert_bytes_string w _ _ _ _ _ _ Try.underlying27 Try.underlying5 Try.underlying9]
      show Sem.run _ (Conv.bytesToString (.slice (some ⟨b, o, s⟩) 0 c)) w = _
      rw [run_bytesToString w _ 0 c [] (by simp [loadCells, loadCellsFrom])]
      rfl
  · obtain ⟨b, o, rfl, _, hc⟩ := hrd.at_ h0
    refine run_convert_bytes_arg w _ _ Try.underlying27 Try.underlying5 b o bs.length c (bs.map fun n : Nat => (n : Int)) (by simp) (fun i hi => ?_) _ Try.underlying9
    rw [hc i hi]
    simp [hi]
theorem eqIn33 (bs : List Nat) (hl : bs.length = 32) (w : World) : (Op.equalIn 10000 33 (BV bs) (BV bs)).run Try.prog w = .ok true w := by
  obtain ⟨i, hi⟩ : ∃ i, Try.prog.info? 5 = some i := Option.isSome_iff_exists.1 (by kernel_rfl)
  have hc : Try.prog.cellsOf 5 = 1 := by kernel_rfl
  unfold BV
  rw [run_equalIn_array w 9999 _ _ Try.underlying33 hi, hc]
  have hp : ∀ j, j < 32 → (part 5 (Cs8 bs) (j * 1)).run Try.prog w = .ok (.int .u8 (bs.getD j 0 : Nat)) w := fun j hj => by
    have ha : (isAgg 5).run Try.prog w = .ok false w := by kernel_rfl
    unfold part
    rw [Sem.run_bind, ha]
    simp [hj, hl]
  have he : ∀ x : Nat, (Op.equalIn 9999 5 (.int .u8 (x : Nat)) (.int .u8 (x : Nat))).run Try.prog w = .ok true w := fun x => by
    rw [run_equalIn_int w 9998 _ _ _ _ _ Try.underlying5]
    simp
  have key : ∀ is : List Nat, (∀ j ∈ is, j < 32) → (Op.eqItems 9999 5 1 (Cs8 bs) (Cs8 bs) is).run Try.prog w = .ok true w := by
    intro is
    induction is with
    | nil => intro _; simp [Op.eqItems]
    | cons j is ih =>
      intro h
      simp only [Op.eqItems, Sem.run_bind, hp j (h j (by simp)), he, Result.andThen_ok]
      exact ih fun k hk => h k (by simp [hk])
  exact key _ fun j hj => by simpa using hj

section
variable {ops : Array Oper} {T : Facts} {o : Oper} {a : Act} {w : World}
theorem op_str {bs : List Nat} (x : Operand) (ho : o.op = .convert 27 9 x) (hx : Byt w (a.eval x) bs) (hw : Region.wanted o (yielded ops a.tmps) = true) (hf : factTo T o.dst (.string (sOf bs)) w) : relStep Try.prog ops T o a w :=
  relStep_val (.string (sOf bs)) hw hf (by
    obtain ⟨v, hv⟩ : ∃ v, v = a.eval x := ⟨_, rfl⟩
    rw [← hv] at hx
    have h := run_sOf hx
    unfold execOp
    rw [ho]
    simp only [← hv]
    clear hx hv
    go_simp)
theorem op_eqS {s : ByteArray} (x y : Operand) (t : TypeId) (ho : o.op = .binOp .eql 9 x y t) (hx : a.eval x = .string s) (hy : a.eval y = .string s) (hw : Region.wanted o (yielded ops a.tmps) = true) (hf : factTo T o.dst (.bool true) w) : relStep Try.prog ops T o a w :=
  relStep_val (.bool true) hw hf (by
    unfold execOp
    rw [ho]
    simp only [hx, hy]
    go_simp)
theorem op_eqB {p : Bool} (x y : Operand) (t : TypeId) (ho : o.op = .binOp .eql 4 x y t) (hx : a.eval x = .bool p) (hy : a.eval y = .bool p) (hw : Region.wanted o (yielded ops a.tmps) = true) (hf : factTo T o.dst (.bool true) w) : relStep Try.prog ops T o a w :=
  relStep_val (.bool true) hw hf (by
    unfold execOp
    rw [ho]
    simp only [hx, hy]
    cases p <;> go_simp)
theorem op_eqU {z : Int} (x y : Operand) (t : TypeId) (ho : o.op = .binOp .eql 22 x y t) (hx : a.eval x = .int .u64 z) (hy : a.eval y = .int .u64 z) (hw : Region.wanted o (yielded ops a.tmps) = true) (hf : factTo T o.dst (.bool true) w) : relStep Try.prog ops T o a w :=
  relStep_val (.bool true) hw hf (by
    unfold execOp
    rw [ho]
    simp only [hx, hy]
    go_simp)
theorem op_eqI {z : Int} (x y : Operand) (t : TypeId) (ho : o.op = .binOp .eql 3 x y t) (hx : a.eval x = .int .i64 z) (hy : a.eval y = .int .i64 z) (hw : Region.wanted o (yielded ops a.tmps) = true) (hf : factTo T o.dst (.bool true) w) : relStep Try.prog ops T o a w :=
  relStep_val (.bool true) hw hf (by
    unfold execOp
    rw [ho]
    simp only [hx, hy]
    go_simp)
theorem op_eq33 {bs : List Nat} (hl : bs.length = 32) (x y : Operand) (t : TypeId) (ho : o.op = .binOp .eql 33 x y t) (hx : a.eval x = BV bs) (hy : a.eval y = BV bs) (hw : Region.wanted o (yielded ops a.tmps) = true) (hf : factTo T o.dst (.bool true) w) : relStep Try.prog ops T o a w :=
  relStep_val (.bool true) hw hf (by
    have q := eqIn33 bs hl
    unfold BV at hx hy q
    obtain ⟨cs, hcs⟩ : ∃ cs, cs = Cs8 bs := ⟨_, rfl⟩
    rw [← hcs] at hx hy
    simp only [← hcs] at q
    clear hcs hl
    unfold execOp
    rw [ho]
    simp only [hx, hy]
    go_simp)
theorem op_indexW {g : Nat} (x : Operand) (ho : o.op = .indexAddr 24 x (.const (.int .i64 0))) (hx : a.eval x = .pointer (some ⟨g, 0, none⟩)) (hw : Region.wanted o (yielded ops a.tmps) = true) (hf : factTo T o.dst (.pointer (some ⟨g, 0, none⟩)) w) : relStep Try.prog ops T o a w :=
  relStep_val (.pointer (some ⟨g, 0, none⟩)) hw hf (by
    unfold execOp
    rw [ho]
    simp only [hx]
    go_simp)
theorem op_load64 {g m : Nat} {z : Int} (x : Operand) (ho : o.op = .load 22 x) (hx : a.eval x = .pointer (some ⟨g, m, none⟩)) (hc : w.cell? ⟨g, m, none⟩ = some (.int .u64 z)) (hw : Region.wanted o (yielded ops a.tmps) = true) (hf : factTo T o.dst (.int .u64 z) w) : relStep Try.prog ops T o a w :=
  relStep_val (.int .u64 z) hw hf (by
    unfold execOp
    rw [ho]
    simp only [hx]
    go_simp)
end
end Go.Proofs.Ytihffojljbgpcaa
