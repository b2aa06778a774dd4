/- The frame of the laws over quarrylaw02.Three. -/
import Derived.Test.YtakojlgoelbjmaaNKit
import Derived.Test.YtakojlgoelbjmaaOpenB
import Derived.Deep.Strs
import Derived.Lib.SmallJoins
import Derived.OpenShut
namespace Go.Proofs.Ytakojlgoelbjmaa
open Go.ChangeShapes Go.WideShapes Go.ChangeAt Go.RowKit Go.Deep

/-- Three slices of bytes and two ints, boxed. -/
structure Box5 (w : World) (g : Nat) (v0 v1 v2 v3 v4 : Value) : Prop where
  c0 : w.cell? ⟨g, 0, none⟩ = some v0
  c1 : w.cell? ⟨g, 1, none⟩ = some v1
  c2 : w.cell? ⟨g, 2, none⟩ = some v2
  c3 : w.cell? ⟨g, 3, none⟩ = some v3
  c4 : w.cell? ⟨g, 4, none⟩ = some v4
  lt : g < w.heap.size
theorem Box5.below {w w' : World} {g : Nat} {v0 v1 v2 v3 v4 : Value} (h : Box5 w g v0 v1 v2 v3 v4) (hb : Below w.heap.size w w') : Box5 w' g v0 v1 v2 v3 v4 := by
  have k := fun o => hb.cell (p := ⟨g, o, none⟩) h.lt
  exact ⟨(k 0).trans h.c0, (k 1).trans h.c1, (k 2).trans h.c2, (k 3).trans h.c3, (k 4).trans h.c4, Nat.lt_of_lt_of_le h.lt hb.size⟩
theorem Box5.new (w : World) (v0 v1 v2 v3 v4 : Value) (t : TypeId) : Box5 (w.alloc (.cells #[v0, v1, v2, v3, v4] t)) w.heap.size v0 v1 v2 v3 v4 := by
  have h := heap_alloc_new w (.cells #[v0, v1, v2, v3, v4] t)
  refine ⟨?_, ?_, ?_, ?_, ?_, by simp⟩ <;> (rw [cell_of_row _ _ _ _ t (0, 0) h]; rfl)

section
variable {ops : Array Oper} {T : Facts} {o : Oper} {a : Act} {w : World}
theorem op_fieldN {g k : Nat} (x : Operand) (ho : o.op = .fieldAddr 24 x k) (hk : k < 5) (hx : a.eval x = .pointer (some ⟨g, 0, none⟩)) (hw : Region.wanted o (yielded ops a.tmps) = true) (hf : factTo T o.dst (.pointer (some ⟨g, k, none⟩)) w) : relStep Try.prog ops T o a w :=
  relStep_val (.pointer (some ⟨g, k, none⟩)) hw hf (by
    unfold execOp
    rw [ho]
    simp only [hx]
    rcases (show k = 0 ∨ k = 1 ∨ k = 2 ∨ k = 3 ∨ k = 4 by omega) with rfl | rfl | rfl | rfl | rfl <;> go_simp)
theorem op_load1 {g k : Nat} {v : Value} {t : TypeId} (x : Operand) (ho : o.op = .load t x) (ht : ∀ w, (isAgg t).run Try.prog w = .ok false w) (hx : a.eval x = .pointer (some ⟨g, k, none⟩)) (hc : w.cell? ⟨g, k, none⟩ = some v) (hw : Region.wanted o (yielded ops a.tmps) = true) (hf : factTo T o.dst v w) : relStep Try.prog ops T o a w :=
  relStep_val v hw hf (by
    unfold execOp
    rw [ho]
    simp only [hx]
    have := ht w
    go_simp)
end

theorem trod_struct5 {P : Program} {H : Type} {enc : TypeId × Value → H} {w : World} {base : Nat} {spare : Nat → Bool} {held : Bool} {t : TypeId} {f0 f1 f2 f3 f4 : Field} {fuel : Nat} {cs : List Value} {x : DataW H × List MemPlace} (ht : P.underlying t = some (.struct #[f0, f1, f2, f3, f4])) (h : DataW.trod enc P w base spare held fuel t cs = some x) :
    ∃ y0 y1 y2 y3 y4 n, x = (.agg [y0.1, y1.1, y2.1, y3.1, y4.1], y0.2 ++ (y1.2 ++ (y2.2 ++ (y3.2 ++ y4.2)))) ∧ cs.length = P.cellsOf t ∧ DataW.trod enc P w base spare held n f0.type ((cs.drop f0.offset).take (P.cellsOf f0.type)) = some y0 ∧
      DataW.trod enc P w base spare held n f1.type ((cs.drop f1.offset).take (P.cellsOf f1.type)) = some y1 ∧ DataW.trod enc P w base spare held n f2.type ((cs.drop f2.offset).take (P.cellsOf f2.type)) = some y2 ∧
      DataW.trod enc P w base spare held n f3.type ((cs.drop f3.offset).take (P.cellsOf f3.type)) = some y3 ∧ DataW.trod enc P w base spare held n f4.type ((cs.drop f4.offset).take (P.cellsOf f4.type)) = some y4 := by
  obtain ⟨xs, n, _, rfl, hl, hlen, hf⟩ := DataW.trod_struct ht h
  match xs, hlen with
  | [y0, y1, y2, y3, y4], _ => exact ⟨y0, y1, y2, y3, y4, n, by simp, hl, by simpa using hf 0 f0 rfl, by simpa using hf 1 f1 rfl, by simpa using hf 2 f2 rfl, by simpa using hf 3 f3 rfl, by simpa using hf 4 f4 rfl⟩
theorem lt_add256 {a b n : Nat} (ha : a < 256 ^ n) (hb : b < 256 ^ n) : a + b < 256 ^ (n + 1) := by rw [Nat.pow_succ]; omega
theorem lt_mul256 {a b n m : Nat} (ha : a < 256 ^ n) (hb : b < 256 ^ m) : a * b < 256 ^ (n + m) := by rw [Nat.pow_add]; exact Nat.mul_lt_mul'' ha hb
theorem lt_up256 {a n m : Nat} (h : a < 256 ^ n) (hm : n ≤ m) : a < 256 ^ m := Nat.lt_of_lt_of_le h (Nat.pow_le_pow_right (by omega) hm)
theorem nb_le256 {n m k : Nat} (h : n < 256 ^ k) (hk : k ≤ m) : (nb n).length ≤ m := Nat.le_trans (nb_len h) hk
theorem ordI_neg {a b : Nat} (h : a < b) : ∀ w, (binOp .lss 3 (.int .i64 (ordI a b)) (.int .i64 0)).run Try.prog w = .ok (.bool true) w := fun w => by
  have e : ordI a b = -1 := by unfold ordI; rw [if_pos h]
  rw [e]
  go_simp
theorem ordI_pos {a b : Nat} (h : b ≤ a) : ∀ w, (binOp .lss 3 (.int .i64 (ordI a b)) (.int .i64 0)).run Try.prog w = .ok (.bool false) w := fun w => by
  have e : ¬ (ordI a b < 0) := by unfold ordI; rw [if_neg (by omega)]; split <;> omega
  go_simp
theorem eql_pos {k : Nat} (h : 0 < k) : ∀ w, (binOp .eql 3 (.int .i64 ((k : Nat) : Int)) (.int .i64 0)).run Try.prog w = .ok (.bool false) w := fun w => by
  have hb : ((k : Int) == 0) = false := beq_eq_false_iff_ne.2 (by omega)
  go_simp
theorem nv_pos {l : List Nat} {n : Nat} (h : nv l = n) (h0 : 0 < n) : 0 < l.length := by
  rcases Nat.eq_zero_or_pos l.length with h1 | h1
  · rw [List.eq_nil_of_length_eq_zero h1] at h
    exact absurd h (by show ¬ (0 = n); omega)
  · exact h1
theorem lawOwnN : ownKnob Try.prog.godebug = none := by kernel_rfl
theorem lawCellsN : Try.prog.cellsOf 24 = 5 := by kernel_rfl
theorem lawCells27 : Try.prog.cellsOf 22 = 1 := by kernel_rfl
theorem lawCellsI : Try.prog.cellsOf 3 = 1 := by kernel_rfl
theorem trod_slice_cell {H : Type} {enc : TypeId × Value → H} {w : World} {c : Value} {n : Nat} {y : DataW H × List MemPlace} (h : DataW.trod enc Try.prog w 0 (fun _ => true) true n 22 [c] = some y) : ∃ A xs cap, c = .slice A xs.length cap ∧ Rd .u8 w A cap xs ∧ Ds 256 xs := by
  rcases DataW.trod_slice Try.underlying22 h with ⟨hc, _⟩ | ⟨a, len, cap, _, _, _, _, hc, _⟩
  · obtain rfl : c = .slice none 0 0 := by simpa using hc
    exact ⟨none, [], 0, rfl, Rd.nil _, Ds.nil⟩
  · obtain rfl : c = .slice (some a) len cap := by simpa using hc
    obtain ⟨bs, hl, h1, h2⟩ := open_rd (A := some a) (len := len) (cap := cap) (d := y.1) (p := y.2) ⟨n, h⟩
    exact ⟨some a, bs, cap, by rw [hl], h1, h2⟩
set_option maxRecDepth 100000 in
/-- Three slices and two ints that came in. -/
theorem lawOpenN {H : Type} {enc : TypeId × Value → H} {w : World} {base : Nat} {v : Value} {d : DataW H} {p : List MemPlace}
    (hv : Value.okWide Try.prog w .any base 24 v) (h : DataW.Trod enc Try.prog w 0 (fun _ => true) true 24 v d p) :
    ∃ A xs ca B ys cb M zs cm i wide, v = .agg #[.slice A xs.length ca, .slice B ys.length cb, .slice M zs.length cm, .int .i64 i, .int .i64 wide] ∧ Rd .u8 w A ca xs ∧ Ds 256 xs ∧ Rd .u8 w B cb ys ∧ Ds 256 ys ∧ Rd .u8 w M cm zs ∧ Ds 256 zs ∧ (Lit.int .i64 i).wf = true ∧ (Lit.int .i64 wide).wf = true := by
  obtain ⟨cs, rfl, hsz, _⟩ : ∃ cs, v = .agg cs ∧ cs.size = Try.prog.cellsOf 24 ∧ Row.okWide Try.prog w .any base 24 cs := by
    simpa [Value.okWide, Try.underlying24] using hv
  rw [lawCellsN] at hsz
  obtain ⟨l⟩ := cs
  obtain ⟨c0, c1, c2, c3, c4, rfl⟩ : ∃ c0 c1 c2 c3 c4, l = [c0, c1, c2, c3, c4] := by
    match l, hsz with
    | [c0, c1, c2, c3, c4], _ => exact ⟨c0, c1, c2, c3, c4, rfl⟩
  obtain ⟨fuel, hf⟩ := h
  obtain ⟨y0, y1, y2, y3, y4, m, _, _, h0, h1, h2, h3, h4⟩ := trod_struct5 Try.underlying24 hf
  simp only [lawCells27, lawCellsI, Value.cells, List.drop_zero, List.drop_succ_cons, List.take_succ_cons, List.take_zero] at h0 h1 h2 h3 h4
  obtain ⟨A, xs, ca, rfl, a1, a2⟩ := trod_slice_cell h0
  obtain ⟨B, ys, cb, rfl, b1, b2⟩ := trod_slice_cell h1
  obtain ⟨M, zs, cm, rfl, m1, m2⟩ := trod_slice_cell h2
  obtain ⟨i, ei, _, wi⟩ := DataW.trod_int Try.underlying3 h3
  obtain ⟨j, ej, _, wj⟩ := DataW.trod_int Try.underlying3 h4
  simp at ei ej
  subst ei ej
  exact ⟨A, xs, ca, B, ys, cb, M, zs, cm, i, j, rfl, a1, a2, b1, b2, m1, m2, wi, wj⟩
set_option maxRecDepth 100000 in
theorem openU {H : Type} {enc : TypeId × Value → H} {w : World} {base : Nat} {v : Value} {d : DataW H} {p : List MemPlace} (hv : Value.okWide Try.prog w .any base 68 v) (h : DataW.Trod enc Try.prog w 0 (fun _ => true) true 68 v d p) :
    ∃ n : Nat, v = .int .u64 (n : Nat) ∧ n < 18446744073709551616 := by
  obtain ⟨x, rfl, _, _, wy⟩ := open_int Try.underlying68 hv h
  obtain ⟨h1, h2⟩ := bounds_u64 wy
  exact ⟨x.toNat, by rw [Int.toNat_of_nonneg h1], by omega⟩
end Go.Proofs.Ytakojlgoelbjmaa
