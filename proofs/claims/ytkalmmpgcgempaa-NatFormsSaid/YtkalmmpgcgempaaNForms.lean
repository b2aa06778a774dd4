/- Operations and contracts for NatForms. -/
import Derived.Test.YtkalmmpgcgempaaNFrame
namespace Go.Proofs.Ytkalmmpgcgempaa
open Go.RowKit

section
variable {ops : Array Oper} {T : Facts} {o : Oper} {a : Act} {w : World}
theorem op_arith {z c r : Int} (p : BinOp) (x y : Operand) (t : TypeId) (ho : o.op = .binOp p 3 x y t) (hx : a.eval x = .int .i64 z) (hy : a.eval y = .int .i64 c) (hr : ∀ w, (binOp p 3 (.int .i64 z) (.int .i64 c)).run Try.prog w = .ok (.int .i64 r) w)
    (hw : Region.wanted o (yielded ops a.tmps) = true) (hf : factTo T o.dst (.int .i64 r) w) : relStep Try.prog ops T o a w :=
  relStep_val (.int .i64 r) hw hf (by
    unfold execOp
    rw [ho]
    simp only [hx, hy]
    have := hr w
    go_simp)
theorem op_conv32 {m : Nat} (x : Operand) (ho : o.op = .convert 56 3 x) (hm : m < 2) (hx : a.eval x = .int .u32 (m : Nat)) (hw : Region.wanted o (yielded ops a.tmps) = true) (hf : factTo T o.dst (.int .i64 (m : Nat)) w) : relStep Try.prog ops T o a w :=
  relStep_val (.int .i64 (m : Nat)) hw hf (by
    unfold execOp
    rw [ho]
    simp only [hx]
    have e0 : IntKind.i64.wrap 0 = 0 := rfl
    have e1 : IntKind.i64.wrap 1 = 1 := rfl
    rcases (show m = 0 ∨ m = 1 by omega) with rfl | rfl <;> go_simp)
end

/-- n bytes that tell a. -/
noncomputable def fillb (a n : Nat) : List Nat := by
  classical
  exact if h : ∃ l : List Nat, Ds 256 l ∧ l.length = n ∧ dv 256 l.reverse = a then Classical.choose h else []
theorem fillb_eq {l : List Nat} {a n : Nat} (h : Ds 256 l) (hl : l.length = n) (hv : dv 256 l.reverse = a) : l = fillb a n := by
  have hex : ∃ l : List Nat, Ds 256 l ∧ l.length = n ∧ dv 256 l.reverse = a := ⟨l, h, hl, hv⟩
  unfold fillb
  rw [dif_pos hex]
  obtain ⟨k1, k2, k3⟩ := Classical.choose_spec hex
  exact List.reverse_inj.1 (dv_inj h.reverse k1.reverse (by rw [List.length_reverse, List.length_reverse, hl, k2]) (hv.trans k3.symm))
theorem sd_fits {xs : List Nat} (h : Ds 256 xs) (n : Nat) : (sd xs).length ≤ n ↔ nv xs < 256 ^ n := by
  have c := sd_can h
  have hr : (sd xs).reverse.length = (sd xs).length := List.length_reverse
  constructor
  · intro hl
    have := c.lt
    rw [hr] at this
    exact Nat.lt_of_lt_of_le this (Nat.pow_le_pow_right (by omega) hl)
  · intro hlt
    have := c.len_le (by decide) hlt
    rwa [hr] at this
theorem blen_fits {a n : Nat} : blen a ≤ 8 * n ↔ a < 256 ^ n := by
  have e : (256 : Nat) ^ n = 2 ^ (8 * n) := by rw [show (256 : Nat) = 2 ^ 8 by decide, ← Nat.pow_mul]
  rw [e]
  constructor
  · intro h
    exact Nat.lt_of_lt_of_le (blen_lt a) (Nat.pow_le_pow_right (by omega) h)
  · intro h
    rcases Nat.eq_zero_or_pos a with h0 | h0
    · rw [h0]; exact Nat.zero_le _
    · have h1 := blen_ge h0
      have h2 := (Nat.pow_lt_pow_iff_right (by omega : 1 < 2)).1 (Nat.lt_of_le_of_lt h1 h)
      omega
theorem fill_v {u : Value} {xs : List Nat} (w : World) (h : Byt w u xs) (hl : xs.length ≤ 2097152) (n : Nat) (hf : nv xs < 256 ^ n) (hn : n ≤ 65536) : Calls Try.prog 77 #[u, .int .i64 (n : Nat)] w (RetR (fun w' v => OkB w' v (fillb (nv xs) n)) w) := by
  obtain ⟨A, c, rfl, h1, h2⟩ := h
  exact (fill_n w h1 h2 (by omega) n ((sd_fits h2 n).2 hf) hn).mono fun _ _ ⟨v, he, ⟨l, q1, q2, q3⟩, hb⟩ => ⟨_, he, ⟨v, rfl, by show Byt _ v (fillb (dv 256 xs.reverse) n); rw [← fillb_eq q1.ds q2 q3]; exact q1⟩, hb⟩
theorem fillno_v {u : Value} {xs : List Nat} (w : World) (h : Byt w u xs) (hl : xs.length ≤ 2097152) (wide : Int) (hf : wide < 0 ∨ 65536 < wide ∨ ∃ n : Nat, wide = n ∧ ¬ nv xs < 256 ^ n) : Calls Try.prog 77 #[u, .int .i64 wide] w (RetR (fun _ v => v = .tuple #[.slice none 0 0, .bool false]) w) := by
  obtain ⟨A, c, rfl, h1, h2⟩ := h
  refine (fill_no w h1 h2 (by omega) wide ?_).mono fun _ _ ⟨he, hw⟩ => ⟨_, he, rfl, by rw [hw]; exact Below.refl _ _⟩
  rcases hf with h | h | ⟨n, rfl, h⟩
  · left; omega
  · right; exact h
  · left
    have := mt (sd_fits h2 n).1 h
    omega
theorem fill2_v {u : Value} {a L : Nat} (w : World) (h : Num w u a L) (hL : L ≤ 1048576) (n : Nat) (hn : n ≤ 65536) (ha : a < 256 ^ n) : Calls Try.prog 79 #[u, .int .i64 (n : Nat)] w (RetR (fun w' v => Byt w' v (fillb a n)) w) :=
  (rfill_n w h hL n (by omega) ha).mono fun _ _ ⟨v, he, ⟨l, q1, q2, q3⟩, hb⟩ => ⟨v, he, by rw [← fillb_eq q1.ds q2 q3]; exact q1, hb⟩
theorem bitn_v {u : Value} {xs : List Nat} (w : World) (h : Byt w u xs) (i : Int) (hi : i < 0) : Calls Try.prog 85 #[u, .int .i64 i] w (RetR (fun _ v => v = .int .i64 0) w) := by
  obtain ⟨A, c, rfl, h1, h2⟩ := h
  exact (bit_neg w i hi).mono fun _ _ ⟨he, hw⟩ => ⟨_, he, rfl, by rw [hw]; exact Below.refl _ _⟩
theorem bit_v {u : Value} {xs : List Nat} (w : World) (h : Byt w u xs) (hl : xs.length ≤ 2097152) (j : Nat) (hj : j ≤ 9223372036854775807) : Calls Try.prog 85 #[u, .int .i64 (j : Nat)] w (RetR (fun _ v => v = .int .i64 (nv xs / 2 ^ j % 2 : Nat)) w) := by
  obtain ⟨A, c, rfl, h1, h2⟩ := h
  exact (bit_n w h1 h2 (by omega) j hj).mono fun _ _ ⟨he, hw⟩ => ⟨_, he, rfl, by rw [hw]; exact Below.refl _ _⟩
theorem bitf_v {u : Value} {xs : List Nat} (w : World) (h : Byt w u xs) (hl : xs.length ≤ 600) (j : Nat) (hj : j ≤ 9223372036854775807) (h8 : 4808 ≤ j) : Calls Try.prog 85 #[u, .int .i64 (j : Nat)] w (RetR (fun _ v => v = .int .i64 0) w) := by
  have hz : nv xs / 2 ^ j % 2 = 0 := by
    rw [Nat.div_eq_of_lt]
    have h1 := dv_lt xs.reverse h.ds.reverse
    rw [List.length_reverse] at h1
    refine Nat.lt_of_lt_of_le h1 ?_
    rw [show (256 : Nat) = 2 ^ 8 by decide, ← Nat.pow_mul]
    exact Nat.pow_le_pow_right (by omega) (by omega)
  have k := bit_v w h (by omega) j hj
  rw [hz] at k
  exact k
end Go.Proofs.Ytkalmmpgcgempaa
