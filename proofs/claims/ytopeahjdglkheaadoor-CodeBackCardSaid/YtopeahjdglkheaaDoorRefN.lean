/- The contracts of package quarryref01's N, W and top: a word as a number, and back. -/
import Derived.Test.YtopeahjdglkheaaDoorRFrom
import Derived.Test.YtopeahjdglkheaaDoorRShl
import Derived.Test.YtopeahjdglkheaaDoorWordMath
import Derived.BigRegion
namespace Go.Proofs.YtopeahjdglkheaaDoor
open Go.RowKit

theorem vl_dv (xs : List Nat) : vl xs = dv 18446744073709551616 xs := by
  induction xs with
  | nil => rfl
  | cons x xs ih => simp only [vl, dv, ih]
/-- A byte of a word, by its limbs. -/
theorem byte_of_limb {xs : List Nat} (h : Lims xs) (i k : Nat) (hk : k < 8) : xs.getD i 0 / 2 ^ (8 * k) % 256 = vl xs / 256 ^ (8 * i + k) % 256 := by
  rw [vl_dv, ← dv_digit (B := 18446744073709551616) h (by omega) i]
  have e : (256 : Nat) ^ (8 * i + k) = 18446744073709551616 ^ i * 2 ^ (8 * k) := by
    rw [show (256 : Nat) = 2 ^ 8 by decide, show (18446744073709551616 : Nat) = 2 ^ 64 by decide, ← Nat.pow_mul, ← Nat.pow_mul, ← Nat.pow_add]
    congr 1
    omega
  rw [e, ← Nat.div_div_eq_div_mul]
  generalize dv 18446744073709551616 xs / 18446744073709551616 ^ i = q
  have h8 : k = 0 ∨ k = 1 ∨ k = 2 ∨ k = 3 ∨ k = 4 ∨ k = 5 ∨ k = 6 ∨ k = 7 := by omega
  rcases h8 with h | h | h | h | h | h | h | h <;> subst h <;> simp <;> omega

/-- The bytes that are gathered when t of them are still to come. -/
def Gath (a t : Nat) (bs : List Nat) : Prop := Ds 256 bs ∧ bs.length + t = 32 ∧ dv 256 bs.reverse = a / 256 ^ t
theorem gath_step {a t b : Nat} {bs : List Nat} (h : Gath a (t + 1) bs) (hb : b = a / 256 ^ t % 256) : Gath a t (bs ++ [b]) := by
  obtain ⟨h1, h2, h3⟩ := h
  refine ⟨h1.append (Ds.mk (by omega) Ds.nil), by simp; omega, ?_⟩
  rw [List.reverse_append, div_pow_succ, ← hb, ← h3]
  rfl

end Go.Proofs.YtopeahjdglkheaaDoor
