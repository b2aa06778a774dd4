/- The contracts of package quarryref02's Bit and Len. -/
import Derived.Test.YtopeahjdglkheaaDoorRTrim
import Derived.Laws.BitsAllLaws
namespace Go.Proofs.YtopeahjdglkheaaDoor
open Go.RowKit

/-- A bit of a number, by its digits of 32 bits. -/
theorem bit_of_digit {xs : List Nat} (h : Ds 4294967296 xs) (i : Nat) : xs.getD (i / 32) 0 / 2 ^ (i % 32) % 2 = dv 4294967296 xs / 2 ^ i % 2 := by
  rw [← dv_digit h (by omega) (i / 32)]
  have e : (2 : Nat) ^ i = 4294967296 ^ (i / 32) * 2 ^ (i % 32) := by
    rw [show (4294967296 : Nat) = 2 ^ 32 by decide, ← Nat.pow_mul, ← Nat.pow_add]
    congr 1
    omega
  rw [e, ← Nat.div_div_eq_div_mul]
  generalize dv 4294967296 xs / 4294967296 ^ (i / 32) = q
  have hr : i % 32 < 32 := Nat.mod_lt _ (by omega)
  generalize i % 32 = r at *
  have e2 : q = q % 4294967296 + 2 ^ r * (2 * (2 ^ (31 - r) * (q / 4294967296))) := by
    have := Nat.mod_add_div q 4294967296
    have e3 : (4294967296 : Nat) = 2 ^ r * (2 * 2 ^ (31 - r)) := by
      rw [← Nat.pow_succ', ← Nat.pow_add, show r + (31 - r).succ = 32 by omega]
    have e4 : 2 ^ r * (2 * (2 ^ (31 - r) * (q / 4294967296))) = 2 ^ r * (2 * 2 ^ (31 - r)) * (q / 4294967296) := by
      rw [Nat.mul_assoc, Nat.mul_assoc]
    rw [e4, ← e3]; exact this.symm
  conv => rhs; rw [e2]
  rw [Nat.add_mul_div_left _ _ (Nat.two_pow_pos r)]
  omega

/-- How many bits a number has. -/
def blen (n : Nat) : Nat := if n = 0 then 0 else Nat.log2 n + 1
theorem blen_lt (n : Nat) : n < 2 ^ blen n := by
  unfold blen
  by_cases h : n = 0
  · rw [if_pos h]; omega
  · rw [if_neg h]; exact Nat.lt_log2_self
theorem blen_ge {n : Nat} (h : 0 < n) : 2 ^ (blen n - 1) ≤ n := by
  unfold blen
  rw [if_neg (by omega), Nat.add_sub_cancel]
  exact Nat.log2_self_le (by omega)
theorem blen_eq {n l : Nat} (h1 : n < 2 ^ l) (h2 : 0 < l → 2 ^ (l - 1) ≤ n) : l = blen n := by
  rcases Nat.eq_zero_or_pos n with rfl | hp
  · rcases Nat.eq_zero_or_pos l with rfl | hl
    · rfl
    · have := h2 hl
      have := Nat.two_pow_pos (l - 1)
      omega
  · have a1 := blen_lt n
    have a2 := blen_ge hp
    have hl : 0 < l := by
      rcases Nat.eq_zero_or_pos l with rfl | hl
      · simp at h1; omega
      · exact hl
    have h3 := h2 hl
    rcases Nat.lt_trichotomy l (blen n) with h | h | h
    · have : (2 : Nat) ^ l ≤ 2 ^ (blen n - 1) := Nat.pow_le_pow_right (by omega) (by omega)
      omega
    · exact h
    · have : (2 : Nat) ^ blen n ≤ 2 ^ (l - 1) := Nat.pow_le_pow_right (by omega) (by omega)
      omega

end Go.Proofs.YtopeahjdglkheaaDoor
