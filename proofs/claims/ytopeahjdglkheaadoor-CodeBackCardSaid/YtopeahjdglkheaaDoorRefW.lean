/- The contract of package quarryref01's W: the word of a number modulo 2^256. -/
import Derived.Test.YtopeahjdglkheaaDoorRefN
namespace Go.Proofs.YtopeahjdglkheaaDoor
open Go.RowKit

/-- Digits of 32 bits, i of them gathered to limbs of 64. -/
def WInv (xs : List Nat) (i : Nat) (zs : List Nat) : Prop := dv 18446744073709551616 zs = dv 4294967296 (xs.take i)
theorem pow32b (i : Nat) : (4294967296 : Nat) ^ i = 18446744073709551616 ^ (i / 2) * 2 ^ (32 * (i % 2)) := by
  rw [show (18446744073709551616 : Nat) = 2 ^ 64 by decide, pow32, ← Nat.pow_mul, ← Nat.pow_add]
  congr 1
  omega
theorem w_carry {xs zs : List Nat} {i : Nat} (h : WInv xs i zs) (hx : Ds 4294967296 xs) (hz : Ds 18446744073709551616 zs) (hi : i ≤ xs.length) : zs.getD (i / 2) 0 < 2 ^ (32 * (i % 2)) := by
  rw [← dv_digit hz (by omega)]
  refine Nat.lt_of_le_of_lt (Nat.mod_le _ _) (Nat.div_lt_of_lt_mul ?_)
  rw [h, ← pow32b]
  exact dv_take_lt hx i hi
theorem w_step {xs zs : List Nat} {i : Nat} (h : WInv xs i zs) (hi : i < xs.length) (hz : i / 2 < zs.length) :
    WInv xs (i + 1) (zs.set (i / 2) (zs.getD (i / 2) 0 + xs.getD i 0 * 2 ^ (32 * (i % 2)))) := by
  unfold WInv at *
  have e := dv_set (B := 18446744073709551616) zs (i / 2) (zs.getD (i / 2) 0 + xs.getD i 0 * 2 ^ (32 * (i % 2))) hz
  rw [dv_take_succ xs i hi, ← h, pow32b]
  rw [Nat.mul_add] at e
  have e2 : 18446744073709551616 ^ (i / 2) * (xs.getD i 0 * 2 ^ (32 * (i % 2))) = 18446744073709551616 ^ (i / 2) * 2 ^ (32 * (i % 2)) * xs.getD i 0 := by
    rw [Nat.mul_comm (xs.getD i 0), Nat.mul_assoc]
  omega
theorem w_lo {x m z : Nat} (hx : x < 4294967296) (hm : m < 2) (hz : z < 2 ^ (32 * m)) : x * 2 ^ (32 * m) < 18446744073709551616 ∧ z + x * 2 ^ (32 * m) < 18446744073709551616 ∧
    bits .or .u64 (z : Int) ((x * 2 ^ (32 * m) : Nat) : Int) = ((z + x * 2 ^ (32 * m) : Nat) : Int) := by
  have h2 : m = 0 ∨ m = 1 := by omega
  have h1 : x * 2 ^ (32 * m) < 18446744073709551616 ∧ z + x * 2 ^ (32 * m) < 18446744073709551616 := by
    rcases h2 with h | h <;> subst h <;> simp at * <;> omega
  refine ⟨h1.1, h1.2, ?_⟩
  rw [u64_or_nat z _ (by omega) h1.1, Nat.or_comm, nat_join (32 * m) _ z (Nat.mul_mod_left _ _) hz, Nat.add_comm]
theorem w_end {xs zs : List Nat} {n i : Nat} (h : WInv xs i zs) (hx : Can 4294967296 xs n) (hi : i = 8 ∨ i = xs.length) (hi8 : i ≤ 8) (hil : i ≤ xs.length) : vl zs = n % 115792089237316195423570985008687907853269984665640564039457584007913129639936 := by
  rw [vl_dv, h, ← hx.2.1]
  have e := dv_split (B := 4294967296) xs i hil
  have hl := dv_take_lt hx.1 i hil
  have h8 : (4294967296 : Nat) ^ i ≤ 4294967296 ^ 8 := Nat.pow_le_pow_right (by omega) hi8
  have h256 : (4294967296 : Nat) ^ 8 = 115792089237316195423570985008687907853269984665640564039457584007913129639936 := by decide
  rw [h256] at h8
  rcases hi with rfl | rfl
  · rw [e, h256, Nat.add_mul_mod_self_left, Nat.mod_eq_of_lt (by rw [h256] at hl; exact hl)]
  · rw [List.take_length] at hl ⊢
    exact (Nat.mod_eq_of_lt (Nat.lt_of_lt_of_le hl h8)).symm

end Go.Proofs.YtopeahjdglkheaaDoor
