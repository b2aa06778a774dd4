/- The contract of package word's From: the number whose bytes these are, the highest first. -/
import Derived.Test.YtiflfcdegpmhnaaArr32
import Derived.Test.YtiflfcdegpmhnaaRefN
import Derived.Deep.DeepCutAuto
namespace Go.Proofs.Ytiflfcdegpmhnaa
open Go.RowKit

/-- One byte more: how the limb goes, and the whole. -/
theorem wfrom_step {cs : List Nat} {D place v : Nat} (hl : cs.length = 4) (hc : Lims cs) (h : vl cs = D * 256 ^ (place + 1)) (hp : place < 32) (hv : v < 256) :
    bits .or .u64 ((cs.getD (place / 8) 0 : Nat) : Int) ((v * 2 ^ (8 * (place % 8)) : Nat) : Int) = ((cs.getD (place / 8) 0 + v * 2 ^ (8 * (place % 8)) : Nat) : Int) ∧
    v * 2 ^ (8 * (place % 8)) < 18446744073709551616 ∧ cs.getD (place / 8) 0 + v * 2 ^ (8 * (place % 8)) < 18446744073709551616 ∧
    vl (cs.set (place / 8) (cs.getD (place / 8) 0 + v * 2 ^ (8 * (place % 8)))) = (256 * D + v) * 256 ^ place := by
  obtain ⟨q, hq⟩ : ∃ q, q = place / 8 := ⟨_, rfl⟩
  obtain ⟨r, hr⟩ : ∃ r, r = place % 8 := ⟨_, rfl⟩
  rw [← hq, ← hr]
  have hpl : place = 8 * q + r := by omega
  have hr7 : r ≤ 7 := by omega
  have p8 : ∀ n, (256 : Nat) ^ n = 2 ^ (8 * n) := fun n => by rw [show (256 : Nat) = 2 ^ 8 by decide, ← Nat.pow_mul]
  have hB : (18446744073709551616 : Nat) = 2 ^ (8 * (r + 1)) * 2 ^ (8 * (7 - r)) := by
    rw [← Nat.pow_add, show 8 * (r + 1) + 8 * (7 - r) = 64 by omega]
  have hBq : (18446744073709551616 : Nat) ^ q = 2 ^ (64 * q) := by rw [show (18446744073709551616 : Nat) = 2 ^ 64 by decide, ← Nat.pow_mul]
  have hx : cs.getD q 0 = 2 ^ (8 * (r + 1)) * (D % 2 ^ (8 * (7 - r))) := by
    have hd := dv_digit (B := 18446744073709551616) hc (by omega) q
    rw [← vl_dv, h, hBq, p8, show 8 * (place + 1) = 8 * (r + 1) + 64 * q by omega, Nat.pow_add, ← Nat.mul_assoc, Nat.mul_div_cancel _ (Nat.two_pow_pos _)] at hd
    rw [← hd]
    conv => lhs; rw [hB, Nat.mul_comm D, Nat.mul_mod_mul_left]
  have hv2 : v * 2 ^ (8 * r) < 2 ^ (8 * (r + 1)) := by
    rw [show 8 * (r + 1) = 8 + 8 * r by omega, Nat.pow_add]
    exact Nat.mul_lt_mul_of_pos_right hv (Nat.two_pow_pos _)
  have hle : 2 ^ (8 * (r + 1)) ≤ 18446744073709551616 := by
    rw [show (18446744073709551616 : Nat) = 2 ^ 64 by decide]
    exact Nat.pow_le_pow_right (by omega) (by omega)
  have hsum : cs.getD q 0 + v * 2 ^ (8 * r) < 18446744073709551616 := by
    rw [hx]
    have h1 : D % 2 ^ (8 * (7 - r)) + 1 ≤ 2 ^ (8 * (7 - r)) := Nat.mod_lt _ (Nat.two_pow_pos _)
    have h2 := Nat.mul_le_mul_left (2 ^ (8 * (r + 1))) h1
    rw [← hB, Nat.mul_add] at h2
    omega
  refine ⟨?_, by omega, hsum, ?_⟩
  · rw [bits_or_u64_nat _ _ (by omega) (by omega), hx, ← Nat.two_pow_add_eq_or_of_lt hv2]
  · have hs := dv_set (B := 18446744073709551616) cs q (cs.getD q 0 + v * 2 ^ (8 * r)) (by omega)
    rw [← vl_dv, ← vl_dv, h, Nat.mul_add, hBq] at hs
    have e1 : 2 ^ (64 * q) * (v * 2 ^ (8 * r)) = v * 256 ^ place := by
      rw [p8, hpl, show 8 * (8 * q + r) = 64 * q + 8 * r by omega, Nat.pow_add]
      grind
    have e2 : (256 * D + v) * 256 ^ place = D * 256 ^ (place + 1) + v * 256 ^ place := by
      rw [Nat.pow_succ]
      grind
    rw [e1] at hs
    rw [e2]
    omega

theorem rev_take (bs : List Nat) (m : Nat) (h : m < bs.length) : dv 256 (bs.take (m + 1)).reverse = 256 * dv 256 (bs.take m).reverse + bs.getD m 0 := by
  rw [List.take_succ_eq_append_getElem h, List.reverse_append, dv_append]
  simp [dv, List.getElem?_eq_getElem h]
  omega

end Go.Proofs.Ytiflfcdegpmhnaa
