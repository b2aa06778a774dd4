/- The contract of package word's shiftLeft: a * 2^n modulo 2^256, for n from 0 to 255. -/
import Derived.Test.YteaafnjflghlhaaDoorWordMath
import Derived.Test.YteaafnjflghlhaaDoorProg
namespace Go.Proofs.YteaafnjflghlhaaDoor
open Go.RowKit

/-- The upper and the lower part of a limb that is shifted by s bits. -/
theorem shl_parts (x s : Nat) (hs : s ≤ 63) : x * 2 ^ s = 18446744073709551616 * (x / 2 ^ (64 - s)) + x * 2 ^ s % 18446744073709551616 := by
  have d := Nat.div_add_mod (x * 2 ^ s) 18446744073709551616
  have e : x * 2 ^ s / 18446744073709551616 = x / 2 ^ (64 - s) := by
    rw [show (18446744073709551616 : Nat) = 2 ^ (64 - s) * 2 ^ s by rw [← Nat.pow_add, show 64 - s + s = 64 by omega], Nat.mul_div_mul_right _ _ (Nat.two_pow_pos s)]
  rw [e] at d
  exact d.symm
theorem or_parts (x y s : Nat) (hs : s ≤ 63) (hy : Lim y) : bits .or .u64 ((x * 2 ^ s % 18446744073709551616 : Nat) : Int) ((y / 2 ^ (64 - s) : Nat) : Int) = ((x * 2 ^ s % 18446744073709551616 + y / 2 ^ (64 - s) : Nat) : Int) ∧
    x * 2 ^ s % 18446744073709551616 + y / 2 ^ (64 - s) < 18446744073709551616 := by
  unfold Lim at hy
  have hq : y / 2 ^ (64 - s) < 2 ^ s := by
    apply Nat.div_lt_of_lt_mul
    rw [← Nat.pow_add, show 64 - s + s = 64 by omega]
    exact hy
  have hs2 : (2 : Nat) ^ s ≤ 2 ^ 63 := Nat.pow_le_pow_right (by omega) hs
  have e : x * 2 ^ s % 18446744073709551616 = 2 ^ s * (x % 2 ^ (64 - s)) := by
    rw [show (18446744073709551616 : Nat) = 2 ^ s * 2 ^ (64 - s) by rw [← Nat.pow_add, show s + (64 - s) = 64 by omega], Nat.mul_comm x, Nat.mul_mod_mul_left]
  have hlt : x * 2 ^ s % 18446744073709551616 < 18446744073709551616 := Nat.mod_lt _ (by omega)
  have hsum : x * 2 ^ s % 18446744073709551616 + y / 2 ^ (64 - s) < 18446744073709551616 := by
    rw [e]
    have h1 : x % 2 ^ (64 - s) + 1 ≤ 2 ^ (64 - s) := Nat.mod_lt _ (Nat.two_pow_pos _)
    have h2 := Nat.mul_le_mul_left (2 ^ s) h1
    rw [← Nat.pow_add, show s + (64 - s) = 64 by omega, Nat.mul_add] at h2
    omega
  refine ⟨?_, hsum⟩
  rw [bits_or_u64_nat _ _ hlt (by omega), e, ← Nat.two_pow_add_eq_or_of_lt hq]

/-- Limb j of xs shifted by whole limbs and s bits. -/
def shlLimb (xs : List Nat) (whole s j : Nat) : Nat :=
  if j < whole then 0 else xs.getD (j - whole) 0 * 2 ^ s % 18446744073709551616 + (if whole < j then xs.getD (j - whole - 1) 0 / 2 ^ (64 - s) else 0)
theorem shl_val (a0 a1 a2 a3 whole s : Nat) (hw : whole ≤ 3) (hs : s ≤ 63) (hl : Lims [shlLimb [a0, a1, a2, a3] whole s 0, shlLimb [a0, a1, a2, a3] whole s 1, shlLimb [a0, a1, a2, a3] whole s 2, shlLimb [a0, a1, a2, a3] whole s 3]) :
    vl [shlLimb [a0, a1, a2, a3] whole s 0, shlLimb [a0, a1, a2, a3] whole s 1, shlLimb [a0, a1, a2, a3] whole s 2, shlLimb [a0, a1, a2, a3] whole s 3] = vl [a0, a1, a2, a3] * 2 ^ (64 * whole + s) % 115792089237316195423570985008687907853269984665640564039457584007913129639936 := by
  have hlt := val_lt _ hl
  have p0 := shl_parts a0 s hs
  have p1 := shl_parts a1 s hs
  have p2 := shl_parts a2 s hs
  have p3 := shl_parts a3 s hs
  rw [Nat.pow_add, ← pow64]
  simp only [List.length_cons, List.length_nil] at hlt
  rcases (show whole = 0 ∨ whole = 1 ∨ whole = 2 ∨ whole = 3 by omega) with rfl | rfl | rfl | rfl
  · refine (mod_of (k := a3 / 2 ^ (64 - s)) ?_ hlt).1
    simp [shlLimb, vl]
    generalize a0 / 2 ^ (64 - s) = h0 at *
    generalize a1 / 2 ^ (64 - s) = h1 at *
    generalize a2 / 2 ^ (64 - s) = h2 at *
    generalize a3 / 2 ^ (64 - s) = h3 at *
    generalize a0 * 2 ^ s % 18446744073709551616 = l0 at *
    generalize a1 * 2 ^ s % 18446744073709551616 = l1 at *
    generalize a2 * 2 ^ s % 18446744073709551616 = l2 at *
    generalize a3 * 2 ^ s % 18446744073709551616 = l3 at *
    generalize 2 ^ s = P at *
    clear hl hlt
    grind
  · refine (mod_of (k := a2 / 2 ^ (64 - s) + a3 * 2 ^ s) ?_ hlt).1
    simp [shlLimb, vl]
    generalize a0 / 2 ^ (64 - s) = h0 at *
    generalize a1 / 2 ^ (64 - s) = h1 at *
    generalize a2 / 2 ^ (64 - s) = h2 at *
    generalize a3 / 2 ^ (64 - s) = h3 at *
    generalize a0 * 2 ^ s % 18446744073709551616 = l0 at *
    generalize a1 * 2 ^ s % 18446744073709551616 = l1 at *
    generalize a2 * 2 ^ s % 18446744073709551616 = l2 at *
    generalize a3 * 2 ^ s % 18446744073709551616 = l3 at *
    generalize 2 ^ s = P at *
    clear hl hlt
    grind
  · refine (mod_of (k := a1 / 2 ^ (64 - s) + a2 * 2 ^ s + 18446744073709551616 * (a3 * 2 ^ s)) ?_ hlt).1
    simp [shlLimb, vl]
    generalize a0 / 2 ^ (64 - s) = h0 at *
    generalize a1 / 2 ^ (64 - s) = h1 at *
    generalize a2 / 2 ^ (64 - s) = h2 at *
    generalize a3 / 2 ^ (64 - s) = h3 at *
    generalize a0 * 2 ^ s % 18446744073709551616 = l0 at *
    generalize a1 * 2 ^ s % 18446744073709551616 = l1 at *
    generalize a2 * 2 ^ s % 18446744073709551616 = l2 at *
    generalize a3 * 2 ^ s % 18446744073709551616 = l3 at *
    generalize 2 ^ s = P at *
    clear hl hlt
    grind
  · refine (mod_of (k := a0 / 2 ^ (64 - s) + a1 * 2 ^ s + 18446744073709551616 * (a2 * 2 ^ s) + 340282366920938463463374607431768211456 * (a3 * 2 ^ s)) ?_ hlt).1
    simp [shlLimb, vl]
    generalize a0 / 2 ^ (64 - s) = h0 at *
    generalize a1 / 2 ^ (64 - s) = h1 at *
    generalize a2 / 2 ^ (64 - s) = h2 at *
    generalize a3 / 2 ^ (64 - s) = h3 at *
    generalize a0 * 2 ^ s % 18446744073709551616 = l0 at *
    generalize a1 * 2 ^ s % 18446744073709551616 = l1 at *
    generalize a2 * 2 ^ s % 18446744073709551616 = l2 at *
    generalize a3 * 2 ^ s % 18446744073709551616 = l3 at *
    generalize 2 ^ s = P at *
    clear hl hlt
    grind

/-- Limbs from m on are shifted, those below are still 0. -/
def ShlInv (xs : List Nat) (whole s m : Nat) (bs : List Nat) : Prop := (∀ j, j < m → bs.getD j 0 = 0) ∧ ∀ j, m ≤ j → j < 4 → bs.getD j 0 = shlLimb xs whole s j

theorem shl_step {xs bs cs : List Nat} {whole s m : Nat} (h : ShlInv xs whole s m bs) (hm : 1 ≤ m) (hne : ∀ j, j ≠ m - 1 → cs.getD j 0 = bs.getD j 0) (he : cs.getD (m - 1) 0 = shlLimb xs whole s (m - 1)) : ShlInv xs whole s (m - 1) cs := by
  refine ⟨fun j hj => ?_, fun j h1 h2 => ?_⟩
  · rw [hne j (by omega)]; exact h.1 j (by omega)
  · by_cases hj : j = m - 1
    · subst hj; exact he
    · rw [hne j hj]; exact h.2 j (by omega) h2
theorem shl_done {xs bs : List Nat} {whole s : Nat} (h : ShlInv xs whole s whole bs) (_hw : whole ≤ 4) : bs.getD 0 0 = shlLimb xs whole s 0 ∧ bs.getD 1 0 = shlLimb xs whole s 1 ∧ bs.getD 2 0 = shlLimb xs whole s 2 ∧ bs.getD 3 0 = shlLimb xs whole s 3 := by
  have k : ∀ j, j < 4 → bs.getD j 0 = shlLimb xs whole s j := fun j hj => by
    by_cases hlt : j < whole
    · rw [h.1 j hlt]; simp [shlLimb, hlt]
    · exact h.2 j (by omega) hj
  exact ⟨k 0 (by omega), k 1 (by omega), k 2 (by omega), k 3 (by omega)⟩
end Go.Proofs.YteaafnjflghlhaaDoor
