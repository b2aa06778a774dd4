/- The mathematics of package field's times: Montgomery's way, limb by limb. -/
import Derived.Test.YteaafnjflghlhaaDoorFlSum
namespace Go.Proofs.YteaafnjflghlhaaDoor
open Go.RowKit

/-- A number of seven limbs and one of six are added. -/
theorem mont_row {l0 l1 l2 l3 l4 l5 l6 s0 s1 s2 s3 s4 s5 t0 t1 t2 t3 t4 t5 k0 k1 k2 k3 k4 k5 : Nat} (A0 : AddC l0 s0 0 t0 k0) (A1 : AddC l1 s1 k0 t1 k1) (A2 : AddC l2 s2 k1 t2 k2) (A3 : AddC l3 s3 k2 t3 k3) (A4 : AddC l4 s4 k3 t4 k4) (A5 : AddC l5 s5 k4 t5 k5) :
    t0 + 18446744073709551616 * n6 t1 t2 t3 t4 t5 (l6 + k5) = (l0 + 18446744073709551616 * n6 l1 l2 l3 l4 l5 l6) + n6 s0 s1 s2 s3 s4 s5 := by
  have e0 := A0.1
  have e1 := A1.1
  have e2 := A2.1
  have e3 := A3.1
  have e4 := A4.1
  have e5 := A5.1
  unfold n6
  clear A0 A1 A2 A3 A4 A5
  omega
/-- Two numbers of seven limbs are added, and the lowest limb falls away. -/
theorem mont_drop {t0 t1 t2 t3 t4 t5 t6 q0 q1 q2 q3 q4 q5 q6 z s0 s1 s2 s3 s4 k0 k1 k2 k3 k4 k5 : Nat} (A0 : AddC t0 q0 0 z k0) (A1 : AddC t1 q1 k0 s0 k1) (A2 : AddC t2 q2 k1 s1 k2) (A3 : AddC t3 q3 k2 s2 k3) (A4 : AddC t4 q4 k3 s3 k4) (A5 : AddC t5 q5 k4 s4 k5) :
    z + 18446744073709551616 * n6 s0 s1 s2 s3 s4 (t6 + q6 + k5) = (t0 + 18446744073709551616 * n6 t1 t2 t3 t4 t5 t6) + (q0 + 18446744073709551616 * n6 q1 q2 q3 q4 q5 q6) := by
  have e0 := A0.1
  have e1 := A1.1
  have e2 := A2.1
  have e3 := A3.1
  have e4 := A4.1
  have e5 := A5.1
  unfold n6
  clear A0 A1 A2 A3 A4 A5
  omega
/-- As many primes as make the lowest limb 0. -/
theorem mont_low {t0 q0 z k inv P Q : Nat} (hi : (P * inv + 1) % 18446744073709551616 = 0) (hq : q0 + 18446744073709551616 * Q = t0 * inv % 18446744073709551616 * P) (A : AddC t0 q0 0 z k) : z = 0 := by
  obtain ⟨e, hz, -⟩ := A
  have h1 : (t0 + t0 * inv % 18446744073709551616 * P) % 18446744073709551616 = 0 := by
    rw [Nat.add_mod, Nat.mod_mul_mod, ← Nat.add_mod, Nat.mul_assoc, Nat.mul_comm inv P]
    have : t0 + t0 * (P * inv) = t0 * (P * inv + 1) := by rw [Nat.mul_add, Nat.mul_one, Nat.add_comm]
    rw [this, Nat.mul_mod, hi, Nat.mul_zero, Nat.zero_mod]
  rw [← hq] at h1
  generalize t0 * inv % 18446744073709551616 * P = X at *
  omega
/-- The sum stays below b and the prime together. -/
theorem mont_bound {S S' d m B P : Nat} (hS : S < B + P) (hd : Lim d) (hm : Lim m) (h : 18446744073709551616 * S' = d * B + S + m * P) : S' < B + P := by
  unfold Lim at hd hm
  have h1 : d * B ≤ 18446744073709551615 * B := Nat.mul_le_mul_right B (by omega)
  have h2 : m * P ≤ 18446744073709551615 * P := Nat.mul_le_mul_right P (by omega)
  generalize d * B = X at *
  generalize m * P = Y at *
  omega
/-- What stands in the sum behind k limbs of a: the sum times M^k is those limbs times b and some primes. -/
def MontInv (A B P k S : Nat) : Prop := S < B + P ∧ ∃ q, q < 18446744073709551616 ^ k ∧ S * 18446744073709551616 ^ k = A % 18446744073709551616 ^ k * B + q * P
theorem MontInv.zero {A B P : Nat} (h : 0 < P) : MontInv A B P 0 0 := ⟨by omega, 0, by simp, by simp [Nat.mod_one]⟩
theorem MontInv.step {A B P k S S' m : Nat} (h : MontInv A B P k S) (hm : Lim m) (e : 18446744073709551616 * S' = A / 18446744073709551616 ^ k % 18446744073709551616 * B + S + m * P) : MontInv A B P (k + 1) S' := by
  obtain ⟨hS, q, hq, hs⟩ := h
  refine ⟨mont_bound hS (Nat.mod_lt _ (by omega)) hm e, q + 18446744073709551616 ^ k * m, ?_, ?_⟩
  · unfold Lim at hm
    rw [Nat.pow_succ]
    have : 18446744073709551616 ^ k * m ≤ 18446744073709551616 ^ k * 18446744073709551615 := Nat.mul_le_mul_left _ (by omega)
    omega
  · rw [Nat.pow_succ, Nat.mod_mul]
    generalize A / 18446744073709551616 ^ k % 18446744073709551616 = d at *
    generalize A % 18446744073709551616 ^ k = a at *
    generalize 18446744073709551616 ^ k = M at *
    have e1 : S' * (M * 18446744073709551616) = 18446744073709551616 * S' * M := by rw [Nat.mul_comm M, ← Nat.mul_assoc, Nat.mul_comm S']
    rw [e1, e, Nat.add_mul, Nat.add_mul, hs, Nat.add_mul, Nat.add_mul, Nat.mul_right_comm d B M, Nat.mul_comm d M, Nat.mul_right_comm m P M, Nat.mul_comm m M]
    omega
/-- One round: what the limbs say. -/
theorem mont_round {A B P k S d inv l0 l1 l2 l3 l4 l5 l6 s0 s1 s2 s3 s4 s5 t0 t1 t2 t3 t4 t5 k0 k1 k2 k3 k4 k5 q0 q1 q2 q3 q4 q5 q6 z r0 r1 r2 r3 r4 h0 h1 h2 h3 h4 h5 : Nat} (hI : MontInv A B P k S) (hd : d = A / 18446744073709551616 ^ k % 18446744073709551616) (hi : (P * inv + 1) % 18446744073709551616 = 0)
    (hS : S = n6 s0 s1 s2 s3 s4 s5) (hl : l0 + 18446744073709551616 * n6 l1 l2 l3 l4 l5 l6 = d * B)
    (A0 : AddC l0 s0 0 t0 k0) (A1 : AddC l1 s1 k0 t1 k1) (A2 : AddC l2 s2 k1 t2 k2) (A3 : AddC l3 s3 k2 t3 k3) (A4 : AddC l4 s4 k3 t4 k4) (A5 : AddC l5 s5 k4 t5 k5)
    (hq : q0 + 18446744073709551616 * n6 q1 q2 q3 q4 q5 q6 = t0 * inv % 18446744073709551616 * P)
    (Z : AddC t0 q0 0 z h0) (D1 : AddC t1 q1 h0 r0 h1) (D2 : AddC t2 q2 h1 r1 h2) (D3 : AddC t3 q3 h2 r2 h3) (D4 : AddC t4 q4 h3 r3 h4) (D5 : AddC t5 q5 h4 r4 h5) :
    MontInv A B P (k + 1) (n6 r0 r1 r2 r3 r4 (l6 + k5 + q6 + h5)) := by
  have z0 := mont_low hi hq Z
  have e1 := mont_row (l6 := l6) A0 A1 A2 A3 A4 A5
  have e2 := mont_drop (t6 := l6 + k5) (q6 := q6) Z D1 D2 D3 D4 D5
  rw [z0, e1, hl, hq, ← hS, Nat.zero_add, hd] at e2
  exact hI.step (m := t0 * inv % 18446744073709551616) (Nat.mod_lt _ (by omega)) e2
/-- The highest limbs do not run over. -/
theorem mont_high {B P S r0 r1 r2 r3 r4 x : Nat} (h : S < B + P) (hb : B < P) (hp : 2 * P ≤ 39402006196394479212279040100143613805079739270465446667948293404245721771497210611414266254884915640806627990306816) (e : S = n6 r0 r1 r2 r3 r4 x) : Lim x := by
  unfold n6 at e
  unfold Lim
  omega
end Go.Proofs.YteaafnjflghlhaaDoor
