/- Plain arithmetic of Knuth's algorithm D: both numbers shifted ahead of it, the rest shifted back. No program is named here. -/
import Derived.Test.YtihffojljbgpcaaKnuthMath
import Derived.Test.YtihffojljbgpcaaShift
namespace Go.Proofs.Ytihffojljbgpcaa

/-- Eight limbs shifted by s bits into nine. -/
theorem shl9 (a0 a1 a2 a3 a4 a5 a6 a7 s : Nat) (hs : s ≤ 63) :
    vl [shlLimb [a0, a1, a2, a3, a4, a5, a6, a7] 0 s 0, shlLimb [a0, a1, a2, a3, a4, a5, a6, a7] 0 s 1, shlLimb [a0, a1, a2, a3, a4, a5, a6, a7] 0 s 2, shlLimb [a0, a1, a2, a3, a4, a5, a6, a7] 0 s 3, shlLimb [a0, a1, a2, a3, a4, a5, a6, a7] 0 s 4,
      shlLimb [a0, a1, a2, a3, a4, a5, a6, a7] 0 s 5, shlLimb [a0, a1, a2, a3, a4, a5, a6, a7] 0 s 6, shlLimb [a0, a1, a2, a3, a4, a5, a6, a7] 0 s 7, shlLimb [a0, a1, a2, a3, a4, a5, a6, a7] 0 s 8] = vl [a0, a1, a2, a3, a4, a5, a6, a7] * 2 ^ s := by
  have p0 := shl_parts a0 s hs
  have p1 := shl_parts a1 s hs
  have p2 := shl_parts a2 s hs
  have p3 := shl_parts a3 s hs
  have p4 := shl_parts a4 s hs
  have p5 := shl_parts a5 s hs
  have p6 := shl_parts a6 s hs
  have p7 := shl_parts a7 s hs
  simp [shlLimb, vl]
  generalize a0 / 2 ^ (64 - s) = h0 at *
  generalize a1 / 2 ^ (64 - s) = h1 at *
  generalize a2 / 2 ^ (64 - s) = h2 at *
  generalize a3 / 2 ^ (64 - s) = h3 at *
  generalize a4 / 2 ^ (64 - s) = h4 at *
  generalize a5 / 2 ^ (64 - s) = h5 at *
  generalize a6 / 2 ^ (64 - s) = h6 at *
  generalize a7 / 2 ^ (64 - s) = h7 at *
  generalize a0 * 2 ^ s % 18446744073709551616 = l0 at *
  generalize a1 * 2 ^ s % 18446744073709551616 = l1 at *
  generalize a2 * 2 ^ s % 18446744073709551616 = l2 at *
  generalize a3 * 2 ^ s % 18446744073709551616 = l3 at *
  generalize a4 * 2 ^ s % 18446744073709551616 = l4 at *
  generalize a5 * 2 ^ s % 18446744073709551616 = l5 at *
  generalize a6 * 2 ^ s % 18446744073709551616 = l6 at *
  generalize a7 * 2 ^ s % 18446744073709551616 = l7 at *
  generalize 2 ^ s = P at *
  grind

/-- The divisor, shifted: its highest limb is full. -/
theorem norm_top {ds es : List Nat} {w s : Nat} (hds : Lims ds) (hes : Lims es) (hw : 1 ≤ w) (htop : IsTop ds w) (hl : w ≤ es.length) (hz : IsLz (ds.getD (w - 1) 0) s) (he : vl es = vl ds * 2 ^ s) :
    vl es < 18446744073709551616 ^ w ∧ 9223372036854775808 ≤ es.getD (w - 1) 0 ∧ vl es = vl (es.take w) := by
  obtain ⟨v, rfl⟩ : ∃ v, w = v + 1 := ⟨w - 1, by omega⟩
  rw [Nat.add_sub_cancel] at *
  obtain ⟨z1, z2, z3⟩ := hz
  have hd := vl_top htop
  rw [val_take_succ ds v htop.1] at hd
  have hlow := vl_take_lt hds v (Nat.le_of_succ_le htop.1)
  have h64 : (2 : Nat) ^ (64 - s) * 2 ^ s = 18446744073709551616 := by rw [← Nat.pow_add, show 64 - s + s = 64 by omega]
  generalize ds.getD v 0 = y at *
  have hy : (y + 1) * 2 ^ s ≤ 18446744073709551616 := by
    rw [← h64] at z2 ⊢
    exact Nat.mul_le_mul_right _ (Nat.lt_of_mul_lt_mul_right z2)
  have hlt : vl es < 18446744073709551616 ^ (v + 1) := by
    rw [he, Nat.pow_succ]
    generalize 18446744073709551616 ^ v = P at *
    have h1 : vl ds + 1 ≤ P * (y + 1) := by rw [hd, Nat.mul_add]; omega
    have h2 := Nat.mul_le_mul_right (2 ^ s) h1
    have h3 := Nat.mul_le_mul_left P hy
    rw [Nat.mul_assoc] at h2
    rw [Nat.add_mul] at h2
    have := Nat.two_pow_pos s
    omega
  have heq : vl es = vl (es.take (v + 1)) := vl_take_eq hl fun j hj => tail_zero hlt hj
  refine ⟨hlt, ?_, heq⟩
  rw [val_take_succ es v (by omega)] at heq
  have hlow2 := vl_take_lt hes v (by omega)
  generalize es.getD v 0 = t at *
  generalize 18446744073709551616 ^ v = P at *
  have h1 : P * (y * 2 ^ s) ≤ vl es := by rw [he, hd, Nat.add_mul, Nat.mul_assoc]; omega
  have h2 : P * 9223372036854775808 ≤ P * (y * 2 ^ s) := Nat.mul_le_mul_left _ z3
  have h3 : P * 9223372036854775808 < P * (t + 1) := by rw [Nat.mul_add]; omega
  have := Nat.lt_of_mul_lt_mul_left h3
  omega

/-- Limb j of zs shifted back by s bits. -/
def shrLimb (zs : List Nat) (s j : Nat) : Nat := zs.getD j 0 / 2 ^ s + zs.getD (j + 1) 0 * 2 ^ (64 - s) % 18446744073709551616
theorem shr_part (x s : Nat) (hs : s ≤ 63) : (x * 2 ^ (64 - s) % 18446744073709551616) * 2 ^ s = 18446744073709551616 * (x % 2 ^ s) ∧ x = 2 ^ s * (x / 2 ^ s) + x % 2 ^ s := by
  refine ⟨?_, (Nat.div_add_mod _ _).symm⟩
  have h64 : (18446744073709551616 : Nat) = 2 ^ (64 - s) * 2 ^ s := by rw [← Nat.pow_add, show 64 - s + s = 64 by omega]
  have e : x * 2 ^ (64 - s) % 18446744073709551616 = 2 ^ (64 - s) * (x % 2 ^ s) := by
    conv => lhs; rw [h64]
    rw [Nat.mul_comm x, Nat.mul_mod_mul_left]
  rw [e, Nat.mul_right_comm, ← h64]
theorem shr4 (z0 z1 z2 z3 z4 s r : Nat) (hs : s ≤ 63) (h4 : z4 = 0) (h : vl [z0, z1, z2, z3] = r * 2 ^ s) :
    vl [shrLimb [z0, z1, z2, z3, z4] s 0, shrLimb [z0, z1, z2, z3, z4] s 1, shrLimb [z0, z1, z2, z3, z4] s 2, shrLimb [z0, z1, z2, z3, z4] s 3] = r := by
  obtain ⟨p1, q1⟩ := shr_part z1 s hs
  obtain ⟨p2, q2⟩ := shr_part z2 s hs
  obtain ⟨p3, q3⟩ := shr_part z3 s hs
  have q0 := (Nat.div_add_mod z0 (2 ^ s))
  have hP := Nat.two_pow_pos s
  have hz0 : z0 % 2 ^ s = 0 := by
    have e : vl [z0, z1, z2, z3] = z0 + 2 ^ s * (2 ^ (64 - s) * vl [z1, z2, z3]) := by
      rw [← Nat.mul_assoc, ← Nat.pow_add, show s + (64 - s) = 64 by omega]; rfl
    rw [e] at h
    have := congrArg (· % 2 ^ s) h
    simpa [Nat.add_mul_mod_self_left] using this
  subst h4
  apply Nat.eq_of_mul_eq_mul_right hP
  rw [← h]
  simp [shrLimb, vl]
  rw [hz0] at q0
  generalize z0 / 2 ^ s = u0 at *
  generalize z1 / 2 ^ s = u1 at *
  generalize z2 / 2 ^ s = u2 at *
  generalize z3 / 2 ^ s = u3 at *
  generalize z1 * 2 ^ (64 - s) % 18446744073709551616 = c1 at *
  generalize z2 * 2 ^ (64 - s) % 18446744073709551616 = c2 at *
  generalize z3 * 2 ^ (64 - s) % 18446744073709551616 = c3 at *
  generalize z1 % 2 ^ s = t1 at *
  generalize z2 % 2 ^ s = t2 at *
  generalize z3 % 2 ^ s = t3 at *
  generalize 2 ^ s = P at *
  clear h hs hz0
  grind
end Go.Proofs.Ytihffojljbgpcaa
