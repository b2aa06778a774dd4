/- Plain arithmetic of long division by halves of 64 bits. No program is named here. -/
import Derived.Test.YtihffojljbgpcaaLimbs
namespace Go.Proofs.Ytihffojljbgpcaa
open Go.RowKit

/-- The guess q for a digit of u * 2^32 + v by y1 * 2^32 + y0, and what it leaves of u. -/
def GuessInv (u v y1 y0 q r : Nat) : Prop := q * y1 + r = u ∧ (u * 4294967296 + v) / (y1 * 4294967296 + y0) ≤ q ∧ r < 4294967296 ∧ q ≤ 4294967297

theorem guess_start {u v y1 y0 : Nat} (hu : u < y1 * 4294967296 + y0) (hv : v < 4294967296) (hy : 2147483648 ≤ y1) (hy1 : y1 < 4294967296) (hy0 : y0 < 4294967296) : GuessInv u v y1 y0 (u / y1) (u % y1) := by
  have hm : u % y1 < y1 := Nat.mod_lt _ (by omega)
  refine ⟨Nat.div_add_mod' u y1, ?_, by omega, ?_⟩
  · apply Nat.le_of_lt_succ
    rw [Nat.div_lt_iff_lt_mul (by omega)]
    have h := Nat.div_add_mod' u y1
    generalize u / y1 = q at *
    generalize u % y1 = r at *
    have : (q + 1) * (y1 * 4294967296 + y0) = (q * y1 + y1) * 4294967296 + (q + 1) * y0 := by grind
    rw [Nat.succ_eq_add_one, this]
    have h2 : u + 1 ≤ q * y1 + y1 := by omega
    have h3 : (u + 1) * 4294967296 ≤ (q * y1 + y1) * 4294967296 := Nat.mul_le_mul_right _ h2
    omega
  · rw [Nat.le_iff_lt_add_one, Nat.div_lt_iff_lt_mul (by omega)]
    omega
/-- A guess that is too great goes down by 1. -/
theorem guess_down {u v y1 y0 q r : Nat} (h : GuessInv u v y1 y0 q r) (hu : u < y1 * 4294967296 + y0) (hv : v < 4294967296) (ht : 4294967296 ≤ q ∨ 4294967296 * r + v < q * y0) :
    1 ≤ q ∧ (q - 1) * y1 + (r + y1) = u ∧ (u * 4294967296 + v) / (y1 * 4294967296 + y0) ≤ q - 1 ∧ q - 1 ≤ 4294967296 := by
  obtain ⟨h1, h2, h3, h4⟩ := h
  have hq : 1 ≤ q := by
    rcases ht with h | h
    · omega
    · rcases Nat.eq_zero_or_pos q with rfl | h'
      · simp at h
      · exact h'
  have hlt : (u * 4294967296 + v) / (y1 * 4294967296 + y0) < q := by
    rw [Nat.div_lt_iff_lt_mul (by omega)]
    rcases ht with h | h
    · have h5 : 4294967296 * (y1 * 4294967296 + y0) ≤ q * (y1 * 4294967296 + y0) := Nat.mul_le_mul_right _ h
      omega
    · have : q * (y1 * 4294967296 + y0) = (q * y1) * 4294967296 + q * y0 := by grind
      rw [this]
      omega
  refine ⟨hq, ?_, by omega, by omega⟩
  have : (q - 1) * y1 + y1 = q * y1 := by
    rw [← Nat.succ_mul]; congr 1; omega
  omega
/-- Where the guess is not too great, it is the digit. -/
theorem guess_end {u v y1 y0 q r : Nat} (h : GuessInv u v y1 y0 q r) (hp : 0 < y1) (ht : ¬ (4294967296 * r + v < q * y0)) : q = (u * 4294967296 + v) / (y1 * 4294967296 + y0) := by
  obtain ⟨h1, h2, h3, h4⟩ := h
  apply Nat.le_antisymm _ h2
  rw [Nat.le_div_iff_mul_le (by omega)]
  have : q * (y1 * 4294967296 + y0) = (q * y1) * 4294967296 + q * y0 := by grind
  rw [this]
  omega
/-- .. nor where what it leaves is so much that the second half can't matter. -/
theorem guess_break {u v y1 y0 q r : Nat} (h1 : q * y1 + r = u) (h2 : (u * 4294967296 + v) / (y1 * 4294967296 + y0) ≤ q) (hq : q ≤ 4294967296) (hr : 4294967296 ≤ r) (hy0 : y0 < 4294967296) (hu : u < y1 * 4294967296 + y0) :
    q = (u * 4294967296 + v) / (y1 * 4294967296 + y0) := by
  apply Nat.le_antisymm _ h2
  rw [Nat.le_div_iff_mul_le (by omega)]
  have e : q * (y1 * 4294967296 + y0) = (q * y1) * 4294967296 + q * y0 := by grind
  rw [e]
  have : q * y0 ≤ 4294967296 * y0 := Nat.mul_le_mul_right _ hq
  have : 4294967296 * y0 ≤ 4294967296 * 4294967295 := Nat.mul_le_mul_left _ (by omega)
  omega

theorem wrapSub {a b : Nat} (h : b ≤ a) (hd : a - b < 18446744073709551616) (x y : Int) (hx : x % 18446744073709551616 = (a : Int) % 18446744073709551616) (hy : y % 18446744073709551616 = (b : Int) % 18446744073709551616) :
    IntKind.u64.wrap (x - y) = ((a - b : Nat) : Int) := by
  rw [IntKind.wrap_u64]; omega
/-- What the first digit leaves, as the program reckons it. -/
theorem rest_of {u v Y q : Nat} (hq : q = (u * 4294967296 + v) / Y) (hY : Y < 18446744073709551616) (h0 : 0 < Y) :
    IntKind.u64.wrap (IntKind.u64.wrap (IntKind.u64.wrap ((u : Int) * 4294967296) + v) - IntKind.u64.wrap ((q : Int) * Y)) = (((u * 4294967296 + v) % Y : Nat) : Int) := by
  have h1 : q * Y ≤ u * 4294967296 + v := by rw [hq]; exact Nat.div_mul_le_self _ _
  have h2 := Nat.div_add_mod' (u * 4294967296 + v) Y
  rw [← hq] at h2
  have h3 := Nat.mod_lt (u * 4294967296 + v) h0
  have h4 : u * 4294967296 + v - q * Y = (u * 4294967296 + v) % Y := by omega
  rw [← h4]
  have e : (q : Int) * (Y : Int) = ((q * Y : Nat) : Int) := by simp
  apply wrapSub h1 (by omega)
  · simp only [IntKind.wrap_u64]
    omega
  · rw [e]
    simp only [IntKind.wrap_u64]
    omega

/-- The two numbers shifted: the dividend's upper part. -/
theorem shl_or {hi lo s : Nat} (hs : s ≤ 63) (hl : Lim lo) (hlt : hi * 2 ^ s < 18446744073709551616) :
    bits .or .u64 (IntKind.u64.wrap ((hi : Int) * 2 ^ s)) ((lo : Int) / 2 ^ (64 - s)) = ((hi * 2 ^ s + lo / 2 ^ (64 - s) : Nat) : Int) ∧
      (hi * 2 ^ s + lo / 2 ^ (64 - s)) * 18446744073709551616 + lo * 2 ^ s % 18446744073709551616 = (hi * 18446744073709551616 + lo) * 2 ^ s := by
  unfold Lim at *
  have hx : lo / 2 ^ (64 - s) < 2 ^ s := by
    apply Nat.div_lt_of_lt_mul
    rw [← Nat.pow_add, show 64 - s + s = 64 by omega]
    exact hl
  have hs2 : (2 : Nat) ^ s ≤ 2 ^ 63 := Nat.pow_le_pow_right (by omega) hs
  constructor
  · have e1 : ((hi : Int) * 2 ^ s) = ((hi * 2 ^ s : Nat) : Int) := by simp
    have e2 : ((lo : Int) / 2 ^ (64 - s)) = ((lo / 2 ^ (64 - s) : Nat) : Int) := by simp
    rw [e1, e2, wrapN _ hlt, bits_or_u64_nat _ _ hlt (by omega), Nat.mul_comm hi, ← Nat.two_pow_add_eq_or_of_lt hx]
  · have d := Nat.div_add_mod (lo * 2 ^ s) 18446744073709551616
    have e : lo * 2 ^ s / 18446744073709551616 = lo / 2 ^ (64 - s) := by
      rw [show (18446744073709551616 : Nat) = 2 ^ (64 - s) * 2 ^ s by rw [← Nat.pow_add, show 64 - s + s = 64 by omega], Nat.mul_div_mul_right _ _ (Nat.two_pow_pos s)]
    rw [e] at d
    generalize lo / 2 ^ (64 - s) = x at *
    generalize lo * 2 ^ s % 18446744073709551616 = y at *
    generalize 2 ^ s = P at *
    grind
/-- Quotient and rest of the shifted numbers are those of the numbers. -/
theorem unshift {T y P Q Z : Nat} (hy : 0 < y) (hP : 0 < P) (h : T * P = Q * (y * P) + Z) (hZ : Z < y * P) : Q = T / y ∧ Z / P = T % y := by
  have h1 : Q = T / y := by
    have : (T * P) / (y * P) = T / y := Nat.mul_div_mul_right _ _ hP
    rw [← this, h, Nat.add_comm, Nat.add_mul_div_right _ _ (Nat.mul_pos hy hP), Nat.div_eq_of_lt hZ]
    omega
  refine ⟨h1, ?_⟩
  have d := Nat.div_add_mod' T y
  rw [← h1] at d
  have : Z = (T % y) * P := by
    have e : T * P = (Q * y + T % y) * P := by rw [d]
    generalize T % y = m at *
    generalize T * P = tp at *
    grind
  rw [this, Nat.mul_div_cancel _ hP]
theorem two_digits' {a v1 v0 Y q1 q0 m z : Nat} (d1 : q1 * Y + m = a + v1) (d0 : q0 * Y + z = m * 4294967296 + v0) :
    a * 4294967296 + (v1 * 4294967296 + v0) = (q1 * 4294967296 + q0) * Y + z := by
  rw [Nat.add_mul, Nat.mul_right_comm]
  generalize q1 * Y = p1 at *
  generalize q0 * Y = p0 at *
  omega
theorem two_digits {u v1 v0 Y q1 q0 : Nat} (h1 : q1 = (u * 4294967296 + v1) / Y) (h0 : q0 = ((u * 4294967296 + v1) % Y * 4294967296 + v0) / Y) :
    u * 18446744073709551616 + (v1 * 4294967296 + v0) = (q1 * 4294967296 + q0) * Y + ((u * 4294967296 + v1) % Y * 4294967296 + v0) % Y := by
  have d1 := Nat.div_add_mod' (u * 4294967296 + v1) Y
  rw [← h1] at d1
  have d0 := Nat.div_add_mod' ((u * 4294967296 + v1) % Y * 4294967296 + v0) Y
  rw [← h0] at d0
  rw [← two_digits' d1 d0]
  have e : u * 4294967296 * 4294967296 = u * 18446744073709551616 := by rw [Nat.mul_assoc]
  rw [e]
theorem mod_wrap (U y : Nat) (hU : Lim U) : IntKind.u64.wrap ((U : Int) - IntKind.u64.wrap (((U / y : Nat) : Int) * y)) = ((U % y : Nat) : Int) := by
  unfold Lim at hU
  have h1 : U / y * y ≤ U := Nat.div_mul_le_self _ _
  have h2 := Nat.div_add_mod' U y
  have e : ((U / y : Nat) : Int) * (y : Int) = ((U / y * y : Nat) : Int) := (Int.natCast_mul _ _).symm
  have h4 : U - U / y * y = U % y := by omega
  rw [← h4, e]
  exact wrapSub h1 (by omega) _ _ rfl (by rw [IntKind.wrap_u64]; omega)
theorem upper_lt {hi lo y P U L : Nat} (hl : Lim lo) (h : hi < y) (hP : 0 < P) (e : U * 18446744073709551616 + L = (hi * 18446744073709551616 + lo) * P) : U < y * P := by
  unfold Lim at hl
  have h1 : hi * 18446744073709551616 + lo < y * 18446744073709551616 := by omega
  have h2 := Nat.mul_lt_mul_of_pos_right h1 hP
  rw [Nat.mul_right_comm] at h2
  generalize y * P = Y at *
  omega
end Go.Proofs.Ytihffojljbgpcaa
