/- The contract of math/bits' Div64 where the quotient fits. -/
import Derived.Test.YtgmpoefgcimaiaaWordBits
import Derived.Test.YtgmpoefgcimaiaaWordMath
import Derived.BigQuiet
import Derived.Deep.DeepCutAuto
import Derived.Deep.CutBlock
namespace Go.Proofs.Ytgmpoefgcimaiaa
open Go.RowKit

theorem divNat (lo y : Nat) (hl : Lim lo) : IntKind.u64.wrap ((lo : Int) / (y : Int)) = ((lo / y : Nat) : Int) := by
  unfold Lim at hl
  have hle : lo / y ≤ lo := Nat.div_le_self _ _
  have e : ((lo : Int) / (y : Int)) = ((lo / y : Nat) : Int) := by simp
  rw [e, wrapN _ (by omega)]
/-- Quotient and rest of T by y, in two numbers; the world is as it was, but for draws. -/
def RetDiv (T y : Nat) (w : World) (e : Ending) (w' : World) : Prop := ∃ q r n : Nat, e = .returned (.tuple #[.int .u64 q, .int .u64 r]) ∧ q = T / y ∧ r = T % y ∧ Lim q ∧ w' = w.drewN n
def IsLz (y s : Nat) : Prop := s ≤ 63 ∧ y * 2 ^ s < 18446744073709551616 ∧ 9223372036854775808 ≤ y * 2 ^ s
theorem isLz (y : Nat) (hy : Lim y) (h0 : 0 < y) : IsLz y (64 - Lib.bitLen y) := by
  obtain ⟨h1, h2, h3⟩ := bitLen_is y hy
  obtain ⟨h4, h5⟩ := h3 (by omega)
  refine ⟨by omega, ?_, ?_⟩
  · have : y * 2 ^ (64 - Lib.bitLen y) < 2 ^ Lib.bitLen y * 2 ^ (64 - Lib.bitLen y) := Nat.mul_lt_mul_of_pos_right h1 (Nat.two_pow_pos _)
    rw [← Nat.pow_add, show Lib.bitLen y + (64 - Lib.bitLen y) = 64 by omega] at this
    exact this
  · have : 2 ^ (Lib.bitLen y - 1) * 2 ^ (64 - Lib.bitLen y) ≤ y * 2 ^ (64 - Lib.bitLen y) := Nat.mul_le_mul_right _ h5
    rw [← Nat.pow_add, show Lib.bitLen y - 1 + (64 - Lib.bitLen y) = 63 by omega] at this
    exact this
theorem shl_in {y s Y : Nat} (h : Y = y * 2 ^ s) (hl : Y < 18446744073709551616) : IntKind.u64.wrap ((y : Int) * 2 ^ s) = (Y : Int) := by
  have e : ((y : Int) * 2 ^ s) = ((y * 2 ^ s : Nat) : Int) := by simp
  rw [e, ← h, wrapN _ hl]

end Go.Proofs.Ytgmpoefgcimaiaa
