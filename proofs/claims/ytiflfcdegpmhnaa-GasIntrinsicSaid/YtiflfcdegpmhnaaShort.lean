/- The contract of package word's Short: the bytes without the zeros ahead. -/
import Derived.Test.YtiflfcdegpmhnaaOwn8
import Derived.Test.YtiflfcdegpmhnaaFrom
import Derived.Test.YtiflfcdegpmhnaaWordBits
import Derived.Test.YtiflfcdegpmhnaaRBit
import Derived.Test.YtiflfcdegpmhnaaEqArr
import Derived.Deep.DeepCutAuto
import Derived.Deep.MidRow
namespace Go.Proofs.Ytiflfcdegpmhnaa
open Go.RowKit

def shortv (a : Nat) : List Nat := (bytes32 a).drop (32 - (blen a + 7) / 8)
theorem blen_big {a : Nat} (h : Big a) : blen a ≤ 256 := by
  rcases Nat.eq_zero_or_pos a with rfl | h0
  · have := blen_eq (n := 0) (l := 0) (by decide) (by omega)
    omega
  · have h1 := blen_ge h0
    have h2 : 2 ^ (blen a - 1) < 2 ^ 256 := Nat.lt_of_le_of_lt h1 (by have := h; unfold Big at this; rw [show (2 : Nat) ^ 256 = 115792089237316195423570985008687907853269984665640564039457584007913129639936 by decide]; exact this)
    have := (Nat.pow_lt_pow_iff_right (by omega : 1 < 2)).1 h2
    omega
theorem bytes32_dv {a : Nat} (h : Big a) : dv 256 (bytes32 a).reverse = a := by
  refine dv_of_digits (fun i hi => ?_) ?_
  · rw [List.length_reverse, bytes32_len] at hi
    rw [rev_get _ _ (by rw [bytes32_len]; exact hi), bytes32_len, bytes32_get _ (by omega), show 31 - (32 - 1 - i) = i by omega]
  · rw [List.length_reverse, bytes32_len]
    unfold Big at h
    exact h
theorem short_k {a : Nat} (h : Big a) : (blen a + 7) / 8 ≤ 32 := by have := blen_big h; omega
theorem shortv_len {a : Nat} (h : Big a) : (shortv a).length = (blen a + 7) / 8 := by
  have := short_k h
  unfold shortv
  rw [List.length_drop, bytes32_len]
  omega
theorem p256 (n : Nat) : (256 : Nat) ^ n = 2 ^ (8 * n) := by rw [show (256 : Nat) = 2 ^ 8 by decide, ← Nat.pow_mul]
theorem shortv_lt {a : Nat} : a < 256 ^ ((blen a + 7) / 8) := by
  refine Nat.lt_of_lt_of_le (blen_lt a) ?_
  rw [p256]
  exact Nat.pow_le_pow_right (by omega) (by omega)
theorem shortv_ds (a : Nat) : Ds 256 (shortv a) := (bytes32_ds a).drop _
theorem shortv_dv {a : Nat} (h : Big a) : dv 256 (shortv a).reverse = a := by
  have hd := bytes32_dv h
  have hs : (bytes32 a).reverse = (shortv a).reverse ++ ((bytes32 a).take (32 - (blen a + 7) / 8)).reverse := by
    unfold shortv
    rw [← List.reverse_append, List.take_append_drop]
  rw [hs, dv_append, List.length_reverse, shortv_len h] at hd
  have hlt := shortv_lt (a := a)
  rcases Nat.eq_zero_or_pos (dv 256 ((bytes32 a).take (32 - (blen a + 7) / 8)).reverse) with h0 | h0
  · rw [h0] at hd; omega
  · have := Nat.le_mul_of_pos_right (256 ^ ((blen a + 7) / 8)) h0
    omega
theorem shortv_can {a : Nat} (h : Big a) : Can 256 (shortv a).reverse a := by
  refine ⟨(shortv_ds a).reverse, shortv_dv h, fun hl => ?_⟩
  have hk := short_k h
  rw [List.length_reverse, shortv_len h] at hl ⊢
  rw [rev_get _ _ (by rw [shortv_len h]; omega), shortv_len h, show (blen a + 7) / 8 - 1 - ((blen a + 7) / 8 - 1) = 0 by omega]
  have h0 : 0 < a := by
    rcases Nat.eq_zero_or_pos a with rfl | h0
    · have := blen_eq (n := 0) (l := 0) (by decide) (by omega)
      omega
    · exact h0
  have hge := blen_ge h0
  have he : (shortv a).getD 0 0 = a / 256 ^ ((blen a + 7) / 8 - 1) % 256 := by
    unfold shortv
    rw [List.getD_eq_getElem?_getD, List.getElem?_drop, ← List.getD_eq_getElem?_getD, bytes32_get _ (by omega)]
    rw [show 31 - (32 - (blen a + 7) / 8 + 0) = (blen a + 7) / 8 - 1 by omega]
  rw [he]
  have hlt := shortv_lt (a := a)
  have h1 : 256 ^ ((blen a + 7) / 8 - 1) ≤ a := by
    refine Nat.le_trans ?_ hge
    rw [p256]
    exact Nat.pow_le_pow_right (by omega) (by omega)
  have h2 : 0 < a / 256 ^ ((blen a + 7) / 8 - 1) := Nat.div_pos h1 (Nat.pow_pos (by omega))
  have h3 : a / 256 ^ ((blen a + 7) / 8 - 1) < 256 := by
    apply Nat.div_lt_of_lt_mul
    have e : 256 ^ ((blen a + 7) / 8 - 1) * 256 = 256 ^ ((blen a + 7) / 8) := by
      rw [← Nat.pow_succ]
      congr 1
      omega
    rw [e]
    exact hlt
  omega
theorem bits_blen {a n : Nat} (h : IsBits a n) : n = blen a := by
  obtain ⟨h1, _, h3, h4⟩ := h
  refine blen_eq h1 fun hn => ?_
  by_cases ha : a = 0
  · have := h4 ha; omega
  · exact (h3 ha).2
theorem arr33 : Try.prog.underlying 141 = some (.array (Try.prog.arrayLen 141) (Try.prog.elem 141)) := by kernel_rfl
theorem len33 : Try.prog.arrayLen 141 = 32 := by kernel_rfl
theorem elem33 (w : World) : (sizeOf (Try.prog.elem 141)).run Try.prog w = .ok 1 w := by kernel_rfl
theorem slice33l (g lo : Nat) (h : lo ≤ 32) (w : World) : (Instr.sliceAt 141 (.pointer (some ⟨g, 0, none⟩)) (some (.int .i64 (lo : Nat))) none none).run Try.prog w = .ok (.slice (some (if 32 = lo then ⟨g, 0, none⟩ else ⟨g, lo, none⟩)) (32 - lo) (32 - lo)) w := by
  rw [run_sliceAt_array_l w _ _ arr33 .i64 lo (by omega) (by rw [len33]; omega), elem33, len33]
  simp only [Result.andThen_ok, slicedAt, Int.toNat_natCast, Nat.mul_one]
  congr 3
  by_cases h : 32 = lo
  · rw [if_pos h, if_pos h]
  · rw [if_neg h, if_neg h]
    unfold Addr.add
    by_cases h0 : lo = 0 <;> simp [h0]
theorem slice33 (g : Nat) (w : World) : (Instr.sliceAt 141 (.pointer (some ⟨g, 0, none⟩)) none none none).run Try.prog w = .ok (.slice (some ⟨g, 0, none⟩) 32 32) w := by
  rw [run_sliceAt_array_all w _ _ arr33, elem33, len33]
  simp [slicedAt, Result.andThen_ok, Addr.add]

end Go.Proofs.Ytiflfcdegpmhnaa
