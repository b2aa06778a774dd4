/- The contract of package nat's Bit. -/
import Derived.Test.YtakojlgoelbjmaaNStrip
import Derived.Laws.BitsAllLaws
namespace Go.Proofs.Ytakojlgoelbjmaa
open Go.RowKit

/-- A bit of a number, by its digits of 8 bits. -/
theorem bit_of_byte {xs : List Nat} (h : Ds 256 xs) (i : Nat) : xs.getD (i / 8) 0 / 2 ^ (i % 8) % 2 = dv 256 xs / 2 ^ i % 2 := by
  rw [← dv_digit h (by omega) (i / 8)]
  have e : (2 : Nat) ^ i = 256 ^ (i / 8) * 2 ^ (i % 8) := by
    rw [show (256 : Nat) = 2 ^ 8 by decide, ← Nat.pow_mul, ← Nat.pow_add]
    congr 1
    omega
  rw [e, ← Nat.div_div_eq_div_mul]
  generalize dv 256 xs / 256 ^ (i / 8) = q
  have hr : i % 8 < 8 := Nat.mod_lt _ (by omega)
  generalize i % 8 = r at *
  have e2 : q = q % 256 + 2 ^ r * (2 * (2 ^ (7 - r) * (q / 256))) := by
    have := Nat.mod_add_div q 256
    have e3 : (256 : Nat) = 2 ^ r * (2 * 2 ^ (7 - r)) := by
      rw [← Nat.pow_succ', ← Nat.pow_add, show r + (7 - r).succ = 8 by omega]
    have e4 : 2 ^ r * (2 * (2 ^ (7 - r) * (q / 256))) = 2 ^ r * (2 * 2 ^ (7 - r)) * (q / 256) := by
      rw [Nat.mul_assoc, Nat.mul_assoc]
    rw [e4, ← e3]; exact this.symm
  conv => rhs; rw [e2]
  rw [Nat.add_mul_div_left _ _ (Nat.two_pow_pos r)]
  omega

set_option maxRecDepth 100000 in
set_option maxHeartbeats 1600000 in
/-- Bit: bit i, 0 where there is none. -/
theorem bit_n {A : Option Addr} {c : Nat} {bs : List Nat} (w : World) (h : Rd .u8 w A c bs) (hb : Ds 256 bs) (hl : bs.length ≤ 16777216) (i : Nat) (hi : i ≤ 9223372036854775807) :
    Calls Try.prog 19 #[.slice A bs.length c, .int .i64 (i : Nat)] w fun e w' => e = .returned (.int .i64 (dv 256 bs.reverse / 2 ^ i % 2 : Nat)) ∧ w' = w := by
  have c1 := digit_c w h hb hl (i / 8) (by omega)
  have he := bit_of_byte hb.reverse i
  obtain ⟨a, ea⟩ : ∃ a, a = dv 256 bs.reverse / 2 ^ i % 2 := ⟨_, rfl⟩
  obtain ⟨d, ed⟩ : ∃ d, d = bs.reverse.getD (i / 8) 0 := ⟨_, rfl⟩
  obtain ⟨L, eL⟩ : ∃ L, L = bs.length := ⟨_, rfl⟩
  obtain ⟨q, eq⟩ : ∃ q, q = i / 8 := ⟨_, rfl⟩
  obtain ⟨r, er⟩ : ∃ r, r = i % 8 := ⟨_, rfl⟩
  have bd : d < 256 := by have := hb.reverse.get (by omega) (i / 8); omega
  rw [← ea, ← ed, ← er] at he
  rw [← ed, ← eL, ← eq] at c1
  rw [← ea, ← eL]
  have C1 := Lib.hid c1
  have hq1 : (i : Int) / 8 = (q : Int) := by omega
  have hq2 : (i : Int).tdiv 8 = (q : Int) := by rw [Int.tdiv_eq_ediv_of_nonneg (by omega)]; exact hq1
  have hr1 : (i : Int) % 8 = (r : Int) := by omega
  have hr2 : (i : Int).tmod 8 = (r : Int) := by rw [Int.tmod_eq_emod_of_nonneg (by omega)]; exact hr1
  have hi0 : ¬ ((i : Int) < 0) := by omega
  have hr8 : (r : Int) < 8 := by omega
  have hand : bits .and .i64 ((d : Int) / 2 ^ r) 1 = (a : Int) := by
    have e1 : (d : Int) / 2 ^ r = ((d / 2 ^ r : Nat) : Int) := by simp
    have hle : d / 2 ^ r < 256 := Nat.lt_of_le_of_lt (Nat.div_le_self _ _) bd
    rw [e1]
    generalize d / 2 ^ r = z at *
    have hz : ∀ z, z < 256 → bits .and .i64 ((z : Nat) : Int) 1 = ((z % 2 : Nat) : Int) := by decide
    rw [hz z hle, he]
  have hwq : IntKind.i64.wrap (q : Int) = (q : Int) := IntWalk.i64_in _ (by omega)
  clear he ea ed eL eq er h hb hl hi c1 bd
  go_enter Try.func19, Try.ntmps19
  go_wp2_with fail
  (with_reducible refine (C1.out ..).mono ?_)
  rintro e w' ⟨rfl, rfl⟩
  go_wp2_with fail
  go_ret
  exact ⟨rfl, rfl⟩
set_option maxRecDepth 100000 in
/-- Bit: 0 below the lowest bit. -/
theorem bit_neg {A : Option Addr} {L c : Nat} (w : World) (i : Int) (hi : i < 0) : Calls Try.prog 19 #[.slice A L c, .int .i64 i] w fun e w' => e = .returned (.int .i64 0) ∧ w' = w := by
  go_enter Try.func19, Try.ntmps19
  go_wp2_with fail
  go_ret
  exact ⟨rfl, rfl⟩
end Go.Proofs.Ytakojlgoelbjmaa
