/- The contracts of package quarryref02's Bit and Len. -/
import Derived.Test.YteaafnjflghlhaaDoorRTrim
import Derived.Laws.BitsAllLaws
namespace Go.Proofs.YteaafnjflghlhaaDoor
open Go.RowKit

/-- A bit of a number, by its digits of 32 bits. -/
theorem bit_of_digit {xs : List Nat} (h : Ds 4294967296 xs) (i : Nat) : xs.getD (i / 32) 0 / 2 ^ (i % 32) % 2 = dv 4294967296 xs / 2 ^ i % 2 := by
  rw [← dv_digit h (by omega) (i / 32)]
  have e : (2 : Nat) ^ i = 4294967296 ^ (i / 32) * 2 ^ (i % 32) := by
    rw [show (4294967296 : Nat) = 2 ^ 32 by decide, ← Nat.pow_mul, ← Nat.pow_add]
    congr 1
    omega
  rw [e, ← Nat.div_div_eq_div_mul]
  generalize dv 4294967296 xs / 4294967296 ^ (i / 32) = q
  have hr : i % 32 < 32 := Nat.mod_lt _ (by omega)
  generalize i % 32 = r at *
  have e2 : q = q % 4294967296 + 2 ^ r * (2 * (2 ^ (31 - r) * (q / 4294967296))) := by
    have := Nat.mod_add_div q 4294967296
    have e3 : (4294967296 : Nat) = 2 ^ r * (2 * 2 ^ (31 - r)) := by
      rw [← Nat.pow_succ', ← Nat.pow_add, show r + (31 - r).succ = 32 by omega]
    have e4 : 2 ^ r * (2 * (2 ^ (31 - r) * (q / 4294967296))) = 2 ^ r * (2 * 2 ^ (31 - r)) * (q / 4294967296) := by
      rw [Nat.mul_assoc, Nat.mul_assoc]
    rw [e4, ← e3]; exact this.symm
  conv => rhs; rw [e2]
  rw [Nat.add_mul_div_left _ _ (Nat.two_pow_pos r)]
  omega

set_option maxRecDepth 100000 in
set_option maxHeartbeats 1600000 in
theorem rbit_c {A : Option Addr} {c a : Nat} {xs : List Nat} (w : World) (h : Rd .u32 w A c xs) (hx : Can 4294967296 xs a) (hl : xs.length ≤ 16777216) (i : Nat) (hi : i ≤ 1073741824) :
    Calls Tryd.prog 76 #[.slice A xs.length c, .int .i64 i] w fun e w' => e = .returned (.int .u32 (a / 2 ^ i % 2 : Nat)) ∧ w' = w := by
  have X := Lib.hid hx
  by_cases hlt : i / 32 < xs.length
  · obtain ⟨b1, o1, rfl, hb1, hc1⟩ := h.at_ (by omega)
    have cx := hc1 (i / 32) hlt
    obtain ⟨x, ex⟩ : ∃ x, x = xs.getD (i / 32) 0 := ⟨_, rfl⟩
    have bx : (x : Int) < 4294967296 := by have := hx.1.get (by omega) (i / 32); omega
    have he : x / 2 ^ (i % 32) % 2 = a / 2 ^ i % 2 := by rw [ex, bit_of_digit hx.1, hx.2.1]
    rw [← ex] at cx
    have hand : bits .and .u32 ((x : Int) / 2 ^ (i % 32)) 1 = ((a / 2 ^ i % 2 : Nat) : Int) := by
      have e1 : (x : Int) / 2 ^ (i % 32) = ((x / 2 ^ (i % 32) : Nat) : Int) := by simp
      have e2 := u32_and_nat (x / 2 ^ (i % 32)) 1 (Nat.lt_of_le_of_lt (Nat.div_le_self _ _) (by omega)) (by omega)
      rw [nat_mask1, he] at e2
      rw [e1]; exact e2
    clear hc1 ex he h hx bx
    go_enter Tryd.func76, Tryd.ntmps76
    go_wp2_with fail
    go_ret
    exact ⟨by simp, rfl⟩
  · have he : a / 2 ^ i % 2 = 0 := by
      rw [← hx.2.1, ← bit_of_digit hx.1, List.getD_eq_getElem?_getD, List.getElem?_eq_none (by omega)]; simp
    rw [he]
    clear he h hx
    go_enter Tryd.func76, Tryd.ntmps76
    go_wp2_with fail
    go_ret
    exact ⟨rfl, rfl⟩
theorem rbit_n {u : Value} {a L : Nat} (w : World) (h : Num w u a L) (hL : L ≤ 16777216) (i : Nat) (hi : i ≤ 1073741824) :
    Calls Tryd.prog 76 #[u, .int .i64 i] w fun e w' => e = .returned (.int .u32 (a / 2 ^ i % 2 : Nat)) ∧ w' = w := by
  obtain ⟨A, c, xs, rfl, h1, h2, h3⟩ := h
  exact rbit_c w h1 h2 (by omega) i hi

/-- How many bits a number has. -/
def blen (n : Nat) : Nat := if n = 0 then 0 else Nat.log2 n + 1
theorem blen_lt (n : Nat) : n < 2 ^ blen n := by
  unfold blen
  by_cases h : n = 0
  · rw [if_pos h]; omega
  · rw [if_neg h]; exact Nat.lt_log2_self
theorem blen_ge {n : Nat} (h : 0 < n) : 2 ^ (blen n - 1) ≤ n := by
  unfold blen
  rw [if_neg (by omega), Nat.add_sub_cancel]
  exact Nat.log2_self_le (by omega)
theorem blen_eq {n l : Nat} (h1 : n < 2 ^ l) (h2 : 0 < l → 2 ^ (l - 1) ≤ n) : l = blen n := by
  rcases Nat.eq_zero_or_pos n with rfl | hp
  · rcases Nat.eq_zero_or_pos l with rfl | hl
    · rfl
    · have := h2 hl
      have := Nat.two_pow_pos (l - 1)
      omega
  · have a1 := blen_lt n
    have a2 := blen_ge hp
    have hl : 0 < l := by
      rcases Nat.eq_zero_or_pos l with rfl | hl
      · simp at h1; omega
      · exact hl
    have h3 := h2 hl
    rcases Nat.lt_trichotomy l (blen n) with h | h | h
    · have : (2 : Nat) ^ l ≤ 2 ^ (blen n - 1) := Nat.pow_le_pow_right (by omega) (by omega)
      omega
    · exact h
    · have : (2 : Nat) ^ blen n ≤ 2 ^ (l - 1) := Nat.pow_le_pow_right (by omega) (by omega)
      omega

set_option maxRecDepth 100000 in
set_option maxHeartbeats 1600000 in
theorem rlen_c {A : Option Addr} {c a : Nat} {xs : List Nat} (w : World) (h : Rd .u32 w A c xs) (hx : Can 4294967296 xs a) (hl : xs.length ≤ 16777216) :
    Calls Tryd.prog 69 #[.slice A xs.length c] w fun e w' => e = .returned (.int .i64 (blen a : Nat)) ∧ w' = w := by
  have H := Lib.hid h
  have X := Lib.hid hx
  clear h hx
  go_enter Tryd.func69, Tryd.ntmps69
  go_wp2_with fail
  go_loop [3] (fun n => ∃ m : Nat, m ≤ 32 * xs.length ∧ n = .int .i64 m ∧ Hid (a < 2 ^ m)) (fun n => (intOf n).toNat)
  case atStart =>
    refine ⟨32 * xs.length, Nat.le_refl _, by go_num, ?_⟩
    show a < _
    have := X.out.lt
    rwa [show (4294967296 : Nat) = 2 ^ 32 by decide, ← Nat.pow_mul] at this
  case round =>
    obtain ⟨m, hm, rfl, hlt⟩ := hrel
    by_cases h0 : 0 < m
    · have hB : Calls Tryd.prog 76 #[.slice A xs.length c, .int .i64 ((m : Int) - 1)] w fun e w' => e = .returned (.int .u32 (a / 2 ^ (m - 1) % 2 : Nat)) ∧ w' = w := by
        have := rbit_c w H.out X.out hl (m - 1) (by omega)
        rwa [show ((m - 1 : Nat) : Int) = (m : Int) - 1 by omega] at this
      rcases (show a / 2 ^ (m - 1) % 2 = 0 ∨ a / 2 ^ (m - 1) % 2 = 1 by omega) with hb | hb
      · rw [hb] at hB
        have HB := Lib.hid hb
        clear hb
        go_wp2_with fail
        (with_reducible refine hB.mono ?_)
        rintro e w' ⟨rfl, rfl⟩
        go_wp2_with fail
        go_round
        case rel =>
          refine ⟨m - 1, by omega, by go_num, ?_⟩
          show a < _
          have h2 := hlt.out
          have h3 : a / 2 ^ (m - 1) < 2 := Nat.div_lt_of_lt_mul (by rw [← Nat.pow_succ, show (m - 1).succ = m by omega]; exact h2)
          have h4 := HB.out
          have h5 : a / 2 ^ (m - 1) = 0 := by clear h2 hlt; generalize a / 2 ^ (m - 1) = q at h3 h4; omega
          exact (Nat.div_eq_zero_iff.1 h5).resolve_left (by have := Nat.two_pow_pos (m - 1); omega)
        case measure => simp [intOf]; omega
      · rw [hb] at hB
        have he : m = blen a := blen_eq hlt.out fun _ => by
          rcases Nat.lt_or_ge a (2 ^ (m - 1)) with h | h
          · simp [Nat.div_eq_of_lt h] at hb
          · exact h
        have HE := Lib.hid he
        clear hb he
        go_wp2_with fail
        (with_reducible refine hB.mono ?_)
        rintro e w' ⟨rfl, rfl⟩
        go_wp2_with fail
        go_ret
        exact ⟨by rw [← HE.out]; rfl, rfl⟩
    · obtain rfl : m = 0 := by omega
      have he : 0 = blen a := blen_eq hlt.out fun h => by omega
      have HE := Lib.hid he
      clear he
      go_wp2_with fail
      go_ret
      exact ⟨by rw [← HE.out]; rfl, rfl⟩
theorem rlen_n {u : Value} {a L : Nat} (w : World) (h : Num w u a L) (hL : L ≤ 16777216) :
    Calls Tryd.prog 69 #[u] w fun e w' => e = .returned (.int .i64 (blen a : Nat)) ∧ w' = w := by
  obtain ⟨A, c, xs, rfl, h1, h2, h3⟩ := h
  exact rlen_c w h1 h2 (by omega)
end Go.Proofs.YteaafnjflghlhaaDoor
