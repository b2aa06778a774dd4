/- More plain arithmetic on digits of 32 bits: shifts; bytes gathered to digits. No program is named here. -/
import Derived.Test.YtihffojljbgpcaaDig
import Derived.Laws.BitsAllLaws
namespace Go.Proofs.Ytihffojljbgpcaa

theorem pow32 (s : Nat) : (4294967296 : Nat) ^ s = 2 ^ (32 * s) := by rw [show (4294967296 : Nat) = 2 ^ 32 by decide, ← Nat.pow_mul]
theorem dshl_lo {x r : Nat} (hr : r < 32) : (x * 2 ^ r % 4294967296) % 2 ^ r = 0 ∧ ∀ z, z < 2 ^ r → z + x * 2 ^ r % 4294967296 < 4294967296 := by
  have e : x * 2 ^ r % 4294967296 = 2 ^ r * (x % 2 ^ (32 - r)) := by
    rw [show (4294967296 : Nat) = 2 ^ r * 2 ^ (32 - r) by rw [← Nat.pow_add, show r + (32 - r) = 32 by omega], Nat.mul_comm x, Nat.mul_mod_mul_left]
  rw [e]
  refine ⟨Nat.mul_mod_right _ _, fun z hz => ?_⟩
  have h1 : x % 2 ^ (32 - r) + 1 ≤ 2 ^ (32 - r) := Nat.mod_lt _ (Nat.two_pow_pos _)
  have h2 := Nat.mul_le_mul_left (2 ^ r) h1
  rw [← Nat.pow_add, show r + (32 - r) = 32 by omega, Nat.mul_add] at h2
  omega
/-- What or makes of a number below 2^r and a multiple of it. -/
theorem or_join {z l r : Nat} (hz : z < 2 ^ r) (hl : l % 2 ^ r = 0) (h : z + l < 4294967296) : bits .or .u32 (z : Int) (l : Int) = ((z + l : Nat) : Int) := by
  rw [u32_or_nat z l (by omega) (by omega), Nat.or_comm, nat_join r l z hl hz, Nat.add_comm]

/-- A shift to the left by n, i digits done. -/
def DShlInv (xs : List Nat) (n i : Nat) (zs : List Nat) : Prop := dv 4294967296 zs = dv 4294967296 (xs.take i) * 2 ^ n ∧ ∀ j, i + n / 32 + 1 ≤ j → zs.getD j 0 = 0
theorem dshl_carry {xs zs : List Nat} {n i : Nat} (h : DShlInv xs n i zs) (hx : Ds 4294967296 xs) (hz : Ds 4294967296 zs) (hi : i ≤ xs.length) : zs.getD (i + n / 32) 0 < 2 ^ (n % 32) := by
  rw [← dv_digit hz (by omega)]
  refine Nat.lt_of_le_of_lt (Nat.mod_le _ _) (Nat.div_lt_of_lt_mul ?_)
  rw [h.1]
  have h1 := dv_take_lt hx i hi
  have h2 : dv 4294967296 (xs.take i) * 2 ^ n < 4294967296 ^ i * 2 ^ n := Nat.mul_lt_mul_of_pos_right h1 (Nat.two_pow_pos n)
  refine Nat.lt_of_lt_of_le h2 (Nat.le_of_eq ?_)
  rw [Nat.pow_add, Nat.mul_assoc, pow32 (n / 32), ← Nat.pow_add]
  congr 2
  omega
theorem dshl_step {xs zs : List Nat} {n i : Nat} (h : DShlInv xs n i zs) (hi : i < xs.length) (hz : i + n / 32 + 1 < zs.length) :
    DShlInv xs n (i + 1) ((zs.set (i + n / 32) (zs.getD (i + n / 32) 0 + xs.getD i 0 * 2 ^ (n % 32) % 4294967296)).set (i + n / 32 + 1) (xs.getD i 0 * 2 ^ (n % 32) / 4294967296)) := by
  obtain ⟨h1, h2⟩ := h
  refine ⟨?_, fun j hj => by rw [getD_set_ne (by omega), getD_set_ne (by omega)]; exact h2 j (by omega)⟩
  have e1 := dv_set (B := 4294967296) (zs.set (i + n / 32) (zs.getD (i + n / 32) 0 + xs.getD i 0 * 2 ^ (n % 32) % 4294967296)) (i + n / 32 + 1) (xs.getD i 0 * 2 ^ (n % 32) / 4294967296) (by rw [List.length_set]; exact hz)
  rw [getD_set_ne (by omega), h2 _ (Nat.le_refl _)] at e1
  have e2 := dv_set (B := 4294967296) zs (i + n / 32) (zs.getD (i + n / 32) 0 + xs.getD i 0 * 2 ^ (n % 32) % 4294967296) (by omega)
  have e3 := Nat.mod_add_div (xs.getD i 0 * 2 ^ (n % 32)) 4294967296
  rw [dv_take_succ xs i hi, Nat.add_mul, ← h1]
  have e4 : 4294967296 ^ i * xs.getD i 0 * 2 ^ n = 4294967296 ^ (i + n / 32) * (xs.getD i 0 * 2 ^ (n % 32)) := by
    rw [Nat.pow_add, pow32 (n / 32), show (2 : Nat) ^ n = 2 ^ (32 * (n / 32)) * 2 ^ (n % 32) by rw [← Nat.pow_add]; congr 1; omega]
    generalize 4294967296 ^ i = P
    generalize 2 ^ (32 * (n / 32)) = Q
    generalize 2 ^ (n % 32) = R
    generalize xs.getD i 0 = x
    grind
  rw [e4]
  rw [Nat.pow_succ] at e1
  generalize xs.getD i 0 * 2 ^ (n % 32) = W at *
  generalize zs.getD (i + n / 32) 0 = z at *
  generalize 4294967296 ^ (i + n / 32) = P at *
  generalize W % 4294967296 = lo at *
  generalize W / 4294967296 = hi' at *
  generalize dv 4294967296 (zs.set (i + n / 32) (z + lo)) = Z1 at *
  clear h2 e4 h1
  have f : P * (lo + 4294967296 * hi') = P * W := by rw [e3]
  clear e3
  grind
theorem dshl_end {xs zs : List Nat} {n : Nat} (h : DShlInv xs n xs.length zs) : dv 4294967296 zs = dv 4294967296 xs * 2 ^ n := by
  have := h.1
  rwa [List.take_length] at this

/-- A digit of a number that is shifted to the right, out of two digits of it. -/
theorem shr_digit {xs : List Nat} (h : Ds 4294967296 xs) (n i : Nat) :
    (xs.getD (i + n / 32) 0 + 4294967296 * xs.getD (i + n / 32 + 1) 0) / 2 ^ (n % 32) % 4294967296 = dv 4294967296 xs / 2 ^ n / 4294967296 ^ i % 4294967296 := by
  rw [← dv_digit h (by omega) (i + n / 32), ← dv_digit h (by omega) (i + n / 32 + 1)]
  have e0 : dv 4294967296 xs / 2 ^ n / 4294967296 ^ i = dv 4294967296 xs / 4294967296 ^ (i + n / 32) / 2 ^ (n % 32) := by
    rw [Nat.div_div_eq_div_mul, Nat.div_div_eq_div_mul]
    congr 1
    rw [Nat.pow_add, pow32 (n / 32), show (2 : Nat) ^ n = 2 ^ (32 * (n / 32)) * 2 ^ (n % 32) by rw [← Nat.pow_add]; congr 1; omega]
    generalize 4294967296 ^ i = P
    generalize 2 ^ (32 * (n / 32)) = Q
    generalize 2 ^ (n % 32) = R
    grind
  rw [e0, Nat.pow_succ, ← Nat.div_div_eq_div_mul]
  generalize dv 4294967296 xs / 4294967296 ^ (i + n / 32) = q
  have hr : n % 32 < 32 := Nat.mod_lt _ (by omega)
  generalize n % 32 = r at *
  have e1 : q = (q % 4294967296 + 4294967296 * (q / 4294967296 % 4294967296)) + 2 ^ r * (4294967296 * (2 ^ (32 - r) * (q / 4294967296 / 4294967296))) := by
    have a := Nat.mod_add_div q 4294967296
    have b := Nat.mod_add_div (q / 4294967296) 4294967296
    have e3 : 2 ^ r * (4294967296 * (2 ^ (32 - r) * (q / 4294967296 / 4294967296))) = 4294967296 * (4294967296 * (q / 4294967296 / 4294967296)) := by
      have : (4294967296 : Nat) = 2 ^ r * 2 ^ (32 - r) := by rw [← Nat.pow_add, show r + (32 - r) = 32 by omega]
      generalize q / 4294967296 / 4294967296 = u
      generalize 2 ^ (32 - r) = v at *
      generalize 2 ^ r = p at *
      have h5 : p * (4294967296 * (v * u)) = 4294967296 * ((p * v) * u) := by grind
      rw [h5, ← this]
    rw [e3]
    clear e3 e0
    generalize q / 4294967296 = q1 at *
    generalize q1 / 4294967296 = q2 at *
    generalize q1 % 4294967296 = q3 at *
    generalize q % 4294967296 = q4 at *
    omega
  conv => rhs; rw [e1]
  rw [Nat.add_mul_div_left _ _ (Nat.two_pow_pos r), Nat.add_mul_mod_self_left]
theorem shr_end {xs zs : List Nat} {n : Nat} (h : Ds 4294967296 xs) (hz : zs.length = xs.length - n / 32) (hs : n / 32 ≤ xs.length)
    (hd : ∀ i, i < zs.length → zs.getD i 0 = (xs.getD (i + n / 32) 0 + 4294967296 * xs.getD (i + n / 32 + 1) 0) / 2 ^ (n % 32) % 4294967296) : dv 4294967296 zs = dv 4294967296 xs / 2 ^ n := by
  refine dv_of_digits (fun i hi => by rw [hd i hi, shr_digit h]) ?_
  rw [hz]
  refine Nat.div_lt_of_lt_mul ?_
  refine Nat.lt_of_lt_of_le (dv_lt _ h) ?_
  rw [pow32, pow32, ← Nat.pow_add]
  exact Nat.pow_le_pow_right (by omega) (by omega)

/-- Bytes, i of them gathered to digits of 32 bits, the last byte first. -/
def FromInv (bs : List Nat) (i : Nat) (zs : List Nat) : Prop := dv 4294967296 zs = dv 256 (bs.take i)
theorem pow256 (i : Nat) : (256 : Nat) ^ i = 4294967296 ^ (i / 4) * 2 ^ (8 * (i % 4)) := by
  rw [show (256 : Nat) = 2 ^ 8 by decide, pow32, ← Nat.pow_mul, ← Nat.pow_add]
  congr 1
  omega
theorem from_carry {bs zs : List Nat} {i : Nat} (h : FromInv bs i zs) (hb : Ds 256 bs) (hz : Ds 4294967296 zs) (hi : i ≤ bs.length) : zs.getD (i / 4) 0 < 2 ^ (8 * (i % 4)) := by
  rw [← dv_digit hz (by omega)]
  refine Nat.lt_of_le_of_lt (Nat.mod_le _ _) (Nat.div_lt_of_lt_mul ?_)
  rw [h, ← pow256]
  exact dv_take_lt hb i hi
theorem from_step {bs zs : List Nat} {i : Nat} (h : FromInv bs i zs) (hi : i < bs.length) (hz : i / 4 < zs.length) :
    FromInv bs (i + 1) (zs.set (i / 4) (zs.getD (i / 4) 0 + bs.getD i 0 * 2 ^ (8 * (i % 4)))) := by
  unfold FromInv at *
  have e := dv_set (B := 4294967296) zs (i / 4) (zs.getD (i / 4) 0 + bs.getD i 0 * 2 ^ (8 * (i % 4))) hz
  rw [dv_take_succ bs i hi, ← h, pow256]
  rw [Nat.mul_add] at e
  have e2 : 4294967296 ^ (i / 4) * (bs.getD i 0 * 2 ^ (8 * (i % 4))) = 4294967296 ^ (i / 4) * 2 ^ (8 * (i % 4)) * bs.getD i 0 := by
    rw [Nat.mul_comm (bs.getD i 0), Nat.mul_assoc]
  omega
theorem from_lo {b m : Nat} (hb : b < 256) (hm : m < 4) : b * 2 ^ (8 * m) % 2 ^ (8 * m) = 0 ∧ b * 2 ^ (8 * m) < 4294967296 ∧ ∀ z, z < 2 ^ (8 * m) → z + b * 2 ^ (8 * m) < 4294967296 := by
  refine ⟨Nat.mul_mod_left _ _, ?_, fun z hz => ?_⟩ <;> (have h4 : m = 0 ∨ m = 1 ∨ m = 2 ∨ m = 3 := by omega) <;> rcases h4 with h | h | h | h <;> subst h <;> simp at * <;> omega
theorem rev_get (bs : List Nat) (i : Nat) (hi : i < bs.length) : bs.reverse.getD i 0 = bs.getD (bs.length - 1 - i) 0 := by
  rw [List.getD_eq_getElem?_getD, List.getElem?_reverse hi, ← List.getD_eq_getElem?_getD]

/-- Within a row, from place i on, less q times ys: k digits done; c is to be taken away beyond. -/
def LessInv (xs ys : List Nat) (i q k c : Nat) (zs : List Nat) : Prop :=
  dv 4294967296 zs + 4294967296 ^ i * (q * dv 4294967296 (ys.take k)) = dv 4294967296 xs + 4294967296 ^ (i + k) * c ∧ ∀ j, i + k ≤ j → zs.getD j 0 = xs.getD j 0
theorem less_step {xs ys zs : List Nat} {i q k c b x lo hi r b' : Nat} (h : LessInv xs ys i q k (c + b) zs) (hk : i + k < zs.length)
    (hx : zs.getD (i + k) 0 = x) (hm : lo + 4294967296 * hi = c + q * ys.getD k 0) (hr : r + (lo + b) = x + 4294967296 * b') : LessInv xs ys i q (k + 1) (hi + b') (zs.set (i + k) r) := by
  obtain ⟨h1, h2⟩ := h
  refine ⟨?_, fun j hj => by rw [getD_set_ne (by omega)]; exact h2 j (by omega)⟩
  have e1 := dv_set (B := 4294967296) zs (i + k) r hk
  rw [hx] at e1
  rw [dv_take_next, ← Nat.add_assoc, Nat.pow_succ]
  rw [Nat.pow_add] at e1 h1 ⊢
  generalize 4294967296 ^ i = I at *
  generalize 4294967296 ^ k = J at *
  generalize ys.getD k 0 = y at *
  generalize dv 4294967296 (zs.set (i + k) r) = Z' at *
  generalize dv 4294967296 zs = Z at *
  generalize dv 4294967296 (ys.take k) = Y at *
  generalize dv 4294967296 xs = X at *
  have f1 : I * J * (lo + 4294967296 * hi) = I * J * (c + q * y) := by rw [hm]
  have f2 : I * J * (r + (lo + b)) = I * J * (x + 4294967296 * b') := by rw [hr]
  clear h2 hk hx hm hr
  grind
/-- Within a row, from place i on, and ys: k digits done; c is carried. -/
def BackInv (xs ys : List Nat) (i k c : Nat) (zs : List Nat) : Prop :=
  dv 4294967296 zs + 4294967296 ^ (i + k) * c = dv 4294967296 xs + 4294967296 ^ i * dv 4294967296 (ys.take k) ∧ ∀ j, i + k ≤ j → zs.getD j 0 = xs.getD j 0
theorem back_step {xs ys zs : List Nat} {i k c s : Nat} (h : BackInv xs ys i k c zs) (hk : i + k < zs.length) (hs : s = zs.getD (i + k) 0 + c + ys.getD k 0) : BackInv xs ys i (k + 1) (s / 4294967296) (zs.set (i + k) (s % 4294967296)) := by
  obtain ⟨h1, h2⟩ := h
  refine ⟨?_, fun j hj => by rw [getD_set_ne (by omega)]; exact h2 j (by omega)⟩
  have e1 := dv_set (B := 4294967296) zs (i + k) (s % 4294967296) hk
  have e2 := Nat.mod_add_div s 4294967296
  rw [dv_take_next, ← Nat.add_assoc, Nat.pow_succ]
  rw [Nat.pow_add] at e1 h1 ⊢
  generalize 4294967296 ^ i = I at *
  generalize 4294967296 ^ k = J at *
  generalize ys.getD k 0 = y at *
  generalize zs.getD (i + k) 0 = z at *
  generalize dv 4294967296 (zs.set (i + k) (s % 4294967296)) = Z' at *
  generalize s % 4294967296 = lo at *
  generalize s / 4294967296 = hi at *
  generalize dv 4294967296 zs = Z at *
  generalize dv 4294967296 (ys.take k) = Y at *
  generalize dv 4294967296 xs = X at *
  have f1 : I * J * (lo + 4294967296 * hi) = I * J * (z + c + y) := by rw [e2, hs]
  clear h2 hk e2 hs
  grind
end Go.Proofs.Ytihffojljbgpcaa
