/- Plain arithmetic of the reference's long division with digits of 32 bits. No program is named here. -/
import Derived.Test.YtihffojljbgpcaaDig2
namespace Go.Proofs.Ytihffojljbgpcaa

/-- A digit that is guessed by the highest digits is not below the quotient's. -/
theorem rguess_ge {zs ds : List Nat} {i n : Nat} (hd : Ds 4294967296 ds) (hz : Ds 4294967296 zs) (hn : ds.length = n) (hn0 : 0 < n) (hi : i + n < zs.length) (ht : 0 < ds.getD (n - 1) 0)
    (hlt : dv 4294967296 zs < dv 4294967296 ds * 4294967296 ^ (i + 1)) :
    dv 4294967296 zs / (dv 4294967296 ds * 4294967296 ^ i) ≤ (zs.getD (i + n) 0 * 4294967296 + zs.getD (i + n - 1) 0) / ds.getD (n - 1) 0 ∧ dv 4294967296 zs / (dv 4294967296 ds * 4294967296 ^ i) ≤ 4294967295 := by
  have hD : dv 4294967296 ds < 4294967296 ^ n := by rw [← hn]; exact dv_lt _ hd
  have hDp : 0 < dv 4294967296 ds * 4294967296 ^ i := by
    rcases Nat.eq_zero_or_pos (dv 4294967296 ds) with h | h
    · rw [h] at hlt; simp at hlt
    · exact Nat.mul_pos h (Nat.pow_pos (by omega))
  constructor
  · rw [Nat.le_div_iff_mul_le ht]
    obtain ⟨v, rfl⟩ : ∃ v, n = v + 1 := ⟨n - 1, by omega⟩
    rw [show v + 1 - 1 = v by omega] at *
    rw [show i + (v + 1) - 1 = i + v by omega]
    have hbig : dv 4294967296 zs < 4294967296 ^ (i + v + 2) := by
      refine Nat.lt_of_lt_of_le hlt ?_
      rw [show (4294967296 : Nat) ^ (i + v + 2) = 4294967296 ^ (v + 1) * 4294967296 ^ (i + 1) by rw [← Nat.pow_add]; congr 1; omega]
      exact Nat.mul_le_mul_right _ (Nat.le_of_lt hD)
    have e1 := dv_split (B := 4294967296) zs (i + v) (by omega)
    rw [dv_drop_get zs (i + v) (by omega), dv_drop_get zs (i + v + 1) (by omega)] at e1
    have hz0 : dv 4294967296 (zs.drop (i + v + 1 + 1)) = 0 := dv_zero _ fun j => by
      have := dv_tail_zero (by omega) hbig (show i + v + 2 ≤ i + v + 2 + j by omega)
      rw [List.getD_eq_getElem?_getD] at this ⊢
      rw [List.getElem?_drop, show i + v + 1 + 1 + j = i + v + 2 + j by omega]; exact this
    rw [hz0] at e1
    have hlow := dv_take_lt hz (i + v) (by omega)
    have e2 := dv_take_succ (B := 4294967296) ds v (by omega)
    rw [← hn, List.take_length] at e2
    have hq := Nat.div_mul_le_self (dv 4294967296 zs) (dv 4294967296 ds * 4294967296 ^ i)
    rw [show i + (v + 1) = i + v + 1 by omega]
    generalize dv 4294967296 zs / (dv 4294967296 ds * 4294967296 ^ i) = g at *
    apply Nat.le_of_lt_succ
    apply Nat.lt_of_mul_lt_mul_left (a := 4294967296 ^ (i + v))
    have h1 : 4294967296 ^ (i + v) * (g * ds.getD v 0) ≤ g * (dv 4294967296 ds * 4294967296 ^ i) := by
      rw [e2, Nat.pow_add]
      generalize 4294967296 ^ i = I
      generalize 4294967296 ^ v = V
      generalize ds.getD v 0 = t
      generalize dv 4294967296 (ds.take v) = L
      have : g * ((L + V * t) * I) = I * V * (g * t) + g * (L * I) := by grind
      omega
    generalize 4294967296 ^ (i + v) = P at *
    generalize zs.getD (i + v) 0 = z0 at *
    generalize zs.getD (i + v + 1) 0 = z1 at *
    have h2 : P * (z1 * 4294967296 + z0).succ = P * (z0 + 4294967296 * (z1 + 4294967296 * 0)) + P := by rw [Nat.mul_succ]; congr 2; omega
    omega
  · have : dv 4294967296 zs / (dv 4294967296 ds * 4294967296 ^ i) < 4294967296 := by
      refine Nat.div_lt_of_lt_mul ?_
      rw [Nat.pow_succ, ← Nat.mul_assoc] at hlt
      exact hlt
    omega
/-- The digit was right. -/
theorem rdigit_right {Z Z1 P D G : Nat} (hD : 0 < D * P) (hge : Z / (D * P) ≤ G) (e : Z1 + P * (G * D) = Z) : Z1 < D * P := by
  have h1 := Nat.div_add_mod Z (D * P)
  have h2 := Nat.mod_lt Z hD
  have h3 : P * (G * D) = D * P * G := by rw [Nat.mul_comm G, ← Nat.mul_assoc, Nat.mul_comm P D]
  have h4 : D * P * (Z / (D * P)) ≤ D * P * G := Nat.mul_le_mul_left _ hge
  omega
/-- The digit was too much: then one less is not below the quotient's. -/
theorem rdigit_wrong {Z Z1 P D G T : Nat} (e : Z1 + P * (G * D) = Z + T) (h1 : Z1 < T) : 1 ≤ G ∧ Z / (D * P) ≤ G - 1 := by
  have h3 : P * (G * D) = D * P * G := by rw [Nat.mul_comm G, ← Nat.mul_assoc, Nat.mul_comm P D]
  have h5 : Z / (D * P) < G := by
    refine Nat.div_lt_of_lt_mul ?_
    rw [h3] at e
    omega
  exact ⟨Nat.lt_of_le_of_lt (Nat.zero_le _) h5, Nat.le_sub_one_of_lt h5⟩
/-- The divisor given back once; the highest digit tells whether it went over. -/
theorem rback_over {cc c2 ds : List Nat} {i n cy : Nat} (hn : ds.length = n) (hd : Ds 4294967296 ds) (hc2 : Ds 4294967296 c2) (hcc : Ds 4294967296 cc)
    (e : dv 4294967296 c2 + 4294967296 ^ (i + n + 1) * cy = dv 4294967296 cc + 4294967296 ^ i * dv 4294967296 ds) (h1 : dv 4294967296 cc < 4294967296 ^ (i + n + 1)) (h2 : dv 4294967296 c2 < 4294967296 ^ (i + n + 1)) :
    (cy = 0 ∧ cc.getD (i + n) 0 ≤ c2.getD (i + n) 0) ∨ (cy = 1 ∧ c2.getD (i + n) 0 < cc.getD (i + n) 0) := by
  have hD : dv 4294967296 ds < 4294967296 ^ n := by rw [← hn]; exact dv_lt _ hd
  have hP : 4294967296 ^ i * dv 4294967296 ds < 4294967296 ^ (i + n) := by
    rw [Nat.pow_add]; exact Nat.mul_lt_mul_of_pos_left hD (Nat.pow_pos (by omega))
  have top : ∀ l : List Nat, Ds 4294967296 l → dv 4294967296 l < 4294967296 ^ (i + n + 1) → l.getD (i + n) 0 = dv 4294967296 l / 4294967296 ^ (i + n) := fun l hl h => by
    rw [← dv_digit hl (by omega) (i + n)]
    exact Nat.mod_eq_of_lt (Nat.div_lt_of_lt_mul (by rwa [← Nat.pow_succ]))
  rw [top cc hcc h1, top c2 hc2 h2]
  rw [Nat.pow_succ] at *
  generalize 4294967296 ^ i * dv 4294967296 ds = D at *
  have hpp : 0 < 4294967296 ^ (i + n) := Nat.pow_pos (by omega)
  generalize 4294967296 ^ (i + n) = P at *
  generalize dv 4294967296 cc = a at *
  generalize dv 4294967296 c2 = b at *
  rcases Nat.eq_zero_or_pos cy with rfl | hcy
  · left
    exact ⟨rfl, Nat.div_le_div_right (by omega)⟩
  · right
    have h3 : cy = 1 := by
      rcases Nat.lt_or_ge cy 2 with h | h
      · omega
      · have := Nat.mul_le_mul_left (P * 4294967296) h; omega
    subst h3
    refine ⟨rfl, ?_⟩
    rw [Nat.div_eq_of_lt (by omega)]
    refine Nat.div_pos ?_ hpp
    omega
/-- Long division: what is done when k digits are still to come. -/
def DivInv (X D k : Nat) (qs zs : List Nat) : Prop := dv 4294967296 qs * D + dv 4294967296 zs = X ∧ dv 4294967296 zs < D * 4294967296 ^ k ∧ ∀ j, j < k → qs.getD j 0 = 0
theorem div_step {X D k G : Nat} {qs zs z1 : List Nat} (h : DivInv X D (k + 1) qs zs) (hk : k < qs.length) (e : dv 4294967296 z1 + 4294967296 ^ k * (G * D) = dv 4294967296 zs) (hlt : dv 4294967296 z1 < D * 4294967296 ^ k) : DivInv X D k (qs.set k G) z1 := by
  obtain ⟨h1, h2, h3⟩ := h
  refine ⟨?_, hlt, fun j hj => by rw [getD_set_ne (by omega)]; exact h3 j (by omega)⟩
  have e1 := dv_set (B := 4294967296) qs k G hk
  rw [h3 k (by omega)] at e1
  generalize 4294967296 ^ k = P at *
  generalize dv 4294967296 (qs.set k G) = Q' at *
  generalize dv 4294967296 qs = Q at *
  clear h2 h3 hlt hk
  have e2 : Q' = Q + P * G := by omega
  subst e2
  grind
theorem div_end {X D : Nat} {qs zs : List Nat} (h : DivInv X D 0 qs zs) : dv 4294967296 qs = X / D ∧ dv 4294967296 zs = X % D := by
  obtain ⟨h1, h2, _⟩ := h
  rw [Nat.pow_zero, Nat.mul_one] at h2
  subst h1
  rw [Nat.mul_comm, Nat.mul_add_div (by omega), Nat.mul_add_mod, Nat.div_eq_of_lt h2, Nat.mod_eq_of_lt h2]
  exact ⟨by omega, rfl⟩
theorem div_shift (a b s : Nat) : a * 2 ^ s / (b * 2 ^ s) = a / b ∧ a * 2 ^ s % (b * 2 ^ s) / 2 ^ s = a % b := by
  have hs := Nat.two_pow_pos s
  refine ⟨Nat.mul_div_mul_right _ _ hs, ?_⟩
  rw [Nat.mul_mod_mul_right, Nat.mul_div_cancel _ hs]
theorem div_start {A B s la : Nat} {ds : List Nat} (hd : Can 4294967296 ds B) (hA : A < 4294967296 ^ la * 2 ^ s) (hs : s ≤ 32) (hl : ds.length ≤ la + 2) (h0 : 0 < ds.length) : A < B * 4294967296 ^ (la + 2 - ds.length) := by
  have h1 := hd.ge h0
  have h2 : A < 4294967296 ^ (la + 1) := by
    refine Nat.lt_of_lt_of_le hA ?_
    rw [Nat.pow_succ]
    exact Nat.mul_le_mul_left _ (by rw [show (4294967296 : Nat) = 2 ^ 32 by decide]; exact Nat.pow_le_pow_right (by omega) hs)
  have h3 : 4294967296 ^ (la + 1) = 4294967296 ^ (ds.length - 1) * 4294967296 ^ (la + 2 - ds.length) := by rw [← Nat.pow_add]; congr 1; omega
  have h4 := Nat.mul_le_mul_right (4294967296 ^ (la + 2 - ds.length)) h1
  omega
/-- The value behind a divisor given back: one less of it is taken away. -/
theorem rback_val {c2 cc Z P D G T cy : Nat} (hG : 1 ≤ G) (e : cc + P * (G * D) = Z + T) (e2 : c2 + T * cy = cc + P * D) : c2 + P * ((G - 1) * D) + T * cy = Z + T := by
  obtain ⟨m, rfl⟩ : ∃ m, G = m + 1 := ⟨G - 1, by omega⟩
  rw [Nat.add_sub_cancel]
  have : P * ((m + 1) * D) = P * (m * D) + P * D := by rw [Nat.succ_mul, Nat.mul_add]
  omega
end Go.Proofs.Ytihffojljbgpcaa
