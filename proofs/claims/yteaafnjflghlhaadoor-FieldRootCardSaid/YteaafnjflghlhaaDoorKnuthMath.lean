/- Plain arithmetic of Knuth's algorithm D: a digit that is guessed by the highest limbs is the quotient's or one more. No program is named here. -/
import Derived.Test.YteaafnjflghlhaaDoorWordMath
import Derived.Test.YteaafnjflghlhaaDoorGuess
import Derived.Test.YteaafnjflghlhaaDoorShift
namespace Go.Proofs.YteaafnjflghlhaaDoor

/-- The guess is not below any digit that fits. -/
theorem guess_ge {n2 n1 n0 d1 d0 q : Nat} (h0 : n0 < 18446744073709551616) (hd : 0 < d1)
    (hq : q < 18446744073709551616) (h : q * (d1 * 18446744073709551616 + d0) ≤ n2 * 340282366920938463463374607431768211456 + n1 * 18446744073709551616 + n0) : q ≤ guessF n2 n1 n0 d1 d0 := by
  unfold guessF
  by_cases hc : d1 ≤ n2
  · rw [if_pos hc]; omega
  · rw [if_neg hc]
    have e := Nat.div_add_mod' (n2 * 18446744073709551616 + n1) d1
    have hr := Nat.mod_lt (n2 * 18446744073709551616 + n1) hd
    generalize (n2 * 18446744073709551616 + n1) % d1 = r at *
    have hqle : q ≤ (n2 * 18446744073709551616 + n1) / d1 := by
      rw [Nat.le_div_iff_mul_le hd]
      rw [Nat.mul_add, ← Nat.mul_assoc] at h
      generalize q * d1 = p at *
      generalize q * d0 = p' at *
      omega
    generalize (n2 * 18446744073709551616 + n1) / d1 = qh at *
    by_cases ht : r * 18446744073709551616 + n0 < qh * d0
    · rw [if_pos ht]
      rcases Nat.lt_or_ge q qh with hlt | hge
      · omega
      · obtain rfl : q = qh := by omega
        rw [Nat.mul_add, ← Nat.mul_assoc] at h
        generalize q * d1 = p at *
        generalize q * d0 = p' at *
        omega
    · rw [if_neg ht]; exact hqle
/-- One less than the guess fits. -/
theorem guess_le {n2 n1 n0 d1 d0 : Nat} (h1 : n1 < 18446744073709551616) (g1 : d1 < 18446744073709551616) (g0 : d0 < 18446744073709551616) (hd : 9223372036854775808 ≤ d1) :
    (guessF n2 n1 n0 d1 d0 - 1) * (d1 * 18446744073709551616 + d0 + 1) ≤ n2 * 340282366920938463463374607431768211456 + n1 * 18446744073709551616 + n0 := by
  unfold guessF
  by_cases hc : d1 ≤ n2
  · rw [if_pos hc]
    omega
  · rw [if_neg hc]
    have e := Nat.div_add_mod' (n2 * 18446744073709551616 + n1) d1
    have hr := Nat.mod_lt (n2 * 18446744073709551616 + n1) (show 0 < d1 by omega)
    have hlt : (n2 * 18446744073709551616 + n1) / d1 < 18446744073709551616 := Nat.div_lt_of_lt_mul (by omega)
    generalize (n2 * 18446744073709551616 + n1) % d1 = r at *
    generalize (n2 * 18446744073709551616 + n1) / d1 = qh at *
    by_cases ht : r * 18446744073709551616 + n0 < qh * d0
    · rw [if_pos ht]
      rcases (show qh ≤ 2 ∨ 2 < qh by omega) with hs | hs
      · rw [show qh - 1 - 1 = 0 by omega]; omega
      · obtain ⟨m, rfl⟩ : ∃ m, qh = m + 2 := ⟨qh - 2, by omega⟩
        rw [show m + 2 - 1 - 1 = m by omega]
        have hm : m * (d0 + 1) ≤ 18446744073709551613 * 18446744073709551616 := Nat.mul_le_mul (by omega) (by omega)
        have e2 : m * (d1 * 18446744073709551616 + d0 + 1) = (m * d1) * 18446744073709551616 + m * (d0 + 1) := by grind
        rw [e2]
        have e3 : (m + 2) * d1 = m * d1 + 2 * d1 := by grind
        rw [e3] at e
        generalize m * d1 = p at *
        generalize m * (d0 + 1) = p' at *
        omega
    · rw [if_neg ht]
      rcases Nat.eq_zero_or_pos qh with rfl | hs
      · omega
      · obtain ⟨m, rfl⟩ : ∃ m, qh = m + 1 := ⟨qh - 1, by omega⟩
        rw [Nat.add_sub_cancel]
        have e2 : m * (d1 * 18446744073709551616 + d0 + 1) = (m * d1) * 18446744073709551616 + m * d0 + m := by grind
        rw [e2]
        have e3 : (m + 1) * d1 = m * d1 + d1 := by grind
        have e4 : (m + 1) * d0 = m * d0 + d0 := by grind
        rw [e3] at e
        rw [e4] at ht
        generalize m * d1 = p at *
        generalize m * d0 = p' at *
        omega

/-- A digit by its guess. -/
theorem digit_guess {n2 n1 n0 d1 d0 R D B r d : Nat} (h1 : n1 < 18446744073709551616) (h0 : n0 < 18446744073709551616) (g1 : d1 < 18446744073709551616) (g0 : d0 < 18446744073709551616) (hd : 9223372036854775808 ≤ d1)
    (hB : 0 < B) (hR : R = (n2 * 340282366920938463463374607431768211456 + n1 * 18446744073709551616 + n0) * B + r) (hD : D = (d1 * 18446744073709551616 + d0) * B + d) (hr : r < B) (hdd : d < B) (hlt : R < D * 18446744073709551616) :
    R / D ≤ guessF n2 n1 n0 d1 d0 ∧ guessF n2 n1 n0 d1 d0 ≤ R / D + 1 := by
  have hDp : 0 < D := by
    rw [hD]
    have : 1 * 1 ≤ (d1 * 18446744073709551616 + d0) * B := Nat.mul_le_mul (by omega) hB
    omega
  constructor
  · apply guess_ge h0 (by omega)
    · exact Nat.div_lt_of_lt_mul hlt
    · have hq : R / D * D ≤ R := Nat.div_mul_le_self _ _
      generalize R / D = q at *
      apply Nat.le_of_lt_succ
      apply Nat.lt_of_mul_lt_mul_right (a := B)
      have e : q * D = q * (d1 * 18446744073709551616 + d0) * B + q * d := by rw [hD, Nat.mul_add, Nat.mul_assoc]
      rw [Nat.succ_mul]
      omega
  · have h := guess_le (n2 := n2) (n0 := n0) h1 g1 g0 hd
    generalize guessF n2 n1 n0 d1 d0 = g at *
    have hle : g - 1 ≤ R / D := by
      rw [Nat.le_div_iff_mul_le hDp]
      have h2 : (g - 1) * D ≤ (g - 1) * ((d1 * 18446744073709551616 + d0 + 1) * B) := Nat.mul_le_mul_left _ (by rw [hD, Nat.add_mul (_ + _) 1, Nat.one_mul]; omega)
      have h3 := Nat.mul_le_mul_right B h
      rw [← Nat.mul_assoc] at h2
      omega
    omega

theorem vl_zero_get (xs : List Nat) (h : vl xs = 0) (j : Nat) : xs.getD j 0 = 0 := by
  induction xs generalizing j with
  | nil => simp
  | cons x xs ih =>
    simp only [vl] at h
    cases j with
    | zero => simp; omega
    | succ j => simp; simpa using ih (by omega) j
theorem tail_zero {xs : List Nat} {m j : Nat} (h : vl xs < 18446744073709551616 ^ m) (hj : m ≤ j) : xs.getD j 0 = 0 := by
  by_cases hm : m ≤ xs.length
  · have e := val_split xs m hm
    have hz : vl (xs.drop m) = 0 := by
      rcases Nat.eq_zero_or_pos (vl (xs.drop m)) with hz | hp
      · exact hz
      · have := Nat.mul_le_mul_left (18446744073709551616 ^ m) (show 1 ≤ vl (xs.drop m) from hp)
        omega
    have := vl_zero_get _ hz (j - m)
    rw [List.getD_eq_getElem?_getD, List.getElem?_drop, show m + (j - m) = j by omega] at this
    rw [List.getD_eq_getElem?_getD]; exact this
  · rw [List.getD_eq_getElem?_getD, List.getElem?_eq_none (by omega)]; rfl
theorem Lims.take {xs : List Nat} (h : Lims xs) (m : Nat) : Lims (xs.take m) := fun x hx => h x (List.mem_of_mem_take hx)
theorem Lims.drop {xs : List Nat} (h : Lims xs) (m : Nat) : Lims (xs.drop m) := fun x hx => h x (List.mem_of_mem_drop hx)
theorem vl_take_eq {xs : List Nat} {m : Nat} (hm : m ≤ xs.length) (h : ∀ j, m ≤ j → xs.getD j 0 = 0) : vl xs = vl (xs.take m) := by
  rw [val_split xs m hm]
  have : vl (xs.drop m) = 0 := vl_zero _ fun j => by
    have := h (m + j) (by omega)
    rw [List.getD_eq_getElem?_getD] at this ⊢
    rw [List.getElem?_drop]; exact this
  rw [this]; simp
theorem vl_lt_of_tail {xs : List Nat} {m : Nat} (hx : Lims xs) (hm : m ≤ xs.length) (h : ∀ j, m ≤ j → xs.getD j 0 = 0) : vl xs < 18446744073709551616 ^ m := by
  rw [vl_take_eq hm h]
  have := val_lt _ (hx.take m)
  rwa [List.length_take, Nat.min_eq_left hm] at this
theorem vl_take_lt {xs : List Nat} (hx : Lims xs) (m : Nat) (hm : m ≤ xs.length) : vl (xs.take m) < 18446744073709551616 ^ m := by
  have := val_lt _ (hx.take m)
  rwa [List.length_take, Nat.min_eq_left hm] at this
/-- The two highest limbs of w. -/
theorem top_two {ds : List Nat} {w : Nat} (hw : 2 ≤ w) (hl : w ≤ ds.length) : vl (ds.take w) = (ds.getD (w - 1) 0 * 18446744073709551616 + ds.getD (w - 2) 0) * 18446744073709551616 ^ (w - 2) + vl (ds.take (w - 2)) := by
  obtain ⟨v, rfl⟩ : ∃ v, w = v + 2 := ⟨w - 2, by omega⟩
  rw [show v + 2 - 1 = v + 1 by omega, show v + 2 - 2 = v by omega, show v + 2 = v + 1 + 1 by omega, val_take_succ ds (v + 1) (by omega), val_take_succ ds v (by omega), Nat.pow_succ]
  generalize 18446744073709551616 ^ v = P
  grind
theorem top_three {ds : List Nat} {w : Nat} (hw : 2 ≤ w) (hl : w + 1 ≤ ds.length) : vl (ds.take (w + 1)) = (ds.getD w 0 * 340282366920938463463374607431768211456 + ds.getD (w - 1) 0 * 18446744073709551616 + ds.getD (w - 2) 0) * 18446744073709551616 ^ (w - 2) + vl (ds.take (w - 2)) := by
  have h2 := top_two (ds := ds) hw (by omega)
  rw [val_take_succ ds w (by omega), h2]
  obtain ⟨v, rfl⟩ : ∃ v, w = v + 2 := ⟨w - 2, by omega⟩
  rw [show v + 2 - 1 = v + 1 by omega, show v + 2 - 2 = v by omega, show v + 2 = v + 1 + 1 by omega, Nat.pow_succ, Nat.pow_succ]
  generalize 18446744073709551616 ^ v = P
  grind

/-- The digit of place i: what is taken away is too much by at most one divisor. -/
theorem digit_of {zs ds : List Nat} {i w D : Nat} (hz : Lims zs) (hds : Lims ds) (hw : 2 ≤ w) (hl : w ≤ ds.length) (hi : i + w + 1 ≤ zs.length) (hD : D = vl (ds.take w)) (hn : 9223372036854775808 ≤ ds.getD (w - 1) 0)
    (hL : vl zs < D * 18446744073709551616 ^ (i + 1)) :
    vl (zs.drop i) / D ≤ guessF (zs.getD (i + w) 0) (zs.getD (i + w - 1) 0) (zs.getD (i + w - 2) 0) (ds.getD (w - 1) 0) (ds.getD (w - 2) 0) ∧
      guessF (zs.getD (i + w) 0) (zs.getD (i + w - 1) 0) (zs.getD (i + w - 2) 0) (ds.getD (w - 1) 0) (ds.getD (w - 2) 0) ≤ vl (zs.drop i) / D + 1 := by
  have hDl : D < 18446744073709551616 ^ w := by rw [hD]; exact vl_take_lt hds w hl
  have hbig : vl zs < 18446744073709551616 ^ (i + w + 1) := by
    refine Nat.lt_of_lt_of_le hL ?_
    have e : (18446744073709551616 : Nat) ^ (i + w + 1) = 18446744073709551616 ^ w * 18446744073709551616 ^ (i + 1) := by rw [← Nat.pow_add]; congr 1; omega
    rw [e]
    exact Nat.mul_le_mul_right _ (Nat.le_of_lt hDl)
  have hsp := val_split zs i (by omega)
  have hR : vl (zs.drop i) < D * 18446744073709551616 := by
    rw [Nat.pow_succ] at hL
    apply Nat.lt_of_mul_lt_mul_left (a := 18446744073709551616 ^ i)
    generalize 18446744073709551616 ^ i * vl (zs.drop i) = t at *
    have e : 18446744073709551616 ^ i * (D * 18446744073709551616) = D * (18446744073709551616 ^ i * 18446744073709551616) := by rw [Nat.mul_left_comm]
    omega
  have ht : vl (zs.drop i) = vl ((zs.drop i).take (w + 1)) := vl_take_eq (by rw [List.length_drop]; omega) fun j hj => by
    have := tail_zero hbig (show i + w + 1 ≤ i + j by omega)
    rw [List.getD_eq_getElem?_getD] at this ⊢
    rw [List.getElem?_drop]; exact this
  have h3 := top_three (ds := zs.drop i) hw (by rw [List.length_drop]; omega)
  have gd : ∀ j, (zs.drop i).getD j 0 = zs.getD (i + j) 0 := fun j => by rw [List.getD_eq_getElem?_getD, List.getElem?_drop, List.getD_eq_getElem?_getD]
  rw [gd, gd, gd, ← ht, show i + (w - 1) = i + w - 1 by omega, show i + (w - 2) = i + w - 2 by omega] at h3
  have h2 := top_two hw hl
  rw [← hD] at h2
  exact digit_guess (hz.get _) (hz.get _) (hds.get _) (hds.get _) hn (Nat.pow_pos (by omega)) h3 h2 (vl_take_lt (hz.drop i) _ (by rw [List.length_drop]; omega)) (vl_take_lt hds _ (by omega)) hR

/-- In numbers: no borrow. -/
theorem take_ok {L1 L P R low D g : Nat} (hL : L = P * R + low) (hlow : low < P) (hD : 0 < D) (hg : R / D ≤ g) (e : L1 + P * (g * D) = L) : L1 < D * P := by
  have d := Nat.div_add_mod' R D
  have m := Nat.mod_lt R hD
  have hle : g * D ≤ R := by
    apply Nat.le_of_lt_succ
    apply Nat.lt_of_mul_lt_mul_left (a := P)
    rw [Nat.mul_succ]
    omega
  have hq : g = R / D := Nat.le_antisymm ((Nat.le_div_iff_mul_le hD).2 hle) hg
  rw [← hq] at d
  have h1 : P * R = P * (g * D) + P * (R % D) := by rw [← Nat.mul_add, d]
  have h2 : P * (R % D + 1) ≤ P * D := Nat.mul_le_mul_left _ m
  rw [Nat.mul_add] at h2
  rw [Nat.mul_comm D P]
  omega
/-- In numbers: a borrow, and the divisor given back. -/
theorem give_ok {L1 L2 L P R low D g T c : Nat} (hL : L = P * R + low) (hD : 0 < D) (hg : R / D ≤ g) (hg2 : g ≤ R / D + 1) (e : L1 + P * (g * D) = L + T) (h1 : L1 < T) (hT : D * P < T) (h2 : L2 < T) (e2 : L2 + T * c = L1 + P * D) :
    1 ≤ g ∧ L2 + P * ((g - 1) * D) = L ∧ L2 < D * P := by
  have d := Nat.div_add_mod' R D
  have m := Nat.mod_lt R hD
  have hne : g ≠ R / D := by
    intro h
    rw [← h] at d
    have : P * (g * D) ≤ P * R := Nat.mul_le_mul_left _ (by omega)
    omega
  have hq : g = R / D + 1 := by omega
  generalize R / D = q at *
  generalize R % D = t at *
  subst hq
  rw [Nat.add_sub_cancel]
  have a1 : P * ((q + 1) * D) = P * (q * D) + P * D := by rw [Nat.succ_mul, Nat.mul_add]
  have a2 : P * R = P * (q * D) + P * t := by rw [← Nat.mul_add, d]
  have a3 : P * (t + 1) ≤ P * D := Nat.mul_le_mul_left _ m
  rw [Nat.mul_add] at a3
  rw [a1] at e
  rw [Nat.mul_comm D P] at *
  generalize P * (q * D) = A at *
  generalize P * D = Bq at *
  generalize P * t = C at *
  have hc : c = 1 := by
    rcases (show c = 0 ∨ c = 1 ∨ 2 ≤ c by omega) with h | h | h
    · subst h; omega
    · exact h
    · have := Nat.mul_le_mul_left T h
      omega
  subst hc
  refine ⟨by omega, by omega, by omega⟩

/-- One round of Knuth's algorithm, where the guess was right. -/
theorem round_right {zs z1 ds : List Nat} {i w D : Nat} {g : Nat} (hz : Lims zs) (hi : i ≤ zs.length) (hD : 0 < D)
    (hg : vl (zs.drop i) / D ≤ g ∧ g ≤ vl (zs.drop i) / D + 1) (hDs : D = vl (ds.take w)) (e : vl z1 + 18446744073709551616 ^ i * (g * vl (ds.take w)) = vl zs + 18446744073709551616 ^ (i + w + 1) * 0) :
    vl z1 + 18446744073709551616 ^ i * (g * D) = vl zs ∧ vl z1 < D * 18446744073709551616 ^ i := by
  rw [← hDs, Nat.mul_zero, Nat.add_zero] at e
  have hsp := val_split zs i hi
  exact ⟨e, take_ok (by rw [hsp, Nat.add_comm]) (vl_take_lt hz i hi) hD hg.1 e⟩
/-- .. where it was too much by one. -/
theorem round_wrong {zs z1 z2 ds : List Nat} {i w D c : Nat} {g : Nat} (h1 : Lims z1) (h2 : Lims z2) (hi : i + w + 1 ≤ zs.length) (hl1 : z1.length = zs.length) (hl2 : z2.length = zs.length) (hD : 0 < D) (hds : Lims ds) (hw : w ≤ ds.length)
    (hg : vl (zs.drop i) / D ≤ g ∧ g ≤ vl (zs.drop i) / D + 1) (hDs : D = vl (ds.take w)) (hL : vl zs < D * 18446744073709551616 ^ (i + 1))
    (t1 : ∀ j, i + w + 1 ≤ j → z1.getD j 0 = zs.getD j 0) (t2 : ∀ j, i + w + 1 ≤ j → z2.getD j 0 = z1.getD j 0)
    (e : vl z1 + 18446744073709551616 ^ i * (g * vl (ds.take w)) = vl zs + 18446744073709551616 ^ (i + w + 1) * 1) (e2 : vl z2 + 18446744073709551616 ^ (i + w + 1) * c = vl z1 + 18446744073709551616 ^ i * vl (ds.take w)) :
    1 ≤ g ∧ vl z2 + 18446744073709551616 ^ i * ((g - 1) * D) = vl zs ∧ vl z2 < D * 18446744073709551616 ^ i := by
  have hDl : D < 18446744073709551616 ^ w := by rw [hDs]; exact vl_take_lt hds w hw
  have hbig : vl zs < 18446744073709551616 ^ (i + w + 1) := by
    refine Nat.lt_of_lt_of_le hL ?_
    have e : (18446744073709551616 : Nat) ^ (i + w + 1) = 18446744073709551616 ^ w * 18446744073709551616 ^ (i + 1) := by rw [← Nat.pow_add]; congr 1; omega
    rw [e]
    exact Nat.mul_le_mul_right _ (Nat.le_of_lt hDl)
  have z0 : ∀ j, i + w + 1 ≤ j → zs.getD j 0 = 0 := fun j hj => tail_zero hbig hj
  have b1 : vl z1 < 18446744073709551616 ^ (i + w + 1) := vl_lt_of_tail h1 (by omega) fun j hj => by rw [t1 j hj]; exact z0 j hj
  have b2 : vl z2 < 18446744073709551616 ^ (i + w + 1) := vl_lt_of_tail h2 (by omega) fun j hj => by rw [t2 j hj, t1 j hj]; exact z0 j hj
  have hsp := val_split zs i (by omega)
  have hT : D * 18446744073709551616 ^ i < 18446744073709551616 ^ (i + w + 1) := by
    have e : (18446744073709551616 : Nat) ^ (i + w + 1) = 18446744073709551616 ^ w * 18446744073709551616 ^ i * 18446744073709551616 := by rw [← Nat.pow_add, ← Nat.pow_succ]; congr 1; omega
    rw [e]
    have := Nat.mul_lt_mul_of_pos_right hDl (show 0 < 18446744073709551616 ^ i from Nat.pow_pos (by omega))
    omega
  rw [← hDs] at e e2
  rw [Nat.mul_one] at e
  exact give_ok (by rw [hsp, Nat.add_comm]) hD hg.1 hg.2 e b1 hT b2 e2
/-- What divideByLimbs has done when k digits are still to come: N is D times the digits so far and what is left. -/
def KnuthInv (N D k : Nat) (qs zs : List Nat) : Prop := N = D * vl qs + vl zs ∧ vl zs < D * 18446744073709551616 ^ k ∧ ∀ j, j < k → qs.getD j 0 = 0
theorem knuth_step {N D i q : Nat} {qs zs z2 : List Nat} (h : KnuthInv N D (i + 1) qs zs) (hq : i < qs.length) (e : vl z2 + 18446744073709551616 ^ i * (q * D) = vl zs) (hl : vl z2 < D * 18446744073709551616 ^ i) : KnuthInv N D i (qs.set i q) z2 := by
  obtain ⟨h1, _, h3⟩ := h
  refine ⟨?_, hl, fun j hj => ?_⟩
  · have e1 := val_set qs i q hq
    rw [h3 i (by omega), Nat.mul_zero, Nat.add_zero] at e1
    rw [e1, h1, ← e, Nat.mul_add]
    generalize 18446744073709551616 ^ i = P
    have : P * (q * D) = D * (P * q) := by rw [← Nat.mul_assoc, Nat.mul_comm]
    rw [this]
    omega
  · rw [List.getD_eq_getElem?_getD, List.getElem?_set_ne (by omega), ← List.getD_eq_getElem?_getD]
    exact h3 j (by omega)
end Go.Proofs.YteaafnjflghlhaaDoor
/- Plain arithmetic of Knuth's algorithm D: both numbers shifted ahead of it, the rest shifted back. No program is named here. -/
namespace Go.Proofs.YteaafnjflghlhaaDoor

/-- Eight limbs shifted by s bits into nine. -/
theorem shl9 (a0 a1 a2 a3 a4 a5 a6 a7 s : Nat) (hs : s ≤ 63) :
    vl [shlLimb [a0, a1, a2, a3, a4, a5, a6, a7] 0 s 0, shlLimb [a0, a1, a2, a3, a4, a5, a6, a7] 0 s 1, shlLimb [a0, a1, a2, a3, a4, a5, a6, a7] 0 s 2, shlLimb [a0, a1, a2, a3, a4, a5, a6, a7] 0 s 3, shlLimb [a0, a1, a2, a3, a4, a5, a6, a7] 0 s 4,
      shlLimb [a0, a1, a2, a3, a4, a5, a6, a7] 0 s 5, shlLimb [a0, a1, a2, a3, a4, a5, a6, a7] 0 s 6, shlLimb [a0, a1, a2, a3, a4, a5, a6, a7] 0 s 7, shlLimb [a0, a1, a2, a3, a4, a5, a6, a7] 0 s 8] = vl [a0, a1, a2, a3, a4, a5, a6, a7] * 2 ^ s := by
  have p0 := shl_parts a0 s hs
  have p1 := shl_parts a1 s hs
  have p2 := shl_parts a2 s hs
  have p3 := shl_parts a3 s hs
  have p4 := shl_parts a4 s hs
  have p5 := shl_parts a5 s hs
  have p6 := shl_parts a6 s hs
  have p7 := shl_parts a7 s hs
  simp [shlLimb, vl]
  generalize a0 / 2 ^ (64 - s) = h0 at *
  generalize a1 / 2 ^ (64 - s) = h1 at *
  generalize a2 / 2 ^ (64 - s) = h2 at *
  generalize a3 / 2 ^ (64 - s) = h3 at *
  generalize a4 / 2 ^ (64 - s) = h4 at *
  generalize a5 / 2 ^ (64 - s) = h5 at *
  generalize a6 / 2 ^ (64 - s) = h6 at *
  generalize a7 / 2 ^ (64 - s) = h7 at *
  generalize a0 * 2 ^ s % 18446744073709551616 = l0 at *
  generalize a1 * 2 ^ s % 18446744073709551616 = l1 at *
  generalize a2 * 2 ^ s % 18446744073709551616 = l2 at *
  generalize a3 * 2 ^ s % 18446744073709551616 = l3 at *
  generalize a4 * 2 ^ s % 18446744073709551616 = l4 at *
  generalize a5 * 2 ^ s % 18446744073709551616 = l5 at *
  generalize a6 * 2 ^ s % 18446744073709551616 = l6 at *
  generalize a7 * 2 ^ s % 18446744073709551616 = l7 at *
  generalize 2 ^ s = P at *
  grind

/-- The divisor, shifted: its highest limb is full. -/
theorem norm_top {ds es : List Nat} {w s : Nat} (hds : Lims ds) (hes : Lims es) (hw : 1 ≤ w) (htop : IsTop ds w) (hl : w ≤ es.length) (hz : IsLz (ds.getD (w - 1) 0) s) (he : vl es = vl ds * 2 ^ s) :
    vl es < 18446744073709551616 ^ w ∧ 9223372036854775808 ≤ es.getD (w - 1) 0 ∧ vl es = vl (es.take w) := by
  obtain ⟨v, rfl⟩ : ∃ v, w = v + 1 := ⟨w - 1, by omega⟩
  rw [Nat.add_sub_cancel] at *
  obtain ⟨z1, z2, z3⟩ := hz
  have hd := vl_top htop
  rw [val_take_succ ds v htop.1] at hd
  have hlow := vl_take_lt hds v (Nat.le_of_succ_le htop.1)
  have h64 : (2 : Nat) ^ (64 - s) * 2 ^ s = 18446744073709551616 := by rw [← Nat.pow_add, show 64 - s + s = 64 by omega]
  generalize ds.getD v 0 = y at *
  have hy : (y + 1) * 2 ^ s ≤ 18446744073709551616 := by
    rw [← h64] at z2 ⊢
    exact Nat.mul_le_mul_right _ (Nat.lt_of_mul_lt_mul_right z2)
  have hlt : vl es < 18446744073709551616 ^ (v + 1) := by
    rw [he, Nat.pow_succ]
    generalize 18446744073709551616 ^ v = P at *
    have h1 : vl ds + 1 ≤ P * (y + 1) := by rw [hd, Nat.mul_add]; omega
    have h2 := Nat.mul_le_mul_right (2 ^ s) h1
    have h3 := Nat.mul_le_mul_left P hy
    rw [Nat.mul_assoc] at h2
    rw [Nat.add_mul] at h2
    have := Nat.two_pow_pos s
    omega
  have heq : vl es = vl (es.take (v + 1)) := vl_take_eq hl fun j hj => tail_zero hlt hj
  refine ⟨hlt, ?_, heq⟩
  rw [val_take_succ es v (by omega)] at heq
  have hlow2 := vl_take_lt hes v (by omega)
  generalize es.getD v 0 = t at *
  generalize 18446744073709551616 ^ v = P at *
  have h1 : P * (y * 2 ^ s) ≤ vl es := by rw [he, hd, Nat.add_mul, Nat.mul_assoc]; omega
  have h2 : P * 9223372036854775808 ≤ P * (y * 2 ^ s) := Nat.mul_le_mul_left _ z3
  have h3 : P * 9223372036854775808 < P * (t + 1) := by rw [Nat.mul_add]; omega
  have := Nat.lt_of_mul_lt_mul_left h3
  omega

/-- Limb j of zs shifted back by s bits. -/
def shrLimb (zs : List Nat) (s j : Nat) : Nat := zs.getD j 0 / 2 ^ s + zs.getD (j + 1) 0 * 2 ^ (64 - s) % 18446744073709551616
theorem shr_part (x s : Nat) (hs : s ≤ 63) : (x * 2 ^ (64 - s) % 18446744073709551616) * 2 ^ s = 18446744073709551616 * (x % 2 ^ s) ∧ x = 2 ^ s * (x / 2 ^ s) + x % 2 ^ s := by
  refine ⟨?_, (Nat.div_add_mod _ _).symm⟩
  have h64 : (18446744073709551616 : Nat) = 2 ^ (64 - s) * 2 ^ s := by rw [← Nat.pow_add, show 64 - s + s = 64 by omega]
  have e : x * 2 ^ (64 - s) % 18446744073709551616 = 2 ^ (64 - s) * (x % 2 ^ s) := by
    conv => lhs; rw [h64]
    rw [Nat.mul_comm x, Nat.mul_mod_mul_left]
  rw [e, Nat.mul_right_comm, ← h64]
theorem shr4 (z0 z1 z2 z3 z4 s r : Nat) (hs : s ≤ 63) (h4 : z4 = 0) (h : vl [z0, z1, z2, z3] = r * 2 ^ s) :
    vl [shrLimb [z0, z1, z2, z3, z4] s 0, shrLimb [z0, z1, z2, z3, z4] s 1, shrLimb [z0, z1, z2, z3, z4] s 2, shrLimb [z0, z1, z2, z3, z4] s 3] = r := by
  obtain ⟨p1, q1⟩ := shr_part z1 s hs
  obtain ⟨p2, q2⟩ := shr_part z2 s hs
  obtain ⟨p3, q3⟩ := shr_part z3 s hs
  have q0 := (Nat.div_add_mod z0 (2 ^ s))
  have hP := Nat.two_pow_pos s
  have hz0 : z0 % 2 ^ s = 0 := by
    have e : vl [z0, z1, z2, z3] = z0 + 2 ^ s * (2 ^ (64 - s) * vl [z1, z2, z3]) := by
      rw [← Nat.mul_assoc, ← Nat.pow_add, show s + (64 - s) = 64 by omega]; rfl
    rw [e] at h
    have := congrArg (· % 2 ^ s) h
    simpa [Nat.add_mul_mod_self_left] using this
  subst h4
  apply Nat.eq_of_mul_eq_mul_right hP
  rw [← h]
  simp [shrLimb, vl]
  rw [hz0] at q0
  generalize z0 / 2 ^ s = u0 at *
  generalize z1 / 2 ^ s = u1 at *
  generalize z2 / 2 ^ s = u2 at *
  generalize z3 / 2 ^ s = u3 at *
  generalize z1 * 2 ^ (64 - s) % 18446744073709551616 = c1 at *
  generalize z2 * 2 ^ (64 - s) % 18446744073709551616 = c2 at *
  generalize z3 * 2 ^ (64 - s) % 18446744073709551616 = c3 at *
  generalize z1 % 2 ^ s = t1 at *
  generalize z2 % 2 ^ s = t2 at *
  generalize z3 % 2 ^ s = t3 at *
  generalize 2 ^ s = P at *
  clear h hs hz0
  grind
end Go.Proofs.YteaafnjflghlhaaDoor
