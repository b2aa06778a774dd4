/- Plain arithmetic on lists of digits of any base: the number that a list of digits is, the lowest first; the one list without zeros at its end. No program is named here. -/
namespace Go.Proofs.Ytihffojljbgpcaa

/-- The number of a list of digits of base B, the lowest first. -/
def dv (B : Nat) : List Nat → Nat
  | [] => 0
  | x :: r => x + B * dv B r
/-- Each digit is below the base. -/
def Ds (B : Nat) (xs : List Nat) : Prop := ∀ x ∈ xs, x < B
/-- The list without zeros at its end. -/
def Can (B : Nat) (xs : List Nat) (n : Nat) : Prop := Ds B xs ∧ dv B xs = n ∧ (0 < xs.length → xs.getD (xs.length - 1) 0 ≠ 0)

section
variable {B : Nat}
theorem Ds.nil : Ds B [] := fun _ h => by cases h
theorem Ds.cons {x : Nat} {xs : List Nat} (h : Ds B (x :: xs)) : x < B ∧ Ds B xs := ⟨h x List.mem_cons_self, fun y hy => h y (List.mem_cons_of_mem _ hy)⟩
theorem Ds.mk {x : Nat} {xs : List Nat} (h : x < B) (k : Ds B xs) : Ds B (x :: xs) := fun y hy => by
  rcases List.mem_cons.1 hy with rfl | hy
  · exact h
  · exact k y hy
theorem Ds.set {cs : List Nat} (h : Ds B cs) (k v : Nat) (hv : v < B) : Ds B (cs.set k v) := by
  intro x hx
  rcases List.mem_or_eq_of_mem_set hx with h1 | h1
  · exact h x h1
  · exact h1 ▸ hv
theorem Ds.get {cs : List Nat} (h : Ds B cs) (hB : 0 < B) (k : Nat) : cs.getD k 0 < B := by
  by_cases hk : k < cs.length
  · simp [List.getElem?_eq_getElem hk]
    exact h _ (List.getElem_mem hk)
  · simp [List.getElem?_eq_none (Nat.le_of_not_lt hk), hB]
theorem Ds.take {xs : List Nat} (h : Ds B xs) (m : Nat) : Ds B (xs.take m) := fun x hx => h x (List.mem_of_mem_take hx)
theorem Ds.drop {xs : List Nat} (h : Ds B xs) (m : Nat) : Ds B (xs.drop m) := fun x hx => h x (List.mem_of_mem_drop hx)
theorem Ds.zeros (hB : 0 < B) (n : Nat) : Ds B (List.replicate n 0) := fun x hx => by rw [List.eq_of_mem_replicate hx]; exact hB
theorem Ds.append {xs ys : List Nat} (h : Ds B xs) (k : Ds B ys) : Ds B (xs ++ ys) := fun x hx => (List.mem_append.1 hx).elim (h x) (k x)
theorem Ds.reverse {xs : List Nat} (h : Ds B xs) : Ds B xs.reverse := fun x hx => h x (List.mem_reverse.1 hx)

theorem dv_zeros (n : Nat) : dv B (List.replicate n 0) = 0 := by
  induction n with
  | zero => rfl
  | succ n ih => simp [List.replicate_succ, dv, ih]
theorem dv_append (xs ys : List Nat) : dv B (xs ++ ys) = dv B xs + B ^ xs.length * dv B ys := by
  induction xs with
  | nil => simp [dv]
  | cons x xs ih =>
    simp only [List.cons_append, dv, ih, List.length_cons, Nat.pow_succ]
    generalize B ^ xs.length = P
    grind
theorem dv_set (cs : List Nat) (k v : Nat) (h : k < cs.length) : dv B (cs.set k v) + B ^ k * cs.getD k 0 = dv B cs + B ^ k * v := by
  induction cs generalizing k with
  | nil => simp at h
  | cons c cs ih =>
    cases k with
    | zero => simp [dv]; omega
    | succ k =>
      have := ih k (by simpa using h)
      simp only [List.set_cons_succ, dv, List.getD_cons_succ, Nat.pow_succ] at *
      generalize B ^ k = P at *
      grind
theorem dv_take_succ (bs : List Nat) (k : Nat) (h : k < bs.length) : dv B (bs.take (k + 1)) = dv B (bs.take k) + B ^ k * bs.getD k 0 := by
  induction bs generalizing k with
  | nil => simp at h
  | cons c cs ih =>
    cases k with
    | zero => simp [dv]
    | succ k =>
      have := ih k (by simpa using h)
      simp only [List.take_succ_cons, dv, List.getD_cons_succ, Nat.pow_succ] at *
      rw [this]
      generalize B ^ k = P at *
      grind
theorem dv_split (bs : List Nat) (k : Nat) (h : k ≤ bs.length) : dv B bs = dv B (bs.take k) + B ^ k * dv B (bs.drop k) := by
  conv => lhs; rw [← List.take_append_drop k bs]
  rw [dv_append, List.length_take, Nat.min_eq_left h]
theorem dv_lt (cs : List Nat) (h : Ds B cs) : dv B cs < B ^ cs.length := by
  induction cs with
  | nil => simp [dv]
  | cons c cs ih =>
    have h1 := ih h.cons.2
    have h2 := h.cons.1
    simp only [dv, List.length_cons, Nat.pow_succ]
    generalize B ^ cs.length = P at *
    have : B * (dv B cs + 1) ≤ B * P := Nat.mul_le_mul_left _ h1
    rw [Nat.mul_add, Nat.mul_one] at this
    rw [Nat.mul_comm P B]
    omega
theorem dv_drop_get (xs : List Nat) (k : Nat) (hk : k < xs.length) : dv B (xs.drop k) = xs.getD k 0 + B * dv B (xs.drop (k + 1)) := by
  rw [List.drop_eq_getElem_cons hk]
  simp [dv, List.getElem?_eq_getElem hk]
theorem dv_zero_get (hB : 0 < B) (xs : List Nat) (h : dv B xs = 0) (j : Nat) : xs.getD j 0 = 0 := by
  induction xs generalizing j with
  | nil => simp
  | cons x xs ih =>
    simp only [dv] at h
    have h2 : dv B xs = 0 := by
      rcases Nat.eq_zero_or_pos (dv B xs) with h0 | hp
      · exact h0
      · have := Nat.mul_le_mul hB hp; omega
    cases j with
    | zero => simp; omega
    | succ j => simp; simpa using ih h2 j
theorem dv_zero (xs : List Nat) (h : ∀ j, xs.getD j 0 = 0) : dv B xs = 0 := by
  induction xs with
  | nil => rfl
  | cons x xs ih =>
    have h0 := h 0
    simp at h0
    subst h0
    simp only [dv]
    rw [ih fun j => by have := h (j + 1); simpa using this]
    simp
theorem dv_take_eq {xs : List Nat} {m : Nat} (hm : m ≤ xs.length) (h : ∀ j, m ≤ j → xs.getD j 0 = 0) : dv B xs = dv B (xs.take m) := by
  rw [dv_split xs m hm, dv_zero (xs.drop m) fun j => by
    have := h (m + j) (by omega)
    rw [List.getD_eq_getElem?_getD] at this ⊢
    rw [List.getElem?_drop]; exact this]
  simp
theorem dv_take_lt {xs : List Nat} (hx : Ds B xs) (m : Nat) (hm : m ≤ xs.length) : dv B (xs.take m) < B ^ m := by
  have := dv_lt _ (hx.take m)
  rwa [List.length_take, Nat.min_eq_left hm] at this
theorem dv_tail_zero {xs : List Nat} {m j : Nat} (hB : 0 < B) (h : dv B xs < B ^ m) (hj : m ≤ j) : xs.getD j 0 = 0 := by
  by_cases hm : m ≤ xs.length
  · have e := dv_split (B := B) xs m hm
    have hz : dv B (xs.drop m) = 0 := by
      rcases Nat.eq_zero_or_pos (dv B (xs.drop m)) with hz | hp
      · exact hz
      · have := Nat.mul_le_mul_left (B ^ m) (show 1 ≤ dv B (xs.drop m) from hp)
        omega
    have := dv_zero_get hB _ hz (j - m)
    rw [List.getD_eq_getElem?_getD, List.getElem?_drop, show m + (j - m) = j by omega] at this
    rw [List.getD_eq_getElem?_getD]; exact this
  · rw [List.getD_eq_getElem?_getD, List.getElem?_eq_none (by omega)]; rfl

/-- Digits of one number are the same, where there are as many. -/
theorem dv_inj {xs ys : List Nat} (hx : Ds B xs) (hy : Ds B ys) (hl : xs.length = ys.length) (h : dv B xs = dv B ys) : xs = ys := by
  induction xs generalizing ys with
  | nil => cases ys with
    | nil => rfl
    | cons y ys => simp at hl
  | cons x xs ih =>
    cases ys with
    | nil => simp at hl
    | cons y ys =>
      simp only [dv] at h
      have h1 := hx.cons.1
      have h2 := hy.cons.1
      have e1 : x = y := by
        have := congrArg (· % B) h
        simpa [Nat.add_mul_mod_self_left, Nat.mod_eq_of_lt h1, Nat.mod_eq_of_lt h2] using this
      subst e1
      have e2 : dv B xs = dv B ys := by
        have hB : 0 < B := by omega
        exact Nat.eq_of_mul_eq_mul_left hB (by omega)
      rw [ih hx.cons.2 hy.cons.2 (by simpa using hl) e2]

theorem Can.nil : Can B [] 0 := ⟨Ds.nil, rfl, fun h => by simp at h⟩
theorem Can.pos {xs : List Nat} {n : Nat} (h : Can B xs n) (hB : 0 < B) : xs = [] ↔ n = 0 := by
  obtain ⟨h1, h2, h3⟩ := h
  constructor
  · rintro rfl; exact h2.symm
  · intro h0
    rcases List.eq_nil_or_concat xs with h | ⟨_, _, h⟩
    · exact h
    · exfalso
      have hl : 0 < xs.length := by rw [h]; simp
      exact h3 hl (dv_zero_get hB _ (by rw [h2, h0]) _)
theorem Can.lt {xs : List Nat} {n : Nat} (h : Can B xs n) : n < B ^ xs.length := by rw [← h.2.1]; exact dv_lt _ h.1
theorem Can.ge {xs : List Nat} {n : Nat} (h : Can B xs n) (hl : 0 < xs.length) : B ^ (xs.length - 1) ≤ n := by
  obtain ⟨h1, h2, h3⟩ := h
  have h4 := h3 hl
  have := dv_take_succ (B := B) xs (xs.length - 1) (by omega)
  rw [show xs.length - 1 + 1 = xs.length by omega, List.take_length, h2] at this
  have h5 : B ^ (xs.length - 1) * 1 ≤ B ^ (xs.length - 1) * xs.getD (xs.length - 1) 0 := Nat.mul_le_mul_left _ (by omega)
  omega
theorem Can.len_le {xs : List Nat} {n m : Nat} (h : Can B xs n) (hB : 1 < B) (hn : n < B ^ m) : xs.length ≤ m := by
  rcases Nat.lt_or_ge m xs.length with hlt | hle
  · have h1 := h.ge (by omega)
    have h2 : B ^ m ≤ B ^ (xs.length - 1) := Nat.pow_le_pow_right (by omega) (by omega)
    omega
  · exact hle
/-- A number has one list of digits without zeros at its end. -/
theorem Can.inj {xs ys : List Nat} {n : Nat} (h : Can B xs n) (k : Can B ys n) (hB : 1 < B) : xs = ys := by
  have h1 := h.len_le hB k.lt
  have h2 := k.len_le hB h.lt
  exact dv_inj h.1 k.1 (by omega) (h.2.1.trans k.2.1.symm)
/-- What trim makes: the first m digits, where the rest are zeros and the last one is not. -/
theorem Can.of_take {xs : List Nat} {m : Nat} (h : Ds B xs) (hm : m ≤ xs.length) (hz : ∀ j, m ≤ j → xs.getD j 0 = 0) (hl : 0 < m → xs.getD (m - 1) 0 ≠ 0) : Can B (xs.take m) (dv B xs) := by
  refine ⟨h.take m, (dv_take_eq hm hz).symm, fun h0 => ?_⟩
  rw [List.length_take, Nat.min_eq_left hm] at h0 ⊢
  have := hl h0
  rw [List.getD_eq_getElem?_getD] at this ⊢
  rwa [List.getElem?_take, if_pos (by omega)]
/-- There is such a list. -/
theorem can_exists (hB : 1 < B) (n : Nat) : ∃ xs, Can B xs n := by
  induction n using Nat.strongRecOn with
  | ind n ih =>
    rcases Nat.eq_zero_or_pos n with rfl | hp
    · exact ⟨[], Can.nil⟩
    · obtain ⟨xs, h1, h2, h3⟩ := ih (n / B) (Nat.div_lt_self hp hB)
      refine ⟨n % B :: xs, Ds.mk (Nat.mod_lt _ (by omega)) h1, by simp only [dv, h2]; exact Nat.mod_add_div n B, fun _ => ?_⟩
      rcases Nat.eq_zero_or_pos xs.length with h0 | h0
      · have : xs = [] := List.eq_nil_of_length_eq_zero h0
        subst this
        simp only [dv] at h2
        have e : n / B = 0 := h2.symm
        have : n < B := by
          rcases Nat.lt_or_ge n B with h | h
          · exact h
          · have := Nat.div_pos h (by omega); omega
        simp [Nat.mod_eq_of_lt this]; omega
      · have := h3 h0
        rw [List.length_cons, show xs.length + 1 - 1 = (xs.length - 1) + 1 by omega, List.getD_cons_succ]
        exact this
theorem Ds.mk' {x : Nat} {xs : List Nat} (k : Ds B xs) (h : x < B) : Ds B (x :: xs) := Ds.mk h k
end
/-- -1, 0, 1. -/
def ordI (a b : Nat) : Int := if a < b then -1 else if b < a then 1 else 0
theorem cmp_digit {B : Nat} {xs ys : List Nat} {k : Nat} (hx : Ds B xs) (hl : xs.length = ys.length) (hk : k < xs.length) (hd : xs.drop (k + 1) = ys.drop (k + 1)) (h : xs.getD k 0 < ys.getD k 0) : dv B xs < dv B ys := by
  have e1 := dv_split (B := B) xs k (by omega)
  have e2 := dv_split (B := B) ys k (by omega)
  rw [dv_drop_get xs k hk] at e1
  rw [dv_drop_get ys k (by omega), ← hd] at e2
  have h1 := dv_take_lt hx k (by omega)
  generalize xs.getD k 0 = x at *
  generalize ys.getD k 0 = y at *
  generalize dv B (xs.drop (k + 1)) = D at *
  rw [e1, e2]
  have h2 : B ^ k * (x + B * D + 1) ≤ B ^ k * (y + B * D) := Nat.mul_le_mul_left _ (by omega)
  rw [Nat.mul_add _ _ 1] at h2
  omega
theorem can_short {B : Nat} {xs ys : List Nat} {a b : Nat} (hB : 0 < B) (ha : Can B xs a) (hb : Can B ys b) (h : xs.length < ys.length) : a < b := by
  have h1 := ha.lt
  have h2 := hb.ge (by omega)
  have h3 : B ^ xs.length ≤ B ^ (ys.length - 1) := Nat.pow_le_pow_right hB (by omega)
  omega
theorem drop_step {xs ys : List Nat} {k : Nat} (hl : xs.length = ys.length) (hk : k < xs.length) (hd : xs.drop (k + 1) = ys.drop (k + 1)) (h : xs.getD k 0 = ys.getD k 0) : xs.drop k = ys.drop k := by
  rw [List.drop_eq_getElem_cons hk, List.drop_eq_getElem_cons (by omega : k < ys.length), hd]
  congr 1
  simpa [List.getElem?_eq_getElem hk, List.getElem?_eq_getElem (by omega : k < ys.length)] using h
/-- A digit of a number. -/
theorem dv_digit {B : Nat} {xs : List Nat} (h : Ds B xs) (hB : 0 < B) (j : Nat) : dv B xs / B ^ j % B = xs.getD j 0 := by
  rcases Nat.lt_or_ge j xs.length with hj | hj
  · rw [dv_split xs j (by omega), Nat.add_mul_div_left _ _ (Nat.pow_pos hB), Nat.div_eq_of_lt (dv_take_lt h j (by omega)), Nat.zero_add, dv_drop_get xs j hj, Nat.add_mul_mod_self_left, Nat.mod_eq_of_lt (h.get hB j)]
  · rw [Nat.div_eq_of_lt (Nat.lt_of_lt_of_le (dv_lt _ h) (Nat.pow_le_pow_right hB hj)), List.getD_eq_getElem?_getD, List.getElem?_eq_none hj]; simp
theorem can_cons {B : Nat} {xs : List Nat} {c n : Nat} (h : Can B xs n) (hc : c < B) (hne : xs ≠ [] ∨ c ≠ 0) : Can B (c :: xs) (c + B * n) := by
  obtain ⟨h1, h2, h3⟩ := h
  refine ⟨Ds.mk hc h1, by simp [dv, h2], fun _ => ?_⟩
  rcases Nat.eq_zero_or_pos xs.length with h0 | h0
  · have : xs = [] := List.eq_nil_of_length_eq_zero h0
    subst this
    simpa using hne
  · have := h3 h0
    rw [List.length_cons, show xs.length + 1 - 1 = (xs.length - 1) + 1 by omega, List.getD_cons_succ]
    exact this
/-- A byte of a number, by its digits of 32 bits. -/
theorem byte_of_digit {xs : List Nat} (h : Ds 4294967296 xs) (i : Nat) : xs.getD (i / 4) 0 / 2 ^ (8 * (i % 4)) % 256 = dv 4294967296 xs / 256 ^ i % 256 := by
  rw [← dv_digit h (by omega) (i / 4)]
  have e : (256 : Nat) ^ i = 4294967296 ^ (i / 4) * 2 ^ (8 * (i % 4)) := by
    rw [show (256 : Nat) = 2 ^ 8 by decide, show (4294967296 : Nat) = 2 ^ 32 by decide, ← Nat.pow_mul, ← Nat.pow_mul, ← Nat.pow_add]
    congr 1
    omega
  rw [e, ← Nat.div_div_eq_div_mul]
  generalize dv 4294967296 xs / 4294967296 ^ (i / 4) = q
  have h4 : i % 4 = 0 ∨ i % 4 = 1 ∨ i % 4 = 2 ∨ i % 4 = 3 := by omega
  rcases h4 with h | h | h | h <;> rw [h] <;> omega
theorem div_pow_succ (n i : Nat) : n / 256 ^ i = n / 256 ^ i % 256 + 256 * (n / 256 ^ (i + 1)) := by
  rw [Nat.pow_succ, ← Nat.div_div_eq_div_mul]
  exact (Nat.mod_add_div _ _).symm
theorem dv_take_next {B : Nat} (xs : List Nat) (k : Nat) : dv B (xs.take (k + 1)) = dv B (xs.take k) + B ^ k * xs.getD k 0 := by
  rcases Nat.lt_or_ge k xs.length with h | h
  · exact dv_take_succ xs k h
  · rw [List.take_of_length_le (by omega), List.take_of_length_le h, List.getD_eq_getElem?_getD, List.getElem?_eq_none h]; simp
theorem dv_take_set {B : Nat} (zs : List Nat) (k z : Nat) (h : k < zs.length) : dv B ((zs.set k z).take (k + 1)) = dv B (zs.take k) + B ^ k * z := by
  rw [dv_take_next, List.take_set_of_le (by omega)]
  congr 2
  simp [h]
/-- A sum, k digits done: c is carried. -/
def SumInv (B : Nat) (xs ys : List Nat) (k c : Nat) (zs : List Nat) : Prop := dv B (zs.take k) + B ^ k * c = dv B (xs.take k) + dv B (ys.take k)
theorem sum_step {B : Nat} {xs ys zs : List Nat} {k c : Nat} (h : SumInv B xs ys k c zs) (hk : k < zs.length) : SumInv B xs ys (k + 1) ((c + xs.getD k 0 + ys.getD k 0) / B) (zs.set k ((c + xs.getD k 0 + ys.getD k 0) % B)) := by
  unfold SumInv at *
  rw [dv_take_set _ _ _ hk, dv_take_next, dv_take_next, Nat.pow_succ]
  have e := Nat.mod_add_div (c + xs.getD k 0 + ys.getD k 0) B
  generalize xs.getD k 0 = x at *
  generalize ys.getD k 0 = y at *
  generalize (c + x + y) % B = r at *
  generalize (c + x + y) / B = q at *
  generalize B ^ k = P at *
  have f : P * (r + B * q) = P * (c + x + y) := by rw [e]
  clear e hk
  grind
theorem sum_end {B : Nat} {xs ys zs : List Nat} {N c : Nat} (hB : 1 < B) (h : SumInv B xs ys (N + 1) c zs) (hz : zs.length = N + 1) (hx : Ds B xs) (hy : Ds B ys) (h1 : xs.length ≤ N) (h2 : ys.length ≤ N) : dv B zs = dv B xs + dv B ys := by
  unfold SumInv at h
  rw [List.take_of_length_le (by omega), List.take_of_length_le (by omega), List.take_of_length_le (by omega)] at h
  have a := Nat.lt_of_lt_of_le (dv_lt _ hx) (Nat.pow_le_pow_right (by omega : 0 < B) h1)
  have b := Nat.lt_of_lt_of_le (dv_lt _ hy) (Nat.pow_le_pow_right (by omega : 0 < B) h2)
  have e : 2 * B ^ N ≤ B ^ (N + 1) := by rw [Nat.pow_succ, Nat.mul_comm]; exact Nat.mul_le_mul_left _ hB
  rcases Nat.eq_zero_or_pos c with hc | hc
  · subst hc; simpa using h
  · have : B ^ (N + 1) * 1 ≤ B ^ (N + 1) * c := Nat.mul_le_mul_left _ hc
    omega
/-- A difference, k digits done: c is borrowed. -/
def DiffInv (B : Nat) (xs ys : List Nat) (k c : Nat) (zs : List Nat) : Prop := dv B (zs.take k) + dv B (ys.take k) = dv B (xs.take k) + B ^ k * c
theorem diff_lt {B : Nat} {xs ys zs : List Nat} {k c : Nat} (h : DiffInv B xs ys k c zs) (hk : k < zs.length) {z : Nat} (hz : z + (c + ys.getD k 0) = xs.getD k 0 + B) : DiffInv B xs ys (k + 1) 1 (zs.set k z) := by
  unfold DiffInv at *
  rw [dv_take_set _ _ _ hk, dv_take_next, dv_take_next, Nat.pow_succ]
  generalize xs.getD k 0 = x at *
  generalize ys.getD k 0 = y at *
  generalize B ^ k = P at *
  have f : P * (z + (c + y)) = P * (x + B) := by rw [hz]
  clear hz hk
  grind
theorem diff_ge {B : Nat} {xs ys zs : List Nat} {k c : Nat} (h : DiffInv B xs ys k c zs) (hk : k < zs.length) {z : Nat} (hz : z + (c + ys.getD k 0) = xs.getD k 0) : DiffInv B xs ys (k + 1) 0 (zs.set k z) := by
  unfold DiffInv at *
  rw [dv_take_set _ _ _ hk, dv_take_next, dv_take_next, Nat.pow_succ]
  generalize xs.getD k 0 = x at *
  generalize ys.getD k 0 = y at *
  generalize B ^ k = P at *
  have f : P * (z + (c + y)) = P * x := by rw [hz]
  clear hz hk
  grind
theorem diff_end {B : Nat} {xs ys zs : List Nat} {c : Nat} (hB : 0 < B) (h : DiffInv B xs ys xs.length c zs) (hz : zs.length = xs.length) (hd : Ds B zs) (hle : dv B ys ≤ dv B xs) (hy : ys.length ≤ xs.length) : dv B zs = dv B xs - dv B ys := by
  unfold DiffInv at h
  rw [List.take_of_length_le (by omega), List.take_of_length_le hy, List.take_length] at h
  have a := dv_lt _ hd
  rw [hz] at a
  have := hB
  rcases Nat.eq_zero_or_pos c with hc | hc
  · subst hc; simp at h; omega
  · have : B ^ xs.length * 1 ≤ B ^ xs.length * c := Nat.mul_le_mul_left _ hc
    omega
/-- A product, i digits of the first number done. -/
def ProdOut (B : Nat) (xs ys : List Nat) (i : Nat) (zs : List Nat) : Prop := dv B zs = dv B (xs.take i) * dv B ys ∧ ∀ j, i + ys.length ≤ j → zs.getD j 0 = 0
/-- .. within it, k digits of the second one done: c is carried. -/
def ProdIn (B : Nat) (xs ys : List Nat) (i k c : Nat) (zs : List Nat) : Prop :=
  dv B zs + B ^ (i + k) * c = dv B (xs.take i) * dv B ys + B ^ i * (xs.getD i 0 * dv B (ys.take k)) ∧ ∀ j, i + ys.length ≤ j → zs.getD j 0 = 0
theorem dprod_start {B : Nat} {xs ys zs : List Nat} {i : Nat} (h : ProdOut B xs ys i zs) : ProdIn B xs ys i 0 0 zs := ⟨by simp [dv, h.1], h.2⟩
theorem getD_set_ne {zs : List Nat} {j k v : Nat} (h : k ≠ j) : (zs.set k v).getD j 0 = zs.getD j 0 := by
  rw [List.getD_eq_getElem?_getD, List.getElem?_set_ne h, ← List.getD_eq_getElem?_getD]
theorem getD_set_self {zs : List Nat} {k v : Nat} (h : k < zs.length) : (zs.set k v).getD k 0 = v := by simp [h]
theorem dprod_step {B : Nat} {xs ys zs : List Nat} {i k c s : Nat} (h : ProdIn B xs ys i k c zs) (hk : k < ys.length) (hz : i + k < zs.length) (hs : s = xs.getD i 0 * ys.getD k 0 + zs.getD (i + k) 0 + c) :
    ProdIn B xs ys i (k + 1) (s / B) (zs.set (i + k) (s % B)) := by
  obtain ⟨h1, h2⟩ := h
  refine ⟨?_, fun j hj => by rw [getD_set_ne (by omega)]; exact h2 j hj⟩
  have e1 := dv_set (B := B) zs (i + k) (s % B) hz
  rw [dv_take_succ ys k hk, ← Nat.add_assoc, Nat.pow_succ]
  have e2 := Nat.mod_add_div s B
  have e3 : B ^ (i + k) = B ^ i * B ^ k := Nat.pow_add _ _ _
  rw [e3] at e1 h1 ⊢
  clear e3
  generalize xs.getD i 0 = x at *
  generalize ys.getD k 0 = y at *
  generalize zs.getD (i + k) 0 = z at *
  generalize s % B = r at *
  generalize s / B = q at *
  generalize B ^ i = I at *
  generalize B ^ k = J at *
  generalize dv B (zs.set (i + k) r) = Z' at *
  generalize dv B zs = Z at *
  generalize dv B (xs.take i) * dv B ys = T at *
  generalize dv B (ys.take k) = Y at *
  have f : I * J * (r + B * q) = I * J * (x * y + z + c) := by rw [e2, hs]
  clear e2 h2 hk hz hs
  grind
theorem dprod_end {B : Nat} {xs ys zs : List Nat} {i c : Nat} (h : ProdIn B xs ys i ys.length c zs) (hi : i < xs.length) (hz : i + ys.length < zs.length) : ProdOut B xs ys (i + 1) (zs.set (i + ys.length) c) := by
  obtain ⟨h1, h2⟩ := h
  refine ⟨?_, fun j hj => by rw [getD_set_ne (by omega)]; exact h2 j (by omega)⟩
  have e1 := dv_set (B := B) zs (i + ys.length) c hz
  rw [h2 _ (Nat.le_refl _)] at e1
  rw [List.take_length] at h1
  rw [dv_take_succ xs i hi, Nat.add_mul, Nat.mul_assoc]
  generalize B ^ (i + ys.length) * c = T at *
  omega
/-- Digits that a number has. -/
theorem dv_of_digits {B : Nat} {zs : List Nat} {m : Nat} (h : ∀ i, i < zs.length → zs.getD i 0 = m / B ^ i % B) (hm : m < B ^ zs.length) : dv B zs = m := by
  have key : ∀ k, k ≤ zs.length → dv B (zs.take k) = m % B ^ k := by
    intro k
    induction k with
    | zero => intro _; simp [dv, Nat.mod_one]
    | succ k ih =>
      intro hk
      rw [dv_take_succ zs k (by omega), ih (by omega), h k (by omega), Nat.mod_pow_succ]
  have := key zs.length (Nat.le_refl _)
  rwa [List.take_length, Nat.mod_eq_of_lt hm] at this
theorem dv_lt_of_tail {B : Nat} {xs : List Nat} {m : Nat} (hx : Ds B xs) (hm : m ≤ xs.length) (h : ∀ j, m ≤ j → xs.getD j 0 = 0) : dv B xs < B ^ m := by
  rw [dv_take_eq hm h]
  exact dv_take_lt hx m hm
end Go.Proofs.Ytihffojljbgpcaa
