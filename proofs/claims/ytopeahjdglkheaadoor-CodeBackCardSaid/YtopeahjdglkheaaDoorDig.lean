/- Plain arithmetic on lists of digits of any base: the number that a list of digits is, the lowest first; the one list without zeros at its end. No program is named here. -/
import Derived.Laws.BitsAllLaws
import Derived.WalkKit
import Derived.Deep.Quiet
import Derived.Laws.MakeOwn
import Derived.Lib.Hide
namespace Go.Proofs.YtopeahjdglkheaaDoor

/-- The number of a list of digits of base B, the lowest first. -/
def dv (B : Nat) : List Nat → Nat
  | [] => 0
  | x :: r => x + B * dv B r
/-- Each digit is below the base. -/
def Ds (B : Nat) (xs : List Nat) : Prop := ∀ x ∈ xs, x < B
/-- The list without zeros at its end. -/
def Can (B : Nat) (xs : List Nat) (n : Nat) : Prop := Ds B xs ∧ dv B xs = n ∧ (0 < xs.length → xs.getD (xs.length - 1) 0 ≠ 0)

section
variable {B : Nat}
theorem Ds.nil : Ds B [] := fun _ h => by cases h
theorem Ds.cons {x : Nat} {xs : List Nat} (h : Ds B (x :: xs)) : x < B ∧ Ds B xs := ⟨h x List.mem_cons_self, fun y hy => h y (List.mem_cons_of_mem _ hy)⟩
theorem Ds.mk {x : Nat} {xs : List Nat} (h : x < B) (k : Ds B xs) : Ds B (x :: xs) := fun y hy => by
  rcases List.mem_cons.1 hy with rfl | hy
  · exact h
  · exact k y hy
theorem Ds.set {cs : List Nat} (h : Ds B cs) (k v : Nat) (hv : v < B) : Ds B (cs.set k v) := by
  intro x hx
  rcases List.mem_or_eq_of_mem_set hx with h1 | h1
  · exact h x h1
  · exact h1 ▸ hv
theorem Ds.get {cs : List Nat} (h : Ds B cs) (hB : 0 < B) (k : Nat) : cs.getD k 0 < B := by
  by_cases hk : k < cs.length
  · simp [List.getElem?_eq_getElem hk]
    exact h _ (List.getElem_mem hk)
  · simp [List.getElem?_eq_none (Nat.le_of_not_lt hk), hB]
theorem Ds.take {xs : List Nat} (h : Ds B xs) (m : Nat) : Ds B (xs.take m) := fun x hx => h x (List.mem_of_mem_take hx)
theorem Ds.drop {xs : List Nat} (h : Ds B xs) (m : Nat) : Ds B (xs.drop m) := fun x hx => h x (List.mem_of_mem_drop hx)
theorem Ds.zeros (hB : 0 < B) (n : Nat) : Ds B (List.replicate n 0) := fun x hx => by rw [List.eq_of_mem_replicate hx]; exact hB
theorem Ds.append {xs ys : List Nat} (h : Ds B xs) (k : Ds B ys) : Ds B (xs ++ ys) := fun x hx => (List.mem_append.1 hx).elim (h x) (k x)
theorem Ds.reverse {xs : List Nat} (h : Ds B xs) : Ds B xs.reverse := fun x hx => h x (List.mem_reverse.1 hx)

theorem dv_zeros (n : Nat) : dv B (List.replicate n 0) = 0 := by
  induction n with
  | zero => rfl
  | succ n ih => simp [List.replicate_succ, dv, ih]
theorem dv_append (xs ys : List Nat) : dv B (xs ++ ys) = dv B xs + B ^ xs.length * dv B ys := by
  induction xs with
  | nil => simp [dv]
  | cons x xs ih =>
    simp only [List.cons_append, dv, ih, List.length_cons, Nat.pow_succ]
    generalize B ^ xs.length = P
    grind
theorem dv_set (cs : List Nat) (k v : Nat) (h : k < cs.length) : dv B (cs.set k v) + B ^ k * cs.getD k 0 = dv B cs + B ^ k * v := by
  induction cs generalizing k with
  | nil => simp at h
  | cons c cs ih =>
    cases k with
    | zero => simp [dv]; omega
    | succ k =>
      have := ih k (by simpa using h)
      simp only [List.set_cons_succ, dv, List.getD_cons_succ, Nat.pow_succ] at *
      generalize B ^ k = P at *
      grind
theorem dv_take_succ (bs : List Nat) (k : Nat) (h : k < bs.length) : dv B (bs.take (k + 1)) = dv B (bs.take k) + B ^ k * bs.getD k 0 := by
  induction bs generalizing k with
  | nil => simp at h
  | cons c cs ih =>
    cases k with
    | zero => simp [dv]
    | succ k =>
      have := ih k (by simpa using h)
      simp only [List.take_succ_cons, dv, List.getD_cons_succ, Nat.pow_succ] at *
      rw [this]
      generalize B ^ k = P at *
      grind
theorem dv_split (bs : List Nat) (k : Nat) (h : k ≤ bs.length) : dv B bs = dv B (bs.take k) + B ^ k * dv B (bs.drop k) := by
  conv => lhs; rw [← List.take_append_drop k bs]
  rw [dv_append, List.length_take, Nat.min_eq_left h]
theorem dv_lt (cs : List Nat) (h : Ds B cs) : dv B cs < B ^ cs.length := by
  induction cs with
  | nil => simp [dv]
  | cons c cs ih =>
    have h1 := ih h.cons.2
    have h2 := h.cons.1
    simp only [dv, List.length_cons, Nat.pow_succ]
    generalize B ^ cs.length = P at *
    have : B * (dv B cs + 1) ≤ B * P := Nat.mul_le_mul_left _ h1
    rw [Nat.mul_add, Nat.mul_one] at this
    rw [Nat.mul_comm P B]
    omega
theorem dv_drop_get (xs : List Nat) (k : Nat) (hk : k < xs.length) : dv B (xs.drop k) = xs.getD k 0 + B * dv B (xs.drop (k + 1)) := by
  rw [List.drop_eq_getElem_cons hk]
  simp [dv, List.getElem?_eq_getElem hk]
theorem dv_zero_get (hB : 0 < B) (xs : List Nat) (h : dv B xs = 0) (j : Nat) : xs.getD j 0 = 0 := by
  induction xs generalizing j with
  | nil => simp
  | cons x xs ih =>
    simp only [dv] at h
    have h2 : dv B xs = 0 := by
      rcases Nat.eq_zero_or_pos (dv B xs) with h0 | hp
      · exact h0
      · have := Nat.mul_le_mul hB hp; omega
    cases j with
    | zero => simp; omega
    | succ j => simp; simpa using ih h2 j
theorem dv_zero (xs : List Nat) (h : ∀ j, xs.getD j 0 = 0) : dv B xs = 0 := by
  induction xs with
  | nil => rfl
  | cons x xs ih =>
    have h0 := h 0
    simp at h0
    subst h0
    simp only [dv]
    rw [ih fun j => by have := h (j + 1); simpa using this]
    simp
theorem dv_take_eq {xs : List Nat} {m : Nat} (hm : m ≤ xs.length) (h : ∀ j, m ≤ j → xs.getD j 0 = 0) : dv B xs = dv B (xs.take m) := by
  rw [dv_split xs m hm, dv_zero (xs.drop m) fun j => by
    have := h (m + j) (by omega)
    rw [List.getD_eq_getElem?_getD] at this ⊢
    rw [List.getElem?_drop]; exact this]
  simp
theorem dv_take_lt {xs : List Nat} (hx : Ds B xs) (m : Nat) (hm : m ≤ xs.length) : dv B (xs.take m) < B ^ m := by
  have := dv_lt _ (hx.take m)
  rwa [List.length_take, Nat.min_eq_left hm] at this
theorem dv_tail_zero {xs : List Nat} {m j : Nat} (hB : 0 < B) (h : dv B xs < B ^ m) (hj : m ≤ j) : xs.getD j 0 = 0 := by
  by_cases hm : m ≤ xs.length
  · have e := dv_split (B := B) xs m hm
    have hz : dv B (xs.drop m) = 0 := by
      rcases Nat.eq_zero_or_pos (dv B (xs.drop m)) with hz | hp
      · exact hz
      · have := Nat.mul_le_mul_left (B ^ m) (show 1 ≤ dv B (xs.drop m) from hp)
        omega
    have := dv_zero_get hB _ hz (j - m)
    rw [List.getD_eq_getElem?_getD, List.getElem?_drop, show m + (j - m) = j by omega] at this
    rw [List.getD_eq_getElem?_getD]; exact this
  · rw [List.getD_eq_getElem?_getD, List.getElem?_eq_none (by omega)]; rfl

/-- Digits of one number are the same, where there are as many. -/
theorem dv_inj {xs ys : List Nat} (hx : Ds B xs) (hy : Ds B ys) (hl : xs.length = ys.length) (h : dv B xs = dv B ys) : xs = ys := by
  induction xs generalizing ys with
  | nil => cases ys with
    | nil => rfl
    | cons y ys => simp at hl
  | cons x xs ih =>
    cases ys with
    | nil => simp at hl
    | cons y ys =>
      simp only [dv] at h
      have h1 := hx.cons.1
      have h2 := hy.cons.1
      have e1 : x = y := by
        have := congrArg (· % B) h
        simpa [Nat.add_mul_mod_self_left, Nat.mod_eq_of_lt h1, Nat.mod_eq_of_lt h2] using this
      subst e1
      have e2 : dv B xs = dv B ys := by
        have hB : 0 < B := by omega
        exact Nat.eq_of_mul_eq_mul_left hB (by omega)
      rw [ih hx.cons.2 hy.cons.2 (by simpa using hl) e2]

theorem Can.nil : Can B [] 0 := ⟨Ds.nil, rfl, fun h => by simp at h⟩
theorem Can.pos {xs : List Nat} {n : Nat} (h : Can B xs n) (hB : 0 < B) : xs = [] ↔ n = 0 := by
  obtain ⟨h1, h2, h3⟩ := h
  constructor
  · rintro rfl; exact h2.symm
  · intro h0
    rcases List.eq_nil_or_concat xs with h | ⟨_, _, h⟩
    · exact h
    · exfalso
      have hl : 0 < xs.length := by rw [h]; simp
      exact h3 hl (dv_zero_get hB _ (by rw [h2, h0]) _)
theorem Can.lt {xs : List Nat} {n : Nat} (h : Can B xs n) : n < B ^ xs.length := by rw [← h.2.1]; exact dv_lt _ h.1
theorem Can.ge {xs : List Nat} {n : Nat} (h : Can B xs n) (hl : 0 < xs.length) : B ^ (xs.length - 1) ≤ n := by
  obtain ⟨h1, h2, h3⟩ := h
  have h4 := h3 hl
  have := dv_take_succ (B := B) xs (xs.length - 1) (by omega)
  rw [show xs.length - 1 + 1 = xs.length by omega, List.take_length, h2] at this
  have h5 : B ^ (xs.length - 1) * 1 ≤ B ^ (xs.length - 1) * xs.getD (xs.length - 1) 0 := Nat.mul_le_mul_left _ (by omega)
  omega
theorem Can.len_le {xs : List Nat} {n m : Nat} (h : Can B xs n) (hB : 1 < B) (hn : n < B ^ m) : xs.length ≤ m := by
  rcases Nat.lt_or_ge m xs.length with hlt | hle
  · have h1 := h.ge (by omega)
    have h2 : B ^ m ≤ B ^ (xs.length - 1) := Nat.pow_le_pow_right (by omega) (by omega)
    omega
  · exact hle
/-- A number has one list of digits without zeros at its end. -/
theorem Can.inj {xs ys : List Nat} {n : Nat} (h : Can B xs n) (k : Can B ys n) (hB : 1 < B) : xs = ys := by
  have h1 := h.len_le hB k.lt
  have h2 := k.len_le hB h.lt
  exact dv_inj h.1 k.1 (by omega) (h.2.1.trans k.2.1.symm)
/-- What trim makes: the first m digits, where the rest are zeros and the last one is not. -/
theorem Can.of_take {xs : List Nat} {m : Nat} (h : Ds B xs) (hm : m ≤ xs.length) (hz : ∀ j, m ≤ j → xs.getD j 0 = 0) (hl : 0 < m → xs.getD (m - 1) 0 ≠ 0) : Can B (xs.take m) (dv B xs) := by
  refine ⟨h.take m, (dv_take_eq hm hz).symm, fun h0 => ?_⟩
  rw [List.length_take, Nat.min_eq_left hm] at h0 ⊢
  have := hl h0
  rw [List.getD_eq_getElem?_getD] at this ⊢
  rwa [List.getElem?_take, if_pos (by omega)]
/-- There is such a list. -/
theorem can_exists (hB : 1 < B) (n : Nat) : ∃ xs, Can B xs n := by
  induction n using Nat.strongRecOn with
  | ind n ih =>
    rcases Nat.eq_zero_or_pos n with rfl | hp
    · exact ⟨[], Can.nil⟩
    · obtain ⟨xs, h1, h2, h3⟩ := ih (n / B) (Nat.div_lt_self hp hB)
      refine ⟨n % B :: xs, Ds.mk (Nat.mod_lt _ (by omega)) h1, by simp only [dv, h2]; exact Nat.mod_add_div n B, fun _ => ?_⟩
      rcases Nat.eq_zero_or_pos xs.length with h0 | h0
      · have : xs = [] := List.eq_nil_of_length_eq_zero h0
        subst this
        simp only [dv] at h2
        have e : n / B = 0 := h2.symm
        have : n < B := by
          rcases Nat.lt_or_ge n B with h | h
          · exact h
          · have := Nat.div_pos h (by omega); omega
        simp [Nat.mod_eq_of_lt this]; omega
      · have := h3 h0
        rw [List.length_cons, show xs.length + 1 - 1 = (xs.length - 1) + 1 by omega, List.getD_cons_succ]
        exact this
theorem Ds.mk' {x : Nat} {xs : List Nat} (k : Ds B xs) (h : x < B) : Ds B (x :: xs) := Ds.mk h k
end
/-- -1, 0, 1. -/
def ordI (a b : Nat) : Int := if a < b then -1 else if b < a then 1 else 0
theorem cmp_digit {B : Nat} {xs ys : List Nat} {k : Nat} (hx : Ds B xs) (hl : xs.length = ys.length) (hk : k < xs.length) (hd : xs.drop (k + 1) = ys.drop (k + 1)) (h : xs.getD k 0 < ys.getD k 0) : dv B xs < dv B ys := by
  have e1 := dv_split (B := B) xs k (by omega)
  have e2 := dv_split (B := B) ys k (by omega)
  rw [dv_drop_get xs k hk] at e1
  rw [dv_drop_get ys k (by omega), ← hd] at e2
  have h1 := dv_take_lt hx k (by omega)
  generalize xs.getD k 0 = x at *
  generalize ys.getD k 0 = y at *
  generalize dv B (xs.drop (k + 1)) = D at *
  rw [e1, e2]
  have h2 : B ^ k * (x + B * D + 1) ≤ B ^ k * (y + B * D) := Nat.mul_le_mul_left _ (by omega)
  rw [Nat.mul_add _ _ 1] at h2
  omega
theorem can_short {B : Nat} {xs ys : List Nat} {a b : Nat} (hB : 0 < B) (ha : Can B xs a) (hb : Can B ys b) (h : xs.length < ys.length) : a < b := by
  have h1 := ha.lt
  have h2 := hb.ge (by omega)
  have h3 : B ^ xs.length ≤ B ^ (ys.length - 1) := Nat.pow_le_pow_right hB (by omega)
  omega
theorem drop_step {xs ys : List Nat} {k : Nat} (hl : xs.length = ys.length) (hk : k < xs.length) (hd : xs.drop (k + 1) = ys.drop (k + 1)) (h : xs.getD k 0 = ys.getD k 0) : xs.drop k = ys.drop k := by
  rw [List.drop_eq_getElem_cons hk, List.drop_eq_getElem_cons (by omega : k < ys.length), hd]
  congr 1
  simpa [List.getElem?_eq_getElem hk, List.getElem?_eq_getElem (by omega : k < ys.length)] using h
/-- A digit of a number. -/
theorem dv_digit {B : Nat} {xs : List Nat} (h : Ds B xs) (hB : 0 < B) (j : Nat) : dv B xs / B ^ j % B = xs.getD j 0 := by
  rcases Nat.lt_or_ge j xs.length with hj | hj
  · rw [dv_split xs j (by omega), Nat.add_mul_div_left _ _ (Nat.pow_pos hB), Nat.div_eq_of_lt (dv_take_lt h j (by omega)), Nat.zero_add, dv_drop_get xs j hj, Nat.add_mul_mod_self_left, Nat.mod_eq_of_lt (h.get hB j)]
  · rw [Nat.div_eq_of_lt (Nat.lt_of_lt_of_le (dv_lt _ h) (Nat.pow_le_pow_right hB hj)), List.getD_eq_getElem?_getD, List.getElem?_eq_none hj]; simp
theorem can_cons {B : Nat} {xs : List Nat} {c n : Nat} (h : Can B xs n) (hc : c < B) (hne : xs ≠ [] ∨ c ≠ 0) : Can B (c :: xs) (c + B * n) := by
  obtain ⟨h1, h2, h3⟩ := h
  refine ⟨Ds.mk hc h1, by simp [dv, h2], fun _ => ?_⟩
  rcases Nat.eq_zero_or_pos xs.length with h0 | h0
  · have : xs = [] := List.eq_nil_of_length_eq_zero h0
    subst this
    simpa using hne
  · have := h3 h0
    rw [List.length_cons, show xs.length + 1 - 1 = (xs.length - 1) + 1 by omega, List.getD_cons_succ]
    exact this
/-- A byte of a number, by its digits of 32 bits. -/
theorem byte_of_digit {xs : List Nat} (h : Ds 4294967296 xs) (i : Nat) : xs.getD (i / 4) 0 / 2 ^ (8 * (i % 4)) % 256 = dv 4294967296 xs / 256 ^ i % 256 := by
  rw [← dv_digit h (by omega) (i / 4)]
  have e : (256 : Nat) ^ i = 4294967296 ^ (i / 4) * 2 ^ (8 * (i % 4)) := by
    rw [show (256 : Nat) = 2 ^ 8 by decide, show (4294967296 : Nat) = 2 ^ 32 by decide, ← Nat.pow_mul, ← Nat.pow_mul, ← Nat.pow_add]
    congr 1
    omega
  rw [e, ← Nat.div_div_eq_div_mul]
  generalize dv 4294967296 xs / 4294967296 ^ (i / 4) = q
  have h4 : i % 4 = 0 ∨ i % 4 = 1 ∨ i % 4 = 2 ∨ i % 4 = 3 := by omega
  rcases h4 with h | h | h | h <;> rw [h] <;> omega
theorem div_pow_succ (n i : Nat) : n / 256 ^ i = n / 256 ^ i % 256 + 256 * (n / 256 ^ (i + 1)) := by
  rw [Nat.pow_succ, ← Nat.div_div_eq_div_mul]
  exact (Nat.mod_add_div _ _).symm
theorem dv_take_next {B : Nat} (xs : List Nat) (k : Nat) : dv B (xs.take (k + 1)) = dv B (xs.take k) + B ^ k * xs.getD k 0 := by
  rcases Nat.lt_or_ge k xs.length with h | h
  · exact dv_take_succ xs k h
  · rw [List.take_of_length_le (by omega), List.take_of_length_le h, List.getD_eq_getElem?_getD, List.getElem?_eq_none h]; simp
theorem dv_take_set {B : Nat} (zs : List Nat) (k z : Nat) (h : k < zs.length) : dv B ((zs.set k z).take (k + 1)) = dv B (zs.take k) + B ^ k * z := by
  rw [dv_take_next, List.take_set_of_le (by omega)]
  congr 2
  simp [h]
/-- A sum, k digits done: c is carried. -/
def SumInv (B : Nat) (xs ys : List Nat) (k c : Nat) (zs : List Nat) : Prop := dv B (zs.take k) + B ^ k * c = dv B (xs.take k) + dv B (ys.take k)
theorem sum_step {B : Nat} {xs ys zs : List Nat} {k c : Nat} (h : SumInv B xs ys k c zs) (hk : k < zs.length) : SumInv B xs ys (k + 1) ((c + xs.getD k 0 + ys.getD k 0) / B) (zs.set k ((c + xs.getD k 0 + ys.getD k 0) % B)) := by
  unfold SumInv at *
  rw [dv_take_set _ _ _ hk, dv_take_next, dv_take_next, Nat.pow_succ]
  have e := Nat.mod_add_div (c + xs.getD k 0 + ys.getD k 0) B
  generalize xs.getD k 0 = x at *
  generalize ys.getD k 0 = y at *
  generalize (c + x + y) % B = r at *
  generalize (c + x + y) / B = q at *
  generalize B ^ k = P at *
  have f : P * (r + B * q) = P * (c + x + y) := by rw [e]
  clear e hk
  grind
theorem sum_end {B : Nat} {xs ys zs : List Nat} {N c : Nat} (hB : 1 < B) (h : SumInv B xs ys (N + 1) c zs) (hz : zs.length = N + 1) (hx : Ds B xs) (hy : Ds B ys) (h1 : xs.length ≤ N) (h2 : ys.length ≤ N) : dv B zs = dv B xs + dv B ys := by
  unfold SumInv at h
  rw [List.take_of_length_le (by omega), List.take_of_length_le (by omega), List.take_of_length_le (by omega)] at h
  have a := Nat.lt_of_lt_of_le (dv_lt _ hx) (Nat.pow_le_pow_right (by omega : 0 < B) h1)
  have b := Nat.lt_of_lt_of_le (dv_lt _ hy) (Nat.pow_le_pow_right (by omega : 0 < B) h2)
  have e : 2 * B ^ N ≤ B ^ (N + 1) := by rw [Nat.pow_succ, Nat.mul_comm]; exact Nat.mul_le_mul_left _ hB
  rcases Nat.eq_zero_or_pos c with hc | hc
  · subst hc; simpa using h
  · have : B ^ (N + 1) * 1 ≤ B ^ (N + 1) * c := Nat.mul_le_mul_left _ hc
    omega
/-- A difference, k digits done: c is borrowed. -/
def DiffInv (B : Nat) (xs ys : List Nat) (k c : Nat) (zs : List Nat) : Prop := dv B (zs.take k) + dv B (ys.take k) = dv B (xs.take k) + B ^ k * c
theorem diff_lt {B : Nat} {xs ys zs : List Nat} {k c : Nat} (h : DiffInv B xs ys k c zs) (hk : k < zs.length) {z : Nat} (hz : z + (c + ys.getD k 0) = xs.getD k 0 + B) : DiffInv B xs ys (k + 1) 1 (zs.set k z) := by
  unfold DiffInv at *
  rw [dv_take_set _ _ _ hk, dv_take_next, dv_take_next, Nat.pow_succ]
  generalize xs.getD k 0 = x at *
  generalize ys.getD k 0 = y at *
  generalize B ^ k = P at *
  have f : P * (z + (c + y)) = P * (x + B) := by rw [hz]
  clear hz hk
  grind
theorem diff_ge {B : Nat} {xs ys zs : List Nat} {k c : Nat} (h : DiffInv B xs ys k c zs) (hk : k < zs.length) {z : Nat} (hz : z + (c + ys.getD k 0) = xs.getD k 0) : DiffInv B xs ys (k + 1) 0 (zs.set k z) := by
  unfold DiffInv at *
  rw [dv_take_set _ _ _ hk, dv_take_next, dv_take_next, Nat.pow_succ]
  generalize xs.getD k 0 = x at *
  generalize ys.getD k 0 = y at *
  generalize B ^ k = P at *
  have f : P * (z + (c + y)) = P * x := by rw [hz]
  clear hz hk
  grind
theorem diff_end {B : Nat} {xs ys zs : List Nat} {c : Nat} (hB : 0 < B) (h : DiffInv B xs ys xs.length c zs) (hz : zs.length = xs.length) (hd : Ds B zs) (hle : dv B ys ≤ dv B xs) (hy : ys.length ≤ xs.length) : dv B zs = dv B xs - dv B ys := by
  unfold DiffInv at h
  rw [List.take_of_length_le (by omega), List.take_of_length_le hy, List.take_length] at h
  have a := dv_lt _ hd
  rw [hz] at a
  have := hB
  rcases Nat.eq_zero_or_pos c with hc | hc
  · subst hc; simp at h; omega
  · have : B ^ xs.length * 1 ≤ B ^ xs.length * c := Nat.mul_le_mul_left _ hc
    omega
/-- A product, i digits of the first number done. -/
def ProdOut (B : Nat) (xs ys : List Nat) (i : Nat) (zs : List Nat) : Prop := dv B zs = dv B (xs.take i) * dv B ys ∧ ∀ j, i + ys.length ≤ j → zs.getD j 0 = 0
/-- .. within it, k digits of the second one done: c is carried. -/
def ProdIn (B : Nat) (xs ys : List Nat) (i k c : Nat) (zs : List Nat) : Prop :=
  dv B zs + B ^ (i + k) * c = dv B (xs.take i) * dv B ys + B ^ i * (xs.getD i 0 * dv B (ys.take k)) ∧ ∀ j, i + ys.length ≤ j → zs.getD j 0 = 0
theorem dprod_start {B : Nat} {xs ys zs : List Nat} {i : Nat} (h : ProdOut B xs ys i zs) : ProdIn B xs ys i 0 0 zs := ⟨by simp [dv, h.1], h.2⟩
theorem getD_set_ne {zs : List Nat} {j k v : Nat} (h : k ≠ j) : (zs.set k v).getD j 0 = zs.getD j 0 := by
  rw [List.getD_eq_getElem?_getD, List.getElem?_set_ne h, ← List.getD_eq_getElem?_getD]
theorem getD_set_self {zs : List Nat} {k v : Nat} (h : k < zs.length) : (zs.set k v).getD k 0 = v := by simp [h]
theorem dprod_step {B : Nat} {xs ys zs : List Nat} {i k c s : Nat} (h : ProdIn B xs ys i k c zs) (hk : k < ys.length) (hz : i + k < zs.length) (hs : s = xs.getD i 0 * ys.getD k 0 + zs.getD (i + k) 0 + c) :
    ProdIn B xs ys i (k + 1) (s / B) (zs.set (i + k) (s % B)) := by
  obtain ⟨h1, h2⟩ := h
  refine ⟨?_, fun j hj => by rw [getD_set_ne (by omega)]; exact h2 j hj⟩
  have e1 := dv_set (B := B) zs (i + k) (s % B) hz
  rw [dv_take_succ ys k hk, ← Nat.add_assoc, Nat.pow_succ]
  have e2 := Nat.mod_add_div s B
  have e3 : B ^ (i + k) = B ^ i * B ^ k := Nat.pow_add _ _ _
  rw [e3] at e1 h1 ⊢
  clear e3
  generalize xs.getD i 0 = x at *
  generalize ys.getD k 0 = y at *
  generalize zs.getD (i + k) 0 = z at *
  generalize s % B = r at *
  generalize s / B = q at *
  generalize B ^ i = I at *
  generalize B ^ k = J at *
  generalize dv B (zs.set (i + k) r) = Z' at *
  generalize dv B zs = Z at *
  generalize dv B (xs.take i) * dv B ys = T at *
  generalize dv B (ys.take k) = Y at *
  have f : I * J * (r + B * q) = I * J * (x * y + z + c) := by rw [e2, hs]
  clear e2 h2 hk hz hs
  grind
theorem dprod_end {B : Nat} {xs ys zs : List Nat} {i c : Nat} (h : ProdIn B xs ys i ys.length c zs) (hi : i < xs.length) (hz : i + ys.length < zs.length) : ProdOut B xs ys (i + 1) (zs.set (i + ys.length) c) := by
  obtain ⟨h1, h2⟩ := h
  refine ⟨?_, fun j hj => by rw [getD_set_ne (by omega)]; exact h2 j (by omega)⟩
  have e1 := dv_set (B := B) zs (i + ys.length) c hz
  rw [h2 _ (Nat.le_refl _)] at e1
  rw [List.take_length] at h1
  rw [dv_take_succ xs i hi, Nat.add_mul, Nat.mul_assoc]
  generalize B ^ (i + ys.length) * c = T at *
  omega
/-- Digits that a number has. -/
theorem dv_of_digits {B : Nat} {zs : List Nat} {m : Nat} (h : ∀ i, i < zs.length → zs.getD i 0 = m / B ^ i % B) (hm : m < B ^ zs.length) : dv B zs = m := by
  have key : ∀ k, k ≤ zs.length → dv B (zs.take k) = m % B ^ k := by
    intro k
    induction k with
    | zero => intro _; simp [dv, Nat.mod_one]
    | succ k ih =>
      intro hk
      rw [dv_take_succ zs k (by omega), ih (by omega), h k (by omega), Nat.mod_pow_succ]
  have := key zs.length (Nat.le_refl _)
  rwa [List.take_length, Nat.mod_eq_of_lt hm] at this
theorem dv_lt_of_tail {B : Nat} {xs : List Nat} {m : Nat} (hx : Ds B xs) (hm : m ≤ xs.length) (h : ∀ j, m ≤ j → xs.getD j 0 = 0) : dv B xs < B ^ m := by
  rw [dv_take_eq hm h]
  exact dv_take_lt hx m hm
end Go.Proofs.YtopeahjdglkheaaDoor
/- More plain arithmetic on digits of 32 bits: shifts; bytes gathered to digits. No program is named here. -/
namespace Go.Proofs.YtopeahjdglkheaaDoor

theorem pow32 (s : Nat) : (4294967296 : Nat) ^ s = 2 ^ (32 * s) := by rw [show (4294967296 : Nat) = 2 ^ 32 by decide, ← Nat.pow_mul]
theorem dshl_lo {x r : Nat} (hr : r < 32) : (x * 2 ^ r % 4294967296) % 2 ^ r = 0 ∧ ∀ z, z < 2 ^ r → z + x * 2 ^ r % 4294967296 < 4294967296 := by
  have e : x * 2 ^ r % 4294967296 = 2 ^ r * (x % 2 ^ (32 - r)) := by
    rw [show (4294967296 : Nat) = 2 ^ r * 2 ^ (32 - r) by rw [← Nat.pow_add, show r + (32 - r) = 32 by omega], Nat.mul_comm x, Nat.mul_mod_mul_left]
  rw [e]
  refine ⟨Nat.mul_mod_right _ _, fun z hz => ?_⟩
  have h1 : x % 2 ^ (32 - r) + 1 ≤ 2 ^ (32 - r) := Nat.mod_lt _ (Nat.two_pow_pos _)
  have h2 := Nat.mul_le_mul_left (2 ^ r) h1
  rw [← Nat.pow_add, show r + (32 - r) = 32 by omega, Nat.mul_add] at h2
  omega
/-- What or makes of a number below 2^r and a multiple of it. -/
theorem or_join {z l r : Nat} (hz : z < 2 ^ r) (hl : l % 2 ^ r = 0) (h : z + l < 4294967296) : bits .or .u32 (z : Int) (l : Int) = ((z + l : Nat) : Int) := by
  rw [u32_or_nat z l (by omega) (by omega), Nat.or_comm, nat_join r l z hl hz, Nat.add_comm]

/-- A shift to the left by n, i digits done. -/
def DShlInv (xs : List Nat) (n i : Nat) (zs : List Nat) : Prop := dv 4294967296 zs = dv 4294967296 (xs.take i) * 2 ^ n ∧ ∀ j, i + n / 32 + 1 ≤ j → zs.getD j 0 = 0
theorem dshl_carry {xs zs : List Nat} {n i : Nat} (h : DShlInv xs n i zs) (hx : Ds 4294967296 xs) (hz : Ds 4294967296 zs) (hi : i ≤ xs.length) : zs.getD (i + n / 32) 0 < 2 ^ (n % 32) := by
  rw [← dv_digit hz (by omega)]
  refine Nat.lt_of_le_of_lt (Nat.mod_le _ _) (Nat.div_lt_of_lt_mul ?_)
  rw [h.1]
  have h1 := dv_take_lt hx i hi
  have h2 : dv 4294967296 (xs.take i) * 2 ^ n < 4294967296 ^ i * 2 ^ n := Nat.mul_lt_mul_of_pos_right h1 (Nat.two_pow_pos n)
  refine Nat.lt_of_lt_of_le h2 (Nat.le_of_eq ?_)
  rw [Nat.pow_add, Nat.mul_assoc, pow32 (n / 32), ← Nat.pow_add]
  congr 2
  omega
theorem dshl_step {xs zs : List Nat} {n i : Nat} (h : DShlInv xs n i zs) (hi : i < xs.length) (hz : i + n / 32 + 1 < zs.length) :
    DShlInv xs n (i + 1) ((zs.set (i + n / 32) (zs.getD (i + n / 32) 0 + xs.getD i 0 * 2 ^ (n % 32) % 4294967296)).set (i + n / 32 + 1) (xs.getD i 0 * 2 ^ (n % 32) / 4294967296)) := by
  obtain ⟨h1, h2⟩ := h
  refine ⟨?_, fun j hj => by rw [getD_set_ne (by omega), getD_set_ne (by omega)]; exact h2 j (by omega)⟩
  have e1 := dv_set (B := 4294967296) (zs.set (i + n / 32) (zs.getD (i + n / 32) 0 + xs.getD i 0 * 2 ^ (n % 32) % 4294967296)) (i + n / 32 + 1) (xs.getD i 0 * 2 ^ (n % 32) / 4294967296) (by rw [List.length_set]; exact hz)
  rw [getD_set_ne (by omega), h2 _ (Nat.le_refl _)] at e1
  have e2 := dv_set (B := 4294967296) zs (i + n / 32) (zs.getD (i + n / 32) 0 + xs.getD i 0 * 2 ^ (n % 32) % 4294967296) (by omega)
  have e3 := Nat.mod_add_div (xs.getD i 0 * 2 ^ (n % 32)) 4294967296
  rw [dv_take_succ xs i hi, Nat.add_mul, ← h1]
  have e4 : 4294967296 ^ i * xs.getD i 0 * 2 ^ n = 4294967296 ^ (i + n / 32) * (xs.getD i 0 * 2 ^ (n % 32)) := by
    rw [Nat.pow_add, pow32 (n / 32), show (2 : Nat) ^ n = 2 ^ (32 * (n / 32)) * 2 ^ (n % 32) by rw [← Nat.pow_add]; congr 1; omega]
    generalize 4294967296 ^ i = P
    generalize 2 ^ (32 * (n / 32)) = Q
    generalize 2 ^ (n % 32) = R
    generalize xs.getD i 0 = x
    grind
  rw [e4]
  rw [Nat.pow_succ] at e1
  generalize xs.getD i 0 * 2 ^ (n % 32) = W at *
  generalize zs.getD (i + n / 32) 0 = z at *
  generalize 4294967296 ^ (i + n / 32) = P at *
  generalize W % 4294967296 = lo at *
  generalize W / 4294967296 = hi' at *
  generalize dv 4294967296 (zs.set (i + n / 32) (z + lo)) = Z1 at *
  clear h2 e4 h1
  have f : P * (lo + 4294967296 * hi') = P * W := by rw [e3]
  clear e3
  grind
theorem dshl_end {xs zs : List Nat} {n : Nat} (h : DShlInv xs n xs.length zs) : dv 4294967296 zs = dv 4294967296 xs * 2 ^ n := by
  have := h.1
  rwa [List.take_length] at this

/-- A digit of a number that is shifted to the right, out of two digits of it. -/
theorem shr_digit {xs : List Nat} (h : Ds 4294967296 xs) (n i : Nat) :
    (xs.getD (i + n / 32) 0 + 4294967296 * xs.getD (i + n / 32 + 1) 0) / 2 ^ (n % 32) % 4294967296 = dv 4294967296 xs / 2 ^ n / 4294967296 ^ i % 4294967296 := by
  rw [← dv_digit h (by omega) (i + n / 32), ← dv_digit h (by omega) (i + n / 32 + 1)]
  have e0 : dv 4294967296 xs / 2 ^ n / 4294967296 ^ i = dv 4294967296 xs / 4294967296 ^ (i + n / 32) / 2 ^ (n % 32) := by
    rw [Nat.div_div_eq_div_mul, Nat.div_div_eq_div_mul]
    congr 1
    rw [Nat.pow_add, pow32 (n / 32), show (2 : Nat) ^ n = 2 ^ (32 * (n / 32)) * 2 ^ (n % 32) by rw [← Nat.pow_add]; congr 1; omega]
    generalize 4294967296 ^ i = P
    generalize 2 ^ (32 * (n / 32)) = Q
    generalize 2 ^ (n % 32) = R
    grind
  rw [e0, Nat.pow_succ, ← Nat.div_div_eq_div_mul]
  generalize dv 4294967296 xs / 4294967296 ^ (i + n / 32) = q
  have hr : n % 32 < 32 := Nat.mod_lt _ (by omega)
  generalize n % 32 = r at *
  have e1 : q = (q % 4294967296 + 4294967296 * (q / 4294967296 % 4294967296)) + 2 ^ r * (4294967296 * (2 ^ (32 - r) * (q / 4294967296 / 4294967296))) := by
    have a := Nat.mod_add_div q 4294967296
    have b := Nat.mod_add_div (q / 4294967296) 4294967296
    have e3 : 2 ^ r * (4294967296 * (2 ^ (32 - r) * (q / 4294967296 / 4294967296))) = 4294967296 * (4294967296 * (q / 4294967296 / 4294967296)) := by
      have : (4294967296 : Nat) = 2 ^ r * 2 ^ (32 - r) := by rw [← Nat.pow_add, show r + (32 - r) = 32 by omega]
      generalize q / 4294967296 / 4294967296 = u
      generalize 2 ^ (32 - r) = v at *
      generalize 2 ^ r = p at *
      have h5 : p * (4294967296 * (v * u)) = 4294967296 * ((p * v) * u) := by grind
      rw [h5, ← this]
    rw [e3]
    clear e3 e0
    generalize q / 4294967296 = q1 at *
    generalize q1 / 4294967296 = q2 at *
    generalize q1 % 4294967296 = q3 at *
    generalize q % 4294967296 = q4 at *
    omega
  conv => rhs; rw [e1]
  rw [Nat.add_mul_div_left _ _ (Nat.two_pow_pos r), Nat.add_mul_mod_self_left]
theorem shr_end {xs zs : List Nat} {n : Nat} (h : Ds 4294967296 xs) (hz : zs.length = xs.length - n / 32) (hs : n / 32 ≤ xs.length)
    (hd : ∀ i, i < zs.length → zs.getD i 0 = (xs.getD (i + n / 32) 0 + 4294967296 * xs.getD (i + n / 32 + 1) 0) / 2 ^ (n % 32) % 4294967296) : dv 4294967296 zs = dv 4294967296 xs / 2 ^ n := by
  refine dv_of_digits (fun i hi => by rw [hd i hi, shr_digit h]) ?_
  rw [hz]
  refine Nat.div_lt_of_lt_mul ?_
  refine Nat.lt_of_lt_of_le (dv_lt _ h) ?_
  rw [pow32, pow32, ← Nat.pow_add]
  exact Nat.pow_le_pow_right (by omega) (by omega)

/-- Bytes, i of them gathered to digits of 32 bits, the last byte first. -/
def FromInv (bs : List Nat) (i : Nat) (zs : List Nat) : Prop := dv 4294967296 zs = dv 256 (bs.take i)
theorem pow256 (i : Nat) : (256 : Nat) ^ i = 4294967296 ^ (i / 4) * 2 ^ (8 * (i % 4)) := by
  rw [show (256 : Nat) = 2 ^ 8 by decide, pow32, ← Nat.pow_mul, ← Nat.pow_add]
  congr 1
  omega
theorem from_carry {bs zs : List Nat} {i : Nat} (h : FromInv bs i zs) (hb : Ds 256 bs) (hz : Ds 4294967296 zs) (hi : i ≤ bs.length) : zs.getD (i / 4) 0 < 2 ^ (8 * (i % 4)) := by
  rw [← dv_digit hz (by omega)]
  refine Nat.lt_of_le_of_lt (Nat.mod_le _ _) (Nat.div_lt_of_lt_mul ?_)
  rw [h, ← pow256]
  exact dv_take_lt hb i hi
theorem from_step {bs zs : List Nat} {i : Nat} (h : FromInv bs i zs) (hi : i < bs.length) (hz : i / 4 < zs.length) :
    FromInv bs (i + 1) (zs.set (i / 4) (zs.getD (i / 4) 0 + bs.getD i 0 * 2 ^ (8 * (i % 4)))) := by
  unfold FromInv at *
  have e := dv_set (B := 4294967296) zs (i / 4) (zs.getD (i / 4) 0 + bs.getD i 0 * 2 ^ (8 * (i % 4))) hz
  rw [dv_take_succ bs i hi, ← h, pow256]
  rw [Nat.mul_add] at e
  have e2 : 4294967296 ^ (i / 4) * (bs.getD i 0 * 2 ^ (8 * (i % 4))) = 4294967296 ^ (i / 4) * 2 ^ (8 * (i % 4)) * bs.getD i 0 := by
    rw [Nat.mul_comm (bs.getD i 0), Nat.mul_assoc]
  omega
theorem from_lo {b m : Nat} (hb : b < 256) (hm : m < 4) : b * 2 ^ (8 * m) % 2 ^ (8 * m) = 0 ∧ b * 2 ^ (8 * m) < 4294967296 ∧ ∀ z, z < 2 ^ (8 * m) → z + b * 2 ^ (8 * m) < 4294967296 := by
  refine ⟨Nat.mul_mod_left _ _, ?_, fun z hz => ?_⟩ <;> (have h4 : m = 0 ∨ m = 1 ∨ m = 2 ∨ m = 3 := by omega) <;> rcases h4 with h | h | h | h <;> subst h <;> simp at * <;> omega
theorem rev_get (bs : List Nat) (i : Nat) (hi : i < bs.length) : bs.reverse.getD i 0 = bs.getD (bs.length - 1 - i) 0 := by
  rw [List.getD_eq_getElem?_getD, List.getElem?_reverse hi, ← List.getD_eq_getElem?_getD]

/-- Within a row, from place i on, less q times ys: k digits done; c is to be taken away beyond. -/
def LessInv (xs ys : List Nat) (i q k c : Nat) (zs : List Nat) : Prop :=
  dv 4294967296 zs + 4294967296 ^ i * (q * dv 4294967296 (ys.take k)) = dv 4294967296 xs + 4294967296 ^ (i + k) * c ∧ ∀ j, i + k ≤ j → zs.getD j 0 = xs.getD j 0
theorem less_step {xs ys zs : List Nat} {i q k c b x lo hi r b' : Nat} (h : LessInv xs ys i q k (c + b) zs) (hk : i + k < zs.length)
    (hx : zs.getD (i + k) 0 = x) (hm : lo + 4294967296 * hi = c + q * ys.getD k 0) (hr : r + (lo + b) = x + 4294967296 * b') : LessInv xs ys i q (k + 1) (hi + b') (zs.set (i + k) r) := by
  obtain ⟨h1, h2⟩ := h
  refine ⟨?_, fun j hj => by rw [getD_set_ne (by omega)]; exact h2 j (by omega)⟩
  have e1 := dv_set (B := 4294967296) zs (i + k) r hk
  rw [hx] at e1
  rw [dv_take_next, ← Nat.add_assoc, Nat.pow_succ]
  rw [Nat.pow_add] at e1 h1 ⊢
  generalize 4294967296 ^ i = I at *
  generalize 4294967296 ^ k = J at *
  generalize ys.getD k 0 = y at *
  generalize dv 4294967296 (zs.set (i + k) r) = Z' at *
  generalize dv 4294967296 zs = Z at *
  generalize dv 4294967296 (ys.take k) = Y at *
  generalize dv 4294967296 xs = X at *
  have f1 : I * J * (lo + 4294967296 * hi) = I * J * (c + q * y) := by rw [hm]
  have f2 : I * J * (r + (lo + b)) = I * J * (x + 4294967296 * b') := by rw [hr]
  clear h2 hk hx hm hr
  grind
/-- Within a row, from place i on, and ys: k digits done; c is carried. -/
def BackInv (xs ys : List Nat) (i k c : Nat) (zs : List Nat) : Prop :=
  dv 4294967296 zs + 4294967296 ^ (i + k) * c = dv 4294967296 xs + 4294967296 ^ i * dv 4294967296 (ys.take k) ∧ ∀ j, i + k ≤ j → zs.getD j 0 = xs.getD j 0
theorem back_step {xs ys zs : List Nat} {i k c s : Nat} (h : BackInv xs ys i k c zs) (hk : i + k < zs.length) (hs : s = zs.getD (i + k) 0 + c + ys.getD k 0) : BackInv xs ys i (k + 1) (s / 4294967296) (zs.set (i + k) (s % 4294967296)) := by
  obtain ⟨h1, h2⟩ := h
  refine ⟨?_, fun j hj => by rw [getD_set_ne (by omega)]; exact h2 j (by omega)⟩
  have e1 := dv_set (B := 4294967296) zs (i + k) (s % 4294967296) hk
  have e2 := Nat.mod_add_div s 4294967296
  rw [dv_take_next, ← Nat.add_assoc, Nat.pow_succ]
  rw [Nat.pow_add] at e1 h1 ⊢
  generalize 4294967296 ^ i = I at *
  generalize 4294967296 ^ k = J at *
  generalize ys.getD k 0 = y at *
  generalize zs.getD (i + k) 0 = z at *
  generalize dv 4294967296 (zs.set (i + k) (s % 4294967296)) = Z' at *
  generalize s % 4294967296 = lo at *
  generalize s / 4294967296 = hi at *
  generalize dv 4294967296 zs = Z at *
  generalize dv 4294967296 (ys.take k) = Y at *
  generalize dv 4294967296 xs = X at *
  have f1 : I * J * (lo + 4294967296 * hi) = I * J * (z + c + y) := by rw [e2, hs]
  clear h2 hk e2 hs
  grind
end Go.Proofs.YtopeahjdglkheaaDoor
/- Rows of memory and slices that hold integers of one kind. No program is named here. -/
namespace Go.Proofs.YtopeahjdglkheaaDoor
open Go.RowKit

theorem Below.drewN_ (B : Nat) (w : World) (n : Nat) : Below B w (w.drewN n) := ⟨rfl, rfl, rfl, Nat.le_refl _, fun _ _ => rfl⟩

/-- Block g holds just the numbers xs, of kind k and element type t. -/
def Row (k : IntKind) (w : World) (g : Nat) (t : TypeId) (xs : List Nat) : Prop := w.heap[g]? = some (.cells (xs.map fun n : Nat => Value.int k (n : Int)).toArray t (0, 0))

section
variable {k : IntKind} {w w' : World} {g : Nat} {t : TypeId} {xs : List Nat}
theorem Row.lt (h : Row k w g t xs) : g < w.heap.size := by
  rcases Nat.lt_or_ge g w.heap.size with hlt | hge
  · exact hlt
  · unfold Row at h; rw [Array.getElem?_eq_none hge] at h; cases h
theorem Row.cell (h : Row k w g t xs) (j : Nat) (hj : j < xs.length) : w.cell? ⟨g, j, none⟩ = some (.int k (xs.getD j 0 : Nat)) := by
  rw [cell_of_row w g j _ t (0, 0) h]
  simp [List.getElem?_eq_getElem hj]
theorem Row.frozen (h : Row k w g t xs) (j : Nat) : w.frozen? ⟨g, j, none⟩ = false := frozen_of_row w g j _ t h
theorem Row.alloc (h : Row k w g t xs) (o : Obj) : Row k (w.alloc o) g t xs := (Below.heap_alloc w o g h.lt).trans h
theorem Row.set (h : Row k w g t xs) (j v : Nat) : Row k (w.setCell ⟨g, j, none⟩ (.int k (v : Int))) g t (xs.set j v) := by
  unfold Row
  rw [heap_setCell_same w g j _ t _ h]
  congr 2
  apply Array.ext'
  simp [List.map_set]
theorem Row.set' (h : Row k w g t xs) (j v : Nat) (u : Int) (hu : u = (v : Int)) : Row k (w.setCell ⟨g, j, none⟩ (.int k u)) g t (xs.set j v) := by
  subst hu; exact h.set j v
theorem Row.far (h : Row k w g t xs) {p : Addr} (hp : g ≠ p.block) (v : Value) : Row k (w.setCell p v) g t xs := (Below.heap_setCell w p v g hp).trans h
theorem Row.below {B : Nat} (h : Row k w g t xs) (hb : Below B w w') (hg : g < B) : Row k w' g t xs := (hb.block g hg).trans h
theorem Row.drew (h : Row k w g t xs) : Row k w.drew g t xs := h
theorem Row.drewN (h : Row k w g t xs) (n : Nat) : Row k (w.drewN n) g t xs := h
theorem Row.new (w : World) (t : TypeId) (xs : List Nat) : Row k (w.alloc (.cells (xs.map fun n : Nat => Value.int k (n : Int)).toArray t)) w.heap.size t xs := heap_alloc_new w _
theorem made_zeros (n : Nat) : madeCells #[Value.int k 0] n = ((List.replicate n 0).map fun n : Nat => Value.int k (n : Int)).toArray := by
  apply Array.ext'
  simp only [madeCells, Array.toList_map, Array.toList_range, List.map_replicate]
  rw [List.eq_replicate_iff]
  constructor
  · simp
  · intro b hb
    simp only [List.mem_map] at hb
    obtain ⟨i, _, rfl⟩ := hb
    have : i % #[Value.int k 0].size = 0 := by simp [Nat.mod_one]
    rw [this]; simp
theorem Row.made (w : World) (t : TypeId) (n : Nat) : Row k (w.alloc (.cells (madeCells #[Value.int k 0] n) t)) w.heap.size t (List.replicate n 0) := by
  rw [made_zeros]; exact Row.new w t _

/-- Block g alone may have changed. -/
structure Tch (g : Nat) (w w' : World) : Prop where
  os : w'.os = w.os
  tape : w'.tape = w.tape
  output : w'.output = w.output
  size : w'.heap.size = w.heap.size
  block : ∀ i, i ≠ g → w'.heap[i]? = w.heap[i]?
theorem Tch.refl (g : Nat) (w : World) : Tch g w w := ⟨rfl, rfl, rfl, rfl, fun _ _ => rfl⟩
theorem Tch.trans {g : Nat} {a b c : World} (h : Tch g a b) (k : Tch g b c) : Tch g a c :=
  ⟨k.os.trans h.os, k.tape.trans h.tape, k.output.trans h.output, k.size.trans h.size, fun i hi => (k.block i hi).trans (h.block i hi)⟩
theorem Tch.put (g i : Nat) (w : World) (v : Value) : Tch g w (w.setCell ⟨g, i, none⟩ v) :=
  ⟨rfl, rfl, rfl, by simp [World.setCell], fun k hk => Below.heap_setCell w ⟨g, i, none⟩ v k hk⟩
theorem Tch.drewN (g : Nat) (w : World) (n : Nat) : Tch g w (w.drewN n) := ⟨rfl, rfl, rfl, rfl, fun _ _ => rfl⟩
theorem Tch.row {f : Nat} (h : Tch g w w') (a : Row k w f t xs) (hf : f ≠ g) : Row k w' f t xs := (h.block f hf).trans a
theorem Tch.below {B : Nat} {a : World} (h : Tch g w w') (b : Below B a w) (hg : B ≤ g) : Below B a w' :=
  b.trans ⟨h.os, h.tape, h.output, by rw [h.size]; exact Nat.le_refl _, fun k hk => h.block k (by omega)⟩

/-- The slice at A, of capacity c, reads as xs. -/
structure Rd (k : IntKind) (w : World) (A : Option Addr) (c : Nat) (xs : List Nat) : Prop where
  le : xs.length ≤ c
  cap : A = none → c = 0
  at_ : 0 < xs.length → ∃ b off, A = some ⟨b, off, none⟩ ∧ b < w.heap.size ∧ ∀ j, j < xs.length → w.cell? ⟨b, off + j, none⟩ = some (.int k (xs.getD j 0 : Nat))

variable {A : Option Addr} {c : Nat}
theorem Rd.nil (w : World) : Rd k w none 0 [] := ⟨Nat.zero_le _, fun _ => rfl, fun h => by simp at h⟩
theorem Rd.keep (h : Rd k w A c xs) (hs : w.heap.size ≤ w'.heap.size) (hk : ∀ p : Addr, p.block < w.heap.size → w'.cell? p = w.cell? p) : Rd k w' A c xs :=
  ⟨h.le, h.cap, fun hl => by
    obtain ⟨b, off, e, hb, hc⟩ := h.at_ hl
    exact ⟨b, off, e, Nat.lt_of_lt_of_le hb hs, fun j hj => (hk ⟨b, off + j, none⟩ hb).trans (hc j hj)⟩⟩
theorem Rd.below (h : Rd k w A c xs) (hb : Below w.heap.size w w') : Rd k w' A c xs := h.keep hb.size fun _ hp => hb.cell hp
theorem Rd.drew (h : Rd k w A c xs) : Rd k w.drew A c xs := h.keep (Nat.le_refl _) fun _ _ => rfl
theorem Rd.drewN (h : Rd k w A c xs) (n : Nat) : Rd k (w.drewN n) A c xs := h.keep (Nat.le_refl _) fun _ _ => rfl
theorem Rd.alloc (h : Rd k w A c xs) (o : Obj) : Rd k (w.alloc o) A c xs := h.below ((Below.refl _ _).alloc (Nat.le_refl _) _)
theorem Rd.take (h : Rd k w A c xs) (m : Nat) (hm : m ≤ xs.length) : Rd k w A c (xs.take m) := by
  refine ⟨by rw [List.length_take]; have := h.le; omega, h.cap, fun hl => ?_⟩
  rw [List.length_take, Nat.min_eq_left hm] at hl
  obtain ⟨b, off, e, hb, hc⟩ := h.at_ (by omega)
  refine ⟨b, off, e, hb, fun j hj => ?_⟩
  rw [List.length_take, Nat.min_eq_left hm] at hj
  rw [hc j (by omega)]
  congr 3
  rw [List.getD_eq_getElem?_getD, List.getD_eq_getElem?_getD, List.getElem?_take, if_pos hj]
theorem Row.rd (h : Row k w g t xs) (off n c : Nat) (hn : off + n ≤ xs.length) (hc : n ≤ c) : Rd k w (some ⟨g, off, none⟩) c ((xs.drop off).take n) := by
  have hl : ((xs.drop off).take n).length = n := by rw [List.length_take, List.length_drop]; omega
  refine ⟨by omega, (fun h => by cases h), fun _ => ⟨g, off, rfl, h.lt, fun j hj => ?_⟩⟩
  rw [hl] at hj
  rw [h.cell _ (by omega)]
  congr 3
  rw [List.getD_eq_getElem?_getD, List.getD_eq_getElem?_getD, List.getElem?_take, if_pos hj, List.getElem?_drop]
theorem Row.rd0 (h : Row k w g t xs) : Rd k w (some ⟨g, 0, none⟩) xs.length xs := by
  have := h.rd 0 xs.length xs.length (by omega) (Nat.le_refl _)
  rwa [List.drop_zero, List.take_length] at this

/-- A number, by its digits of 32 bits, at most L of them. -/
def Num (w : World) (v : Value) (n L : Nat) : Prop := ∃ A c xs, v = .slice A xs.length c ∧ Rd .u32 w A c xs ∧ Can 4294967296 xs n ∧ xs.length ≤ L
variable {v : Value} {n L : Nat}
theorem Num.below (h : Num w v n L) (hb : Below w.heap.size w w') : Num w' v n L := by
  obtain ⟨A, c, xs, e, h1, h2, h3⟩ := h
  exact ⟨A, c, xs, e, h1.below hb, h2, h3⟩
theorem Num.mono {L' : Nat} (h : Num w v n L) (hl : L ≤ L') : Num w v n L' := by
  obtain ⟨A, c, xs, e, h1, h2, h3⟩ := h
  exact ⟨A, c, xs, e, h1, h2, Nat.le_trans h3 hl⟩
theorem Num.lt (h : Num w v n L) : n < 4294967296 ^ L := by
  obtain ⟨A, c, xs, e, h1, h2, h3⟩ := h
  exact Nat.lt_of_lt_of_le h2.lt (Nat.pow_le_pow_right (by omega) h3)
theorem Num.small (h : Num w v n L) {L' : Nat} (hn : n < 4294967296 ^ L') : Num w v n L' := by
  obtain ⟨A, c, xs, e, h1, h2, h3⟩ := h
  exact ⟨A, c, xs, e, h1, h2, h2.len_le (by omega) hn⟩
theorem Num.nil (w : World) : Num w (.slice none 0 0) 0 0 := ⟨none, 0, [], rfl, Rd.nil _, Can.nil, Nat.le_refl _⟩

/-- Bytes, as a list. -/
def Byt (w : World) (v : Value) (bs : List Nat) : Prop := ∃ A c, v = .slice A bs.length c ∧ Rd .u8 w A c bs ∧ Ds 256 bs
variable {bs : List Nat}
theorem Byt.below (h : Byt w v bs) (hb : Below w.heap.size w w') : Byt w' v bs := by
  obtain ⟨A, c, e, h1, h2⟩ := h
  exact ⟨A, c, e, h1.below hb, h2⟩
theorem Byt.ds (h : Byt w v bs) : Ds 256 bs := h.choose_spec.choose_spec.2.2
theorem Byt.nil (w : World) : Byt w (.slice none 0 0) [] := ⟨none, 0, rfl, Rd.nil _, Ds.nil⟩

/-- The call returns a value of which R says what it is, and nothing that was there has changed. -/
def RetR (R : World → Value → Prop) (w : World) (e : Ending) (w' : World) : Prop := ∃ v, e = .returned v ∧ R w' v ∧ Below w.heap.size w w'
end
end Go.Proofs.YtopeahjdglkheaaDoor
/- Plain arithmetic of the reference's long division with digits of 32 bits. No program is named here. -/
namespace Go.Proofs.YtopeahjdglkheaaDoor

/-- A digit that is guessed by the highest digits is not below the quotient's. -/
theorem rguess_ge {zs ds : List Nat} {i n : Nat} (hd : Ds 4294967296 ds) (hz : Ds 4294967296 zs) (hn : ds.length = n) (hn0 : 0 < n) (hi : i + n < zs.length) (ht : 0 < ds.getD (n - 1) 0)
    (hlt : dv 4294967296 zs < dv 4294967296 ds * 4294967296 ^ (i + 1)) :
    dv 4294967296 zs / (dv 4294967296 ds * 4294967296 ^ i) ≤ (zs.getD (i + n) 0 * 4294967296 + zs.getD (i + n - 1) 0) / ds.getD (n - 1) 0 ∧ dv 4294967296 zs / (dv 4294967296 ds * 4294967296 ^ i) ≤ 4294967295 := by
  have hD : dv 4294967296 ds < 4294967296 ^ n := by rw [← hn]; exact dv_lt _ hd
  have hDp : 0 < dv 4294967296 ds * 4294967296 ^ i := by
    rcases Nat.eq_zero_or_pos (dv 4294967296 ds) with h | h
    · rw [h] at hlt; simp at hlt
    · exact Nat.mul_pos h (Nat.pow_pos (by omega))
  constructor
  · rw [Nat.le_div_iff_mul_le ht]
    obtain ⟨v, rfl⟩ : ∃ v, n = v + 1 := ⟨n - 1, by omega⟩
    rw [show v + 1 - 1 = v by omega] at *
    rw [show i + (v + 1) - 1 = i + v by omega]
    have hbig : dv 4294967296 zs < 4294967296 ^ (i + v + 2) := by
      refine Nat.lt_of_lt_of_le hlt ?_
      rw [show (4294967296 : Nat) ^ (i + v + 2) = 4294967296 ^ (v + 1) * 4294967296 ^ (i + 1) by rw [← Nat.pow_add]; congr 1; omega]
      exact Nat.mul_le_mul_right _ (Nat.le_of_lt hD)
    have e1 := dv_split (B := 4294967296) zs (i + v) (by omega)
    rw [dv_drop_get zs (i + v) (by omega), dv_drop_get zs (i + v + 1) (by omega)] at e1
    have hz0 : dv 4294967296 (zs.drop (i + v + 1 + 1)) = 0 := dv_zero _ fun j => by
      have := dv_tail_zero (by omega) hbig (show i + v + 2 ≤ i + v + 2 + j by omega)
      rw [List.getD_eq_getElem?_getD] at this ⊢
      rw [List.getElem?_drop, show i + v + 1 + 1 + j = i + v + 2 + j by omega]; exact this
    rw [hz0] at e1
    have hlow := dv_take_lt hz (i + v) (by omega)
    have e2 := dv_take_succ (B := 4294967296) ds v (by omega)
    rw [← hn, List.take_length] at e2
    have hq := Nat.div_mul_le_self (dv 4294967296 zs) (dv 4294967296 ds * 4294967296 ^ i)
    rw [show i + (v + 1) = i + v + 1 by omega]
    generalize dv 4294967296 zs / (dv 4294967296 ds * 4294967296 ^ i) = g at *
    apply Nat.le_of_lt_succ
    apply Nat.lt_of_mul_lt_mul_left (a := 4294967296 ^ (i + v))
    have h1 : 4294967296 ^ (i + v) * (g * ds.getD v 0) ≤ g * (dv 4294967296 ds * 4294967296 ^ i) := by
      rw [e2, Nat.pow_add]
      generalize 4294967296 ^ i = I
      generalize 4294967296 ^ v = V
      generalize ds.getD v 0 = t
      generalize dv 4294967296 (ds.take v) = L
      have : g * ((L + V * t) * I) = I * V * (g * t) + g * (L * I) := by grind
      omega
    generalize 4294967296 ^ (i + v) = P at *
    generalize zs.getD (i + v) 0 = z0 at *
    generalize zs.getD (i + v + 1) 0 = z1 at *
    have h2 : P * (z1 * 4294967296 + z0).succ = P * (z0 + 4294967296 * (z1 + 4294967296 * 0)) + P := by rw [Nat.mul_succ]; congr 2; omega
    omega
  · have : dv 4294967296 zs / (dv 4294967296 ds * 4294967296 ^ i) < 4294967296 := by
      refine Nat.div_lt_of_lt_mul ?_
      rw [Nat.pow_succ, ← Nat.mul_assoc] at hlt
      exact hlt
    omega
/-- The digit was right. -/
theorem rdigit_right {Z Z1 P D G : Nat} (hD : 0 < D * P) (hge : Z / (D * P) ≤ G) (e : Z1 + P * (G * D) = Z) : Z1 < D * P := by
  have h1 := Nat.div_add_mod Z (D * P)
  have h2 := Nat.mod_lt Z hD
  have h3 : P * (G * D) = D * P * G := by rw [Nat.mul_comm G, ← Nat.mul_assoc, Nat.mul_comm P D]
  have h4 : D * P * (Z / (D * P)) ≤ D * P * G := Nat.mul_le_mul_left _ hge
  omega
/-- The digit was too much: then one less is not below the quotient's. -/
theorem rdigit_wrong {Z Z1 P D G T : Nat} (e : Z1 + P * (G * D) = Z + T) (h1 : Z1 < T) : 1 ≤ G ∧ Z / (D * P) ≤ G - 1 := by
  have h3 : P * (G * D) = D * P * G := by rw [Nat.mul_comm G, ← Nat.mul_assoc, Nat.mul_comm P D]
  have h5 : Z / (D * P) < G := by
    refine Nat.div_lt_of_lt_mul ?_
    rw [h3] at e
    omega
  exact ⟨Nat.lt_of_le_of_lt (Nat.zero_le _) h5, Nat.le_sub_one_of_lt h5⟩
/-- The divisor given back once; the highest digit tells whether it went over. -/
theorem rback_over {cc c2 ds : List Nat} {i n cy : Nat} (hn : ds.length = n) (hd : Ds 4294967296 ds) (hc2 : Ds 4294967296 c2) (hcc : Ds 4294967296 cc)
    (e : dv 4294967296 c2 + 4294967296 ^ (i + n + 1) * cy = dv 4294967296 cc + 4294967296 ^ i * dv 4294967296 ds) (h1 : dv 4294967296 cc < 4294967296 ^ (i + n + 1)) (h2 : dv 4294967296 c2 < 4294967296 ^ (i + n + 1)) :
    (cy = 0 ∧ cc.getD (i + n) 0 ≤ c2.getD (i + n) 0) ∨ (cy = 1 ∧ c2.getD (i + n) 0 < cc.getD (i + n) 0) := by
  have hD : dv 4294967296 ds < 4294967296 ^ n := by rw [← hn]; exact dv_lt _ hd
  have hP : 4294967296 ^ i * dv 4294967296 ds < 4294967296 ^ (i + n) := by
    rw [Nat.pow_add]; exact Nat.mul_lt_mul_of_pos_left hD (Nat.pow_pos (by omega))
  have top : ∀ l : List Nat, Ds 4294967296 l → dv 4294967296 l < 4294967296 ^ (i + n + 1) → l.getD (i + n) 0 = dv 4294967296 l / 4294967296 ^ (i + n) := fun l hl h => by
    rw [← dv_digit hl (by omega) (i + n)]
    exact Nat.mod_eq_of_lt (Nat.div_lt_of_lt_mul (by rwa [← Nat.pow_succ]))
  rw [top cc hcc h1, top c2 hc2 h2]
  rw [Nat.pow_succ] at *
  generalize 4294967296 ^ i * dv 4294967296 ds = D at *
  have hpp : 0 < 4294967296 ^ (i + n) := Nat.pow_pos (by omega)
  generalize 4294967296 ^ (i + n) = P at *
  generalize dv 4294967296 cc = a at *
  generalize dv 4294967296 c2 = b at *
  rcases Nat.eq_zero_or_pos cy with rfl | hcy
  · left
    exact ⟨rfl, Nat.div_le_div_right (by omega)⟩
  · right
    have h3 : cy = 1 := by
      rcases Nat.lt_or_ge cy 2 with h | h
      · omega
      · have := Nat.mul_le_mul_left (P * 4294967296) h; omega
    subst h3
    refine ⟨rfl, ?_⟩
    rw [Nat.div_eq_of_lt (by omega)]
    refine Nat.div_pos ?_ hpp
    omega
/-- Long division: what is done when k digits are still to come. -/
def DivInv (X D k : Nat) (qs zs : List Nat) : Prop := dv 4294967296 qs * D + dv 4294967296 zs = X ∧ dv 4294967296 zs < D * 4294967296 ^ k ∧ ∀ j, j < k → qs.getD j 0 = 0
theorem div_step {X D k G : Nat} {qs zs z1 : List Nat} (h : DivInv X D (k + 1) qs zs) (hk : k < qs.length) (e : dv 4294967296 z1 + 4294967296 ^ k * (G * D) = dv 4294967296 zs) (hlt : dv 4294967296 z1 < D * 4294967296 ^ k) : DivInv X D k (qs.set k G) z1 := by
  obtain ⟨h1, h2, h3⟩ := h
  refine ⟨?_, hlt, fun j hj => by rw [getD_set_ne (by omega)]; exact h3 j (by omega)⟩
  have e1 := dv_set (B := 4294967296) qs k G hk
  rw [h3 k (by omega)] at e1
  generalize 4294967296 ^ k = P at *
  generalize dv 4294967296 (qs.set k G) = Q' at *
  generalize dv 4294967296 qs = Q at *
  clear h2 h3 hlt hk
  have e2 : Q' = Q + P * G := by omega
  subst e2
  grind
theorem div_end {X D : Nat} {qs zs : List Nat} (h : DivInv X D 0 qs zs) : dv 4294967296 qs = X / D ∧ dv 4294967296 zs = X % D := by
  obtain ⟨h1, h2, _⟩ := h
  rw [Nat.pow_zero, Nat.mul_one] at h2
  subst h1
  rw [Nat.mul_comm, Nat.mul_add_div (by omega), Nat.mul_add_mod, Nat.div_eq_of_lt h2, Nat.mod_eq_of_lt h2]
  exact ⟨by omega, rfl⟩
theorem div_shift (a b s : Nat) : a * 2 ^ s / (b * 2 ^ s) = a / b ∧ a * 2 ^ s % (b * 2 ^ s) / 2 ^ s = a % b := by
  have hs := Nat.two_pow_pos s
  refine ⟨Nat.mul_div_mul_right _ _ hs, ?_⟩
  rw [Nat.mul_mod_mul_right, Nat.mul_div_cancel _ hs]
theorem div_start {A B s la : Nat} {ds : List Nat} (hd : Can 4294967296 ds B) (hA : A < 4294967296 ^ la * 2 ^ s) (hs : s ≤ 32) (hl : ds.length ≤ la + 2) (h0 : 0 < ds.length) : A < B * 4294967296 ^ (la + 2 - ds.length) := by
  have h1 := hd.ge h0
  have h2 : A < 4294967296 ^ (la + 1) := by
    refine Nat.lt_of_lt_of_le hA ?_
    rw [Nat.pow_succ]
    exact Nat.mul_le_mul_left _ (by rw [show (4294967296 : Nat) = 2 ^ 32 by decide]; exact Nat.pow_le_pow_right (by omega) hs)
  have h3 : 4294967296 ^ (la + 1) = 4294967296 ^ (ds.length - 1) * 4294967296 ^ (la + 2 - ds.length) := by rw [← Nat.pow_add]; congr 1; omega
  have h4 := Nat.mul_le_mul_right (4294967296 ^ (la + 2 - ds.length)) h1
  omega
/-- The value behind a divisor given back: one less of it is taken away. -/
theorem rback_val {c2 cc Z P D G T cy : Nat} (hG : 1 ≤ G) (e : cc + P * (G * D) = Z + T) (e2 : c2 + T * cy = cc + P * D) : c2 + P * ((G - 1) * D) + T * cy = Z + T := by
  obtain ⟨m, rfl⟩ : ∃ m, G = m + 1 := ⟨G - 1, by omega⟩
  rw [Nat.add_sub_cancel]
  have : P * ((m + 1) * D) = P * (m * D) + P * D := by rw [Nat.succ_mul, Nat.mul_add]
  omega
end Go.Proofs.YtopeahjdglkheaaDoor
