/- Plain arithmetic on lists of limbs: the number that a list of limbs is; products limb by limb. No program is named here. -/
import Derived.Test.YtihffojljbgpcaaWordMath
namespace Go.Proofs.Ytihffojljbgpcaa

/-- The number of a list of limbs, the lowest first. -/
def vl : List Nat → Nat
  | [] => 0
  | x :: r => x + 18446744073709551616 * vl r
def Lims (xs : List Nat) : Prop := ∀ x ∈ xs, Lim x

theorem val_set (cs : List Nat) (k v : Nat) (h : k < cs.length) : vl (cs.set k v) + 18446744073709551616 ^ k * cs.getD k 0 = vl cs + 18446744073709551616 ^ k * v := by
  induction cs generalizing k with
  | nil => simp at h
  | cons c cs ih =>
    cases k with
    | zero => simp [vl]; omega
    | succ k =>
      have := ih k (by simpa using h)
      simp only [List.set_cons_succ, vl, List.getD_cons_succ, Nat.pow_succ] at *
      generalize 18446744073709551616 ^ k = P at *
      grind
theorem val_take_succ (bs : List Nat) (k : Nat) (h : k < bs.length) : vl (bs.take (k + 1)) = vl (bs.take k) + 18446744073709551616 ^ k * bs.getD k 0 := by
  induction bs generalizing k with
  | nil => simp at h
  | cons c cs ih =>
    cases k with
    | zero => simp [vl]
    | succ k =>
      have := ih k (by simpa using h)
      simp only [List.take_succ_cons, vl, List.getD_cons_succ, Nat.pow_succ] at *
      rw [this]
      generalize 18446744073709551616 ^ k = P at *
      grind
theorem val_split (bs : List Nat) (k : Nat) (h : k ≤ bs.length) : vl bs = vl (bs.take k) + 18446744073709551616 ^ k * vl (bs.drop k) := by
  induction bs generalizing k with
  | nil => simp at h; subst h; simp [vl]
  | cons c cs ih =>
    cases k with
    | zero => simp [vl]
    | succ k =>
      have := ih k (by simpa using h)
      simp only [List.take_succ_cons, List.drop_succ_cons, vl, Nat.pow_succ] at *
      rw [this]
      generalize 18446744073709551616 ^ k = P at *
      grind
theorem Lims.set {cs : List Nat} (h : Lims cs) (k v : Nat) (hv : Lim v) : Lims (cs.set k v) := by
  intro x hx
  rcases List.mem_or_eq_of_mem_set hx with h1 | h1
  · exact h x h1
  · exact h1 ▸ hv
theorem Lims.get {cs : List Nat} (h : Lims cs) (k : Nat) : Lim (cs.getD k 0) := by
  by_cases hk : k < cs.length
  · simp [List.getElem?_eq_getElem hk]
    exact h _ (List.getElem_mem hk)
  · simp [List.getElem?_eq_none (Nat.le_of_not_lt hk), Lim]
theorem Lims.four {a b c d : Nat} (ha : Lim a) (hb : Lim b) (hc : Lim c) (hd : Lim d) : Lims [a, b, c, d] := by
  intro x hx; simp at hx; rcases hx with rfl | rfl | rfl | rfl <;> assumption
theorem val_lt (cs : List Nat) (h : Lims cs) : vl cs < 18446744073709551616 ^ cs.length := by
  induction cs with
  | nil => simp [vl]
  | cons c cs ih =>
    have h1 := ih fun x hx => h x (List.mem_cons_of_mem _ hx)
    have h2 : Lim c := h c List.mem_cons_self
    unfold Lim at h2
    simp only [vl, List.length_cons, Nat.pow_succ]
    generalize 18446744073709551616 ^ cs.length = P at *
    omega
theorem IsW.vals {a b c d n : Nat} (h : IsW a b c d n) : n = vl [a, b, c, d] := by
  rw [h.2.2.2.2]; simp only [vl]; omega
theorem isW_val {a b c d : Nat} (h : Lims [a, b, c, d]) : IsW a b c d (vl [a, b, c, d]) := by
  have l : ∀ x ∈ [a, b, c, d], Lim x := h
  refine ⟨l a (by simp), l b (by simp), l c (by simp), l d (by simp), ?_⟩
  simp only [vl]; omega
theorem IsW.limsList {a b c d n : Nat} (h : IsW a b c d n) : Lims [a, b, c, d] := Lims.four h.lims.1 h.lims.2.1 h.lims.2.2.1 h.lims.2.2.2

/-- After i rounds of the outer loop of a product that is cut to K limbs. -/
def MulOut (K : Nat) (xs ys : List Nat) (i : Nat) (cs : List Nat) : Prop := ∃ q, vl cs + 18446744073709551616 ^ K * q = vl (xs.take i) * vl ys
/-- Within a round, at place k. -/
def MulIn (K : Nat) (xs ys : List Nat) (i k : Nat) (carry : Nat) (cs : List Nat) : Prop :=
  ∃ q, vl cs + 18446744073709551616 ^ k * carry + 18446744073709551616 ^ K * q = vl (xs.take i) * vl ys + 18446744073709551616 ^ i * (xs.getD i 0 * vl (ys.take (k - i)))

theorem mulIn_start {K : Nat} {xs ys cs : List Nat} {i : Nat} (h : MulOut K xs ys i cs) : MulIn K xs ys i i 0 cs := by
  obtain ⟨q, h⟩ := h
  refine ⟨q, ?_⟩
  rw [Nat.sub_self]
  simp [vl, h]
theorem mulIn_step {K : Nat} {xs ys cs : List Nat} {i k carry h l : Nat} (H : MulIn K xs ys i k carry cs) (hik : i ≤ k) (hk : k < cs.length) (hy : k - i < ys.length)
    (hM : MulA (xs.getD i 0) (ys.getD (k - i) 0) (cs.getD k 0) carry h l) : MulIn K xs ys i (k + 1) h (cs.set k l) := by
  obtain ⟨q, H⟩ := H
  obtain ⟨hM, _, _⟩ := hM
  refine ⟨q, ?_⟩
  have e1 := val_set cs k l hk
  have e2 := val_take_succ ys (k - i) hy
  rw [show k + 1 - i = k - i + 1 by omega, e2]
  have e3 : 18446744073709551616 ^ k = 18446744073709551616 ^ i * 18446744073709551616 ^ (k - i) := by rw [← Nat.pow_add]; congr 1; omega
  rw [Nat.pow_succ]
  rw [e3] at H e1 ⊢
  generalize 18446744073709551616 ^ i = I at *
  generalize 18446744073709551616 ^ (k - i) = J at *
  generalize 18446744073709551616 ^ K * q = T at *
  generalize vl (cs.set k l) = V at *
  generalize vl (xs.take i) * vl ys = S at *
  generalize vl (ys.take (k - i)) = Y at *
  generalize cs.getD k 0 = c at *
  generalize xs.getD i 0 = x at *
  generalize ys.getD (k - i) 0 = y at *
  generalize vl cs = C at *
  clear e2 e3 hy hk hik
  have f : I * J * (l + 18446744073709551616 * h) = I * J * (x * y + c + carry) := by rw [hM]
  grind
theorem mulIn_end {K : Nat} {xs ys cs : List Nat} {i carry : Nat} (H : MulIn K xs ys i K carry cs) (hi : i ≤ K) (hx : i < xs.length) (hy : K - i ≤ ys.length) : MulOut K xs ys (i + 1) cs := by
  obtain ⟨q, H⟩ := H
  rw [val_split ys (K - i) hy] at H
  refine ⟨carry + q + xs.getD i 0 * vl (ys.drop (K - i)), ?_⟩
  rw [val_take_succ xs i hx, val_split ys (K - i) hy]
  have e3 : 18446744073709551616 ^ K = 18446744073709551616 ^ i * 18446744073709551616 ^ (K - i) := by rw [← Nat.pow_add]; congr 1; omega
  rw [e3] at H ⊢
  generalize 18446744073709551616 ^ i = I at *
  generalize 18446744073709551616 ^ (K - i) = J at *
  grind
theorem mulOut_start (K : Nat) (xs ys : List Nat) (cs : List Nat) (h : vl cs = 0) : MulOut K xs ys 0 cs := ⟨0, by simp [h, vl]⟩
theorem mulOut_end {K : Nat} {xs ys cs : List Nat} (h : MulOut K xs ys xs.length cs) (hc : Lims cs) (hl : cs.length = K) : vl cs = vl xs * vl ys % 18446744073709551616 ^ K := by
  obtain ⟨q, h⟩ := h
  rw [List.take_length] at h
  have hlt := val_lt cs hc
  rw [hl] at hlt
  exact (mod_of h hlt).1

theorem sq_step {a e p s T : Nat} (hp : p = a ^ e % T) (hs : s = p * p % T) : s = a ^ (2 * e) % T := by
  subst hp hs
  rw [← Nat.mul_mod, Nat.two_mul, Nat.pow_add]
theorem mul_step {a e s r T : Nat} (hs : s = a ^ e % T) (hr : r = s * a % T) : r = a ^ (e + 1) % T := by
  subst hs hr
  rw [Nat.mod_mul_mod, Nat.pow_succ]
theorem half (b k : Nat) (hk : 0 < k) : b / 2 ^ k = b / 2 ^ (k - 1) / 2 := by
  rw [Nat.div_div_eq_div_mul, ← Nat.pow_succ]
  congr 2
  omega
theorem exp_bit0 {b k : Nat} (hk : 0 < k) (h : b / 2 ^ (k - 1) % 2 = 0) : 2 * (b / 2 ^ k) = b / 2 ^ (k - 1) := by
  rw [half b k hk]; omega
theorem exp_bit1 {b k : Nat} (hk : 0 < k) (h : b / 2 ^ (k - 1) % 2 = 1) : 2 * (b / 2 ^ k) + 1 = b / 2 ^ (k - 1) := by
  rw [half b k hk]; omega
theorem pow64 (j : Nat) : 18446744073709551616 ^ j = 2 ^ (64 * j) := by
  rw [show (18446744073709551616 : Nat) = 2 ^ 64 by decide, ← Nat.pow_mul]
/-- A bit of a list of limbs is a bit of its limb. -/
theorem vl_bit (xs : List Nat) (h : Lims xs) (j m : Nat) (hm : m < 64) : vl xs / 2 ^ (64 * j + m) % 2 = xs.getD j 0 / 2 ^ m % 2 := by
  induction xs generalizing j with
  | nil => simp [vl]
  | cons x xs ih =>
    have hx : Lim x := h x List.mem_cons_self
    have hxs : Lims xs := fun y hy => h y (List.mem_cons_of_mem _ hy)
    unfold Lim at hx
    cases j with
    | zero =>
      simp only [vl, Nat.mul_zero, Nat.zero_add, List.getD_cons_zero]
      rw [show 18446744073709551616 * vl xs = 2 ^ m * (2 * (2 ^ (63 - m) * vl xs)) by
        rw [← Nat.mul_assoc, ← Nat.mul_assoc, show (18446744073709551616 : Nat) = 2 ^ 64 by decide]
        congr 1
        rw [← Nat.pow_succ, ← Nat.pow_add]
        congr 1
        omega]
      rw [Nat.add_mul_div_left _ _ (Nat.two_pow_pos m)]
      omega
    | succ j =>
      simp only [vl, List.getD_cons_succ]
      rw [← ih hxs j, show 64 * (j + 1) + m = 64 + (64 * j + m) by omega, Nat.pow_add, ← Nat.div_div_eq_div_mul]
      congr 2
      omega
end Go.Proofs.Ytihffojljbgpcaa
