/- The law FieldInverse. -/
import Derived.Test.YteaafnjflghlhaaDoorFlOps
import Derived.Test.YteaafnjflghlhaaDoorFlHalf
import Derived.KernelRfl
import Derived.Test.YteaafnjflghlhaaDoorFlReduce
import Derived.Test.YteaafnjflghlhaaDoorFlNew
import Derived.Test.YteaafnjflghlhaaDoorOpsS
import Derived.Test.YteaafnjflghlhaaDoorRExp
import Derived.Test.YteaafnjflghlhaaDoorRShl
import Derived.Test.YteaafnjflghlhaaDoorRMul
import Derived.Test.YteaafnjflghlhaaDoorRDiv
import Derived.Test.YteaafnjflghlhaaDoorRSub
import Derived.Test.YteaafnjflghlhaaDoorRCmp
namespace Go.Proofs.YteaafnjflghlhaaDoor
open Go.RowKit

set_option maxRecDepth 100000 in
theorem eqIn6 (a b c d e f a' b' c' d' e' f' : Nat) (w : World) : (Op.equalIn 10000 24 (W6 a b c d e f) (W6 a' b' c' d' e' f')).run Tryd.prog w = .ok (decide (a = a' ∧ b = b' ∧ c = c' ∧ d = d' ∧ e = e' ∧ f = f')) w := by
  obtain ⟨i, hi⟩ := Option.isSome_iff_exists.1 info22
  obtain ⟨p0, p1, p2, p3, p4, p5⟩ := part6 a b c d e f w
  obtain ⟨r0, r1, r2, r3, r4, r5⟩ := part6 a' b' c' d' e' f' w
  rw [run_equalIn_array w 9999 _ _ Tryd.underlying24 hi, cells22]
  have q : ∀ x y : Nat, (Op.equalIn 9999 22 (.int .u64 (x : Nat)) (.int .u64 (y : Nat))).run Tryd.prog w = .ok (decide (x = y)) w := fun x y => by
    rw [run_equalIn_int w 9998 _ _ _ _ _ Tryd.underlying22]
    congr 1
    by_cases h : x = y
    · simp [h]
    · simp [h]; omega
  show (Op.eqItems 9999 22 1 _ _ [0, 1, 2, 3, 4, 5]).run Tryd.prog w = _
  have step : ∀ (j x y : Nat) (is : List Nat) (xs ys : Array Value), (part 22 xs (j * 1)).run Tryd.prog w = .ok (.int .u64 (x : Nat)) w → (part 22 ys (j * 1)).run Tryd.prog w = .ok (.int .u64 (y : Nat)) w →
      (Op.eqItems 9999 22 1 xs ys (j :: is)).run Tryd.prog w = if x = y then (Op.eqItems 9999 22 1 xs ys is).run Tryd.prog w else .ok false w := by
    intro j x y is xs ys h1 h2
    simp only [Op.eqItems, Sem.run_bind, h1, h2, q, Result.andThen_ok]
    by_cases h : x = y
    · simp [h]
    · simp [h]
  rw [step 0 a a' _ _ _ p0 r0, step 1 b b' _ _ _ p1 r1, step 2 c c' _ _ _ p2 r2, step 3 d d' _ _ _ p3 r3, step 4 e e' _ _ _ p4 r4, step 5 f f' _ _ _ p5 r5]
  by_cases h0 : a = a' <;> by_cases h1 : b = b' <;> by_cases h2 : c = c' <;> by_cases h3 : d = d' <;> by_cases h4 : e = e' <;> by_cases h5 : f = f' <;> simp [h0, h1, h2, h3, h4, h5] <;> rfl
end Go.Proofs.YteaafnjflghlhaaDoor
namespace Go.Proofs.YteaafnjflghlhaaDoor

/-- Twice a number, modulo an odd one, tells it. -/
theorem mod_half {P m n : Nat} (hP : P % 2 = 1) (h : 2 * m % P = 2 * n % P) : m % P = n % P := by
  obtain ⟨i, hi⟩ : ∃ i, 2 * i = P + 1 := ⟨(P + 1) / 2, by omega⟩
  have key : ∀ k : Nat, (2 * k) * i % P = k % P := fun k => by
    have e : (2 * k) * i = k + P * k := by
      have : (2 * k) * i = k * (2 * i) := by grind
      rw [this, hi, Nat.mul_add]
      grind
    rw [e, Nat.add_mul_mod_self_left]
  rw [← key m, ← key n, Nat.mul_mod, h, ← Nat.mul_mod]
/-- u and x are halved. -/
theorem euc_half {a x u P : Nat} (hP : P % 2 = 1) (hu : u % 2 = 0) (h : a * x % P = u % P) : a * ((x + x % 2 * P) / 2) % P = u / 2 % P := by
  have h2 : 2 * ((x + x % 2 * P) / 2) = x + x % 2 * P := by
    have : (x + x % 2 * P) % 2 = 0 := by
      rcases (show x % 2 = 0 ∨ x % 2 = 1 by omega) with e | e
      · rw [e]; omega
      · rw [e]; omega
    omega
  refine mod_half hP ?_
  have e : 2 * (a * ((x + x % 2 * P) / 2)) = a * x + P * (a * (x % 2)) := by
    have : 2 * (a * ((x + x % 2 * P) / 2)) = a * (2 * ((x + x % 2 * P) / 2)) := by grind
    rw [this, h2]
    grind
  rw [e, Nat.add_mul_mod_self_left, h, show 2 * (u / 2) = u by omega]
/-- v is taken from u, y from x. -/
theorem euc_sub {a x y u v P s : Nat} (hle : v ≤ u) (hx : a * x % P = u % P) (hy : a * y % P = v % P) (hs : s + y = x ∨ s + y = x + P) : a * s % P = (u - v) % P := by
  have h1 : (a * s + a * y) % P = (a * x) % P := by
    rw [← Nat.mul_add]
    rcases hs with e | e
    · rw [e]
    · rw [e, Nat.mul_add, Nat.mul_comm a P, Nat.add_mul_mod_self_left]
  have h2 : (a * s + v) % P = u % P := by
    rw [Nat.add_mod, ← hy, ← Nat.add_mod, h1, hx]
  have h3 : (a * s + v) % P = (u - v + v) % P := by rw [h2, Nat.sub_add_cancel hle]
  rcases Nat.eq_zero_or_pos P with rfl | hP
  · simp at h3 ⊢; omega
  · obtain ⟨k, hk⟩ : ∃ k, k + v % P = P := ⟨P - v % P, Nat.sub_add_cancel (Nat.le_of_lt (Nat.mod_lt _ hP))⟩
    have key : ∀ m : Nat, (m + v + k) % P = m % P := fun m => by
      have e : m + v + k = m + P * (v / P + 1) := by
        have := Nat.mod_add_div v P
        rw [Nat.mul_add]
        omega
      rw [e, Nat.add_mul_mod_self_left]
    rw [← key (a * s), ← key (u - v), Nat.add_mod, h3, ← Nat.add_mod]
theorem gcd_half {u v : Nat} (hu : u % 2 = 0) (h : Nat.gcd u v = 1) : Nat.gcd (u / 2) v = 1 := by
  have h1 : Nat.gcd (u / 2) v ∣ Nat.gcd u v := Nat.dvd_gcd (Nat.dvd_trans (Nat.gcd_dvd_left _ _) ⟨2, by omega⟩) (Nat.gcd_dvd_right _ _)
  rw [h] at h1
  exact Nat.dvd_one.1 h1
theorem gcd_sub' {u v : Nat} (hle : v ≤ u) (h : Nat.gcd u v = 1) : Nat.gcd (u - v) v = 1 := by
  have h1 : Nat.gcd (u - v) v ∣ Nat.gcd u v := Nat.dvd_gcd (by
    have h2 := Nat.dvd_add (Nat.gcd_dvd_left (u - v) v) (Nat.gcd_dvd_right (u - v) v)
    rwa [Nat.sub_add_cancel hle] at h2) (Nat.gcd_dvd_right _ _)
  rw [h] at h1
  exact Nat.dvd_one.1 h1
end Go.Proofs.YteaafnjflghlhaaDoor
namespace Go.Proofs.YteaafnjflghlhaaDoor

/-- prime -/
def Pr (p : Nat) : Prop := 1 < p ∧ ∀ m, m ∣ p → m = 1 ∨ m = p
theorem Pr.two {p : Nat} (h : Pr p) : 2 ≤ p := h.1
theorem Pr.cop {p a : Nat} (h : Pr p) (ha : ¬ p ∣ a) : Nat.Coprime p a := by
  rcases h.2 _ (Nat.gcd_dvd_left p a) with e | e
  · exact e
  · exact absurd (e ▸ Nat.gcd_dvd_right p a) ha
theorem Pr.mul {p a b : Nat} (h : Pr p) (hd : p ∣ a * b) : p ∣ a ∨ p ∣ b :=
  Classical.byCases (fun ha : p ∣ a => .inl ha) (fun ha => .inr ((h.cop ha).dvd_of_dvd_mul_left hd))
theorem Pr.pow {p a : Nat} (h : Pr p) : ∀ n, p ∣ a ^ n → p ∣ a
  | 0, hd => by
    have := Nat.dvd_one.1 (by simpa using hd)
    have := h.1
    omega
  | n + 1, hd => by
    rw [Nat.pow_succ] at hd
    exact (h.mul hd).elim (h.pow n) id
theorem pr_two : Pr 2 := ⟨by decide, fun m hm => by
  have h1 := Nat.le_of_dvd (by decide) hm
  have h2 : m ≠ 0 := fun e => by subst e; simp at hm
  omega⟩
theorem exists_pr : ∀ n : Nat, 1 < n → ∃ p, Pr p ∧ p ∣ n := by
  intro n
  induction n using Nat.strongRecOn with
  | _ n ih =>
    intro hn
    by_cases hp : Pr n
    · exact ⟨n, hp, Nat.dvd_refl n⟩
    · have : ¬ ∀ m, m ∣ n → m = 1 ∨ m = n := fun h => hp ⟨hn, h⟩
      obtain ⟨m, hm⟩ := Classical.not_forall.1 this
      obtain ⟨hd, hm⟩ := Classical.not_imp.1 hm
      have hle := Nat.le_of_dvd (by omega) hd
      have h0 : m ≠ 0 := fun e => by subst e; simp at hd; omega
      obtain ⟨p, hp, hpd⟩ := ih m (by omega) (by omega)
      exact ⟨p, hp, Nat.dvd_trans hpd hd⟩
/-- One that is not prime has a prime divisor whose square is not greater. -/
theorem small_pr {n : Nat} (hn : 1 < n) (h : ¬ Pr n) : ∃ p, Pr p ∧ p ∣ n ∧ p * p ≤ n := by
  have : ¬ ∀ m, m ∣ n → m = 1 ∨ m = n := fun h2 => h ⟨hn, h2⟩
  obtain ⟨m, hm⟩ := Classical.not_forall.1 this
  obtain ⟨hd, hm⟩ := Classical.not_imp.1 hm
  obtain ⟨k, hk⟩ := hd
  have hm0 : m ≠ 0 := fun e => by subst e; omega
  have hk0 : k ≠ 0 := fun e => by subst e; omega
  have hk1 : k ≠ 1 := fun e => by subst e; omega
  rcases Nat.le_total m k with hl | hl
  · obtain ⟨p, hp, hpd⟩ := exists_pr m (by omega)
    have := Nat.le_of_dvd (by omega) hpd
    refine ⟨p, hp, Nat.dvd_trans hpd ⟨k, hk⟩, ?_⟩
    have := Nat.mul_le_mul this (Nat.le_trans this hl)
    omega
  · obtain ⟨p, hp, hpd⟩ := exists_pr k (by omega)
    have := Nat.le_of_dvd (by omega) hpd
    refine ⟨p, hp, Nat.dvd_trans hpd ⟨m, by rw [hk, Nat.mul_comm]⟩, ?_⟩
    have := Nat.mul_le_mul (Nat.le_trans this hl) this
    omega

/-- binomial numbers -/
def ch : Nat → Nat → Nat
  | _, 0 => 1
  | 0, _ + 1 => 0
  | n + 1, k + 1 => ch n k + ch n (k + 1)
theorem ch_zero (n : Nat) : ch n 0 = 1 := by cases n <;> rfl
theorem ch_far : ∀ n k, n < k → ch n k = 0
  | _, 0, h => by omega
  | 0, _ + 1, _ => rfl
  | n + 1, k + 1, h => by
    have h1 := ch_far n k (by omega)
    have h2 := ch_far n (k + 1) (by omega)
    simp [ch, h1, h2]
theorem ch_mul : ∀ n k, (k + 1) * ch (n + 1) (k + 1) = (n + 1) * ch n k
  | 0, 0 => rfl
  | 0, k + 1 => by simp [ch]
  | n + 1, 0 => by
    have := ch_mul n 0
    simp only [ch_zero, ch] at this ⊢
    omega
  | n + 1, k + 1 => by
    have h1 := ch_mul n k
    have h2 := ch_mul n (k + 1)
    have e1 : ch (n + 1 + 1) (k + 1 + 1) = ch (n + 1) (k + 1) + ch (n + 1) (k + 1 + 1) := rfl
    have e2 : ch (n + 1) (k + 1) = ch n k + ch n (k + 1) := rfl
    rw [e1, Nat.mul_add, h2]
    have h3 : (k + 1 + 1) * ch (n + 1) (k + 1) = (n + 1) * ch n k + ch (n + 1) (k + 1) := by
      rw [Nat.add_mul (k + 1) 1, h1]; simp
    rw [h3, e2]
    grind
/-- a sum -/
def sm (f : Nat → Nat) : Nat → Nat
  | 0 => 0
  | n + 1 => sm f n + f n
theorem sm_shift (f : Nat → Nat) : ∀ n, sm f (n + 1) = f 0 + sm (fun k => f (k + 1)) n
  | 0 => by simp [sm]
  | n + 1 => by
    have := sm_shift f n
    simp only [sm] at this ⊢
    omega
theorem sm_add (f g : Nat → Nat) : ∀ n, sm (fun k => f k + g k) n = sm f n + sm g n
  | 0 => rfl
  | n + 1 => by
    have := sm_add f g n
    simp only [sm] at this ⊢
    omega
theorem sm_mul (f : Nat → Nat) (x : Nat) : ∀ n, sm (fun k => f k * x) n = sm f n * x
  | 0 => by simp [sm]
  | n + 1 => by
    have := sm_mul f x n
    simp only [sm] at this ⊢
    rw [this, Nat.add_mul]
theorem sm_congr {f g : Nat → Nat} : ∀ n, (∀ k, k < n → f k = g k) → sm f n = sm g n
  | 0, _ => rfl
  | n + 1, h => by simp only [sm]; rw [sm_congr n (fun k hk => h k (by omega)), h n (by omega)]
theorem binomial (x : Nat) : ∀ n, (x + 1) ^ n = sm (fun k => ch n k * x ^ k) (n + 1)
  | 0 => by simp [sm, ch]
  | n + 1 => by
    have ih := binomial x n
    have e1 : sm (fun k => ch (n + 1) k * x ^ k) (n + 1 + 1) = ch (n + 1) 0 * x ^ 0 + sm (fun k => ch (n + 1) (k + 1) * x ^ (k + 1)) (n + 1) := sm_shift _ _
    have e2 : sm (fun k => ch (n + 1) (k + 1) * x ^ (k + 1)) (n + 1) = sm (fun k => ch n k * x ^ k * x + ch n (k + 1) * x ^ (k + 1)) (n + 1) := sm_congr _ fun k _ => by
      show (ch n k + ch n (k + 1)) * x ^ (k + 1) = _
      rw [Nat.add_mul, Nat.pow_succ]; grind
    have e3 : sm (fun k => ch n k * x ^ k) (n + 1 + 1) = ch n 0 * x ^ 0 + sm (fun k => ch n (k + 1) * x ^ (k + 1)) (n + 1) := sm_shift _ _
    have e4 : sm (fun k => ch n k * x ^ k) (n + 1 + 1) = sm (fun k => ch n k * x ^ k) (n + 1) + ch n (n + 1) * x ^ (n + 1) := rfl
    rw [ch_far n (n + 1) (by omega), Nat.zero_mul, ← ih] at e4
    have e5 := sm_add (fun k => ch n k * x ^ k * x) (fun k => ch n (k + 1) * x ^ (k + 1)) (n + 1)
    have e6 := sm_mul (fun k => ch n k * x ^ k) x (n + 1)
    rw [← ih] at e6
    rw [Nat.pow_succ, Nat.mul_add]
    rw [ch_zero, Nat.pow_zero, Nat.mul_one] at e1 e3
    rw [e1, e2, e5, e6]
    rw [e3] at e4
    omega
theorem sm_dvd {p : Nat} {f : Nat → Nat} : ∀ n, (∀ k, k < n → p ∣ f k) → p ∣ sm f n
  | 0, _ => Nat.dvd_zero p
  | n + 1, h => Nat.dvd_add (sm_dvd n fun k hk => h k (by omega)) (h n (by omega))
theorem Pr.ch {p k : Nat} (h : Pr p) (h0 : 0 < k) (hk : k < p) : p ∣ ch p k := by
  obtain ⟨j, rfl⟩ : ∃ j, k = j + 1 := ⟨k - 1, by omega⟩
  obtain ⟨n, rfl⟩ : ∃ n, p = n + 1 := ⟨p - 1, by omega⟩
  refine (h.mul ⟨_, ch_mul n j⟩).resolve_left fun hd => ?_
  have := Nat.le_of_dvd (by omega) hd
  omega
/-- Fermat's little theorem -/
theorem fermat {p : Nat} (h : Pr p) : ∀ a : Nat, a ^ p % p = a % p
  | 0 => by
    have := h.1
    rw [Nat.zero_pow (by omega)]
  | a + 1 => by
    have ih := fermat h a
    have := h.1
    obtain ⟨n, rfl⟩ : ∃ n, p = n + 1 := ⟨p - 1, by omega⟩
    have e1 : (a + 1) ^ (n + 1) = 1 + sm (fun k => Go.Proofs.YteaafnjflghlhaaDoor.ch (n + 1) (k + 1) * a ^ (k + 1)) n + a ^ (n + 1) := by
      rw [binomial a (n + 1)]
      have e : sm (fun k => Go.Proofs.YteaafnjflghlhaaDoor.ch (n + 1) k * a ^ k) (n + 1 + 1) = sm (fun k => Go.Proofs.YteaafnjflghlhaaDoor.ch (n + 1) k * a ^ k) (n + 1) + Go.Proofs.YteaafnjflghlhaaDoor.ch (n + 1) (n + 1) * a ^ (n + 1) := rfl
      rw [e, sm_shift]
      have c1 : ∀ m, Go.Proofs.YteaafnjflghlhaaDoor.ch m m = 1 := fun m => by
        induction m with
        | zero => rfl
        | succ m ih => show Go.Proofs.YteaafnjflghlhaaDoor.ch m m + Go.Proofs.YteaafnjflghlhaaDoor.ch m (m + 1) = 1; rw [ih, ch_far m (m + 1) (by omega)]
      rw [c1, ch_zero]
      simp
    have hd : (n + 1) ∣ sm (fun k => Go.Proofs.YteaafnjflghlhaaDoor.ch (n + 1) (k + 1) * a ^ (k + 1)) n := sm_dvd n fun k hk => Nat.dvd_trans (h.ch (by omega) (by omega)) (Nat.dvd_mul_right _ _)
    obtain ⟨c, hc⟩ := hd
    rw [e1, hc, show 1 + (n + 1) * c + a ^ (n + 1) = a ^ (n + 1) + 1 + (n + 1) * c by omega, Nat.add_mul_mod_self_left, Nat.add_mod, ih, ← Nat.add_mod]
theorem fermat_one {p a : Nat} (h : Pr p) (ha : ¬ p ∣ a) : a ^ (p - 1) % p = 1 := by
  have h1 := h.1
  have hf := fermat h a
  have e : a ^ p = a * a ^ (p - 1) := by
    conv => lhs; rw [show p = p - 1 + 1 by omega]
    rw [Nat.pow_succ, Nat.mul_comm]
  have hpos : 0 < a ^ (p - 1) := Nat.pow_pos (Nat.pos_of_ne_zero fun e => ha (e ▸ Nat.dvd_zero p))
  have hd : p ∣ a * (a ^ (p - 1) - 1) := by
    rw [Nat.mul_sub, Nat.mul_one, ← e]
    exact Nat.dvd_of_mod_eq_zero (Nat.sub_mod_eq_zero_of_mod_eq hf)
  obtain ⟨c, hc⟩ := (h.mul hd).resolve_left ha
  rw [show a ^ (p - 1) = 1 + p * c by omega, Nat.add_mul_mod_self_left, Nat.mod_eq_of_lt h1]
theorem pow_one_mul {p a m : Nat} (hp : 1 < p) (h : a ^ m % p = 1) (k : Nat) : a ^ (m * k) % p = 1 := by
  rw [Nat.pow_mul, Nat.pow_mod, h, Nat.one_pow, Nat.mod_eq_of_lt hp]
theorem pow_one_gcd {p a : Nat} (hp : 1 < p) : ∀ m l, a ^ m % p = 1 → a ^ l % p = 1 → a ^ Nat.gcd m l % p = 1 := by
  intro m
  induction m using Nat.strongRecOn with
  | _ m ih =>
    intro l hm hl
    by_cases h0 : m = 0
    · subst h0; simpa using hl
    · rw [Nat.gcd_rec]
      refine ih (l % m) (Nat.mod_lt _ (by omega)) m ?_ hm
      have e : a ^ l = a ^ (m * (l / m)) * a ^ (l % m) := by rw [← Nat.pow_add, Nat.div_add_mod]
      rw [e, Nat.mul_mod, pow_one_mul hp hm, Nat.one_mul, Nat.mod_mod] at hl
      exact hl
def pd : List (Nat × Nat) → Nat
  | [] => 1
  | (q, e) :: l => q ^ e * pd l
theorem pd_cop {k : Nat} : ∀ l : List (Nat × Nat), (∀ x ∈ l, Nat.Coprime x.1 k) → Nat.Coprime (pd l) k
  | [], _ => Nat.coprime_one_left k
  | (q, e) :: l, h => Nat.Coprime.mul_left (Nat.Coprime.pow_left e (h (q, e) (by simp))) (pd_cop l fun x hx => h x (by simp [hx]))
/-- Pocklington's test -/
theorem pock {n a : Nat} (l : List (Nat × Nat)) (h1 : 1 < n) (hd : pd l ∣ n - 1) (hF : n < pd l * pd l) (ha : a ^ (n - 1) % n = 1)
    (hq : ∀ x ∈ l, Pr x.1 ∧ Nat.gcd (a ^ ((n - 1) / x.1) % n + (n - 1)) n = 1) : Pr n := by
  refine Classical.byContradiction fun hn => ?_
  obtain ⟨p, hp, hpn, hpp⟩ := small_pr h1 hn
  have hp1 := hp.1
  have down : ∀ x, x % n = 1 → x % p = 1 := fun x hx => by
    rw [← Nat.mod_mod_of_dvd x hpn, hx, Nat.mod_eq_of_lt hp1]
  have hap := down _ ha
  have hna : ¬ p ∣ a := fun hd => by
    obtain ⟨c, rfl⟩ := hd
    have : n - 1 ≠ 0 := by omega
    obtain ⟨m, hm⟩ : ∃ m, n - 1 = m + 1 := ⟨n - 2, by omega⟩
    rw [hm, Nat.pow_succ, show (p * c) ^ m * (p * c) = p * ((p * c) ^ m * c) by grind, Nat.mul_mod_right] at hap
    omega
  have hf := fermat_one hp hna
  have hg := pow_one_gcd hp1 _ _ hf hap
  obtain ⟨k, hk⟩ := Nat.gcd_dvd_right (p - 1) (n - 1)
  have hc : Nat.Coprime (pd l) k := pd_cop l fun x hx => by
    obtain ⟨hx1, hx2⟩ := hq x hx
    refine hx1.cop fun hxk => ?_
    obtain ⟨j, rfl⟩ := hxk
    have e : (n - 1) / x.1 = Nat.gcd (p - 1) (n - 1) * j := by
      conv => lhs; rw [hk, show (p - 1).gcd (n - 1) * (x.1 * j) = x.1 * ((p - 1).gcd (n - 1) * j) by grind]
      exact Nat.mul_div_cancel_left _ (by have := hx1.1; omega)
    have h2 := pow_one_mul hp1 hg j
    rw [← e] at h2
    have hpd : p ∣ a ^ ((n - 1) / x.1) % n + (n - 1) := by
      refine Nat.dvd_of_mod_eq_zero ?_
      have e1 : a ^ ((n - 1) / x.1) % n % p = 1 := by rw [Nat.mod_mod_of_dvd _ hpn]; exact h2
      have e2 := Nat.mod_add_div (a ^ ((n - 1) / x.1) % n) p
      rw [e1] at e2
      obtain ⟨c, hc⟩ := hpn
      have e3 : a ^ ((n - 1) / x.1) % n + (n - 1) = p * (a ^ ((n - 1) / x.1) % n / p + c) := by
        rw [Nat.mul_add, ← hc]
        omega
      rw [e3, Nat.mul_mod_right]
    have := Nat.dvd_gcd hpd hpn
    rw [hx2] at this
    have := Nat.dvd_one.1 this
    omega
  have hFg : pd l ∣ Nat.gcd (p - 1) (n - 1) := hc.dvd_of_dvd_mul_right (by rw [← hk]; exact hd)
  have hFp := Nat.le_of_dvd (by omega) (Nat.dvd_trans hFg (Nat.gcd_dvd_left _ _))
  have := Nat.mul_le_mul (show pd l ≤ p by omega) (show pd l ≤ p by omega)
  omega
/-- powers, from the highest bit down -/
def pw (n a : Nat) : Nat → Nat → Nat
  | 0, _ => 1 % n
  | f + 1, e => match pw n a f (e / 2) with
    | r => match e % 2 with
      | 0 => r * r % n
      | _ + 1 => r * r % n * a % n
theorem pw_eq (n a : Nat) : ∀ f e, e < 2 ^ f → pw n a f e = a ^ e % n
  | 0, e, h => by
    have : e = 0 := by simpa using h
    subst this; simp [pw]
  | f + 1, e, h => by
    have ih := pw_eq n a f (e / 2) (by rw [Nat.pow_succ] at h; omega)
    have e2 : a ^ e = a ^ (e / 2) * a ^ (e / 2) * a ^ (e % 2) := by
      rw [← Nat.pow_add, ← Nat.pow_add]; congr 1; omega
    rcases (show e % 2 = 0 ∨ e % 2 = 1 by omega) with h2 | h2
    · simp only [pw, h2, ih]
      rw [e2, h2, Nat.pow_zero, Nat.mul_one, ← Nat.mul_mod]
    · simp only [pw, h2, ih]
      rw [e2, h2, Nat.pow_one, ← Nat.mul_mod, Nat.mod_mul_mod]
/-- A row of a certificate: the number, a witness, prime powers. -/
structure Cer where
  n : Nat
  a : Nat
  l : List (Nat × Nat)
def cerOK (done : List Nat) (c : Cer) : Bool :=
  Nat.blt 1 c.n && Nat.beq ((c.n - 1) % pd c.l) 0 && Nat.blt c.n (pd c.l * pd c.l) && Nat.blt c.n (2 ^ 400) && Nat.beq (pw c.n c.a 400 (c.n - 1)) 1 &&
    c.l.all fun x => done.any (fun y => Nat.beq x.1 y) && Nat.beq (Nat.gcd (pw c.n c.a 400 ((c.n - 1) / x.1) + (c.n - 1)) c.n) 1
theorem cerOK_pr {done : List Nat} {c : Cer} (hd : ∀ y ∈ done, Pr y) (h : cerOK done c = true) : Pr c.n := by
  simp only [cerOK, Bool.and_eq_true, List.all_eq_true, List.any_eq_true] at h
  obtain ⟨⟨⟨⟨⟨h1, h2⟩, h3⟩, h4⟩, h5⟩, h6⟩ := h
  have h1 : 1 < c.n := by simpa using h1
  have h4 : c.n < 2 ^ 400 := Nat.le_of_ble_eq_true h4
  have h3 : c.n < pd c.l * pd c.l := Nat.le_of_ble_eq_true h3
  refine pock (a := c.a) c.l h1 (Nat.dvd_of_mod_eq_zero (by simpa using h2)) h3 ?_ fun x hx => ?_
  · rw [← pw_eq c.n c.a 400 _ (by omega)]; simpa using h5
  · obtain ⟨⟨y, hy, hxy⟩, h7⟩ := h6 x hx
    have hxy : x.1 = y := by simpa using hxy
    refine ⟨hxy ▸ hd y hy, ?_⟩
    rw [← pw_eq c.n c.a 400 _ (Nat.lt_of_le_of_lt (Nat.div_le_self _ _) (by omega))]
    simpa using h7
def cers : List Nat → List Cer → Bool
  | _, [] => true
  | done, c :: l => cerOK done c && cers (c.n :: done) l
theorem cers_pr : ∀ (l : List Cer) (done : List Nat), (∀ y ∈ done, Pr y) → cers done l = true → ∀ c ∈ l, Pr c.n
  | [], _, _, _, c, hc => by simp at hc
  | d :: l, done, hd, h, c, hc => by
    simp only [cers, Bool.and_eq_true] at h
    have h1 := cerOK_pr hd h.1
    rcases List.mem_cons.1 hc with rfl | hc
    · exact h1
    · exact cers_pr l (d.n :: done) (fun y hy => by
        rcases List.mem_cons.1 hy with rfl | hy
        · exact h1
        · exact hd y hy) h.2 c hc
/-- the certificates of the six primes -/
def cerRows : List Cer := [
  ⟨3, 2, [(2, 1)]⟩,
  ⟨271, 2, [(3, 3)]⟩,
  ⟨1627, 2, [(271, 1)]⟩,
  ⟨41, 3, [(2, 3)]⟩,
  ⟨83, 2, [(41, 1)]⟩,
  ⟨2657, 2, [(83, 1)]⟩,
  ⟨5, 2, [(2, 2)]⟩,
  ⟨11, 2, [(5, 1)]⟩,
  ⟨67, 2, [(11, 1)]⟩,
  ⟨4423, 2, [(67, 1)]⟩,
  ⟨41201, 3, [(2, 4), (5, 2)]⟩,
  ⟨101, 2, [(5, 2)]⟩,
  ⟨96557, 2, [(2, 2), (101, 1)]⟩,
  ⟨255515944373312847190720520512484175977, 2, [(1627, 1), (2657, 1), (4423, 1), (41201, 1), (96557, 1)]⟩,
  ⟨205115282021455665897114700593932402728804164701536103180137503955397371, 2, [(255515944373312847190720520512484175977, 1)]⟩,
  ⟨115792089237316195423570985008687907853269984665640564039457584007908834671663, 2, [(205115282021455665897114700593932402728804164701536103180137503955397371, 1)]⟩,
  ⟨631, 2, [(3, 2), (5, 1)]⟩,
  ⟨16699, 3, [(3, 1), (11, 2)]⟩,
  ⟨2861, 2, [(5, 1), (11, 1)]⟩,
  ⟨85831, 2, [(2861, 1)]⟩,
  ⟨107361793816595537, 2, [(16699, 1), (85831, 1)]⟩,
  ⟨7, 2, [(3, 1)]⟩,
  ⟨29, 2, [(7, 1)]⟩,
  ⟨59, 2, [(29, 1)]⟩,
  ⟨4051, 3, [(3, 4)]⟩,
  ⟨19, 2, [(3, 2)]⟩,
  ⟨120233, 3, [(2, 3), (7, 1), (19, 1)]⟩,
  ⟨174723607534414371449, 2, [(59, 1), (4051, 1), (120233, 1)]⟩,
  ⟨115792089237316195423570985008687907852837564279074904382605163141518161494337, 2, [(631, 1), (107361793816595537, 1), (174723607534414371449, 1)]⟩,
  ⟨1853641, 17, [(2, 3), (3, 2), (19, 1)]⟩,
  ⟨17, 3, [(2, 4)]⟩,
  ⟨109, 3, [(3, 3)]⟩,
  ⟨4562087, 5, [(2, 1), (17, 1), (109, 1)]⟩,
  ⟨2221, 2, [(2, 2), (3, 1), (5, 1)]⟩,
  ⟨13327, 2, [(2221, 1)]⟩,
  ⟨173171039, 2, [(13327, 1)]⟩,
  ⟨13427688667394608761327070753331941386769, 2, [(1853641, 1), (4562087, 1), (173171039, 1)]⟩,
  ⟨21888242871839275222246405745257275088696311157297823662689037894645226208583, 2, [(13427688667394608761327070753331941386769, 1)]⟩,
  ⟨13, 2, [(2, 2)]⟩,
  ⟨491, 2, [(7, 2)]⟩,
  ⟨983, 2, [(491, 1)]⟩,
  ⟨5501, 2, [(5, 3)]⟩,
  ⟨11003, 2, [(5501, 1)]⟩,
  ⟨237073, 15, [(2, 4), (3, 1), (11, 1)]⟩,
  ⟨3691, 2, [(2, 1), (3, 2), (5, 1)]⟩,
  ⟨405928799, 2, [(11, 1), (3691, 1)]⟩,
  ⟨661, 2, [(2, 2), (3, 1), (5, 1)]⟩,
  ⟨12048837557, 2, [(2, 2), (7, 2), (661, 1)]⟩,
  ⟨5156902474397, 2, [(12048837557, 1)]⟩,
  ⟨1670836401704629, 2, [(5156902474397, 1)]⟩,
  ⟨21888242871839275222246405745257275088548364400416034343698204186575808495617, 5, [(13, 1), (29, 1), (983, 1), (11003, 1), (237073, 1), (405928799, 1), (1670836401704629, 1)]⟩,
  ⟨113, 3, [(2, 4)]⟩,
  ⟨1151, 17, [(2, 1), (5, 2)]⟩,
  ⟨755057, 2, [(1151, 1)]⟩,
  ⟨3819663927398918131021, 6, [(3, 2), (5, 1), (19, 1), (113, 1), (755057, 1)]⟩,
  ⟨1125266252156850182658904441386709967, 2, [(3819663927398918131021, 1)]⟩,
  ⟨15778400344354997994418419698270088123916926905054652752758194827714659, 2, [(1125266252156850182658904441386709967, 1)]⟩,
  ⟨4002409555221667393417789825735904156556882819939007885332058136124031650490837864442687629129015664037894272559787, 2, [(15778400344354997994418419698270088123916926905054652752758194827714659, 1)]⟩,
  ⟨10177, 7, [(2, 6), (3, 1)]⟩,
  ⟨523, 2, [(29, 1)]⟩,
  ⟨20921, 2, [(523, 1)]⟩,
  ⟨125527, 2, [(20921, 1)]⟩,
  ⟨47737, 3, [(3, 3), (13, 1)]⟩,
  ⟨859267, 2, [(47737, 1)]⟩,
  ⟨73, 2, [(3, 2)]⟩,
  ⟨1607, 2, [(73, 1)]⟩,
  ⟨906349, 2, [(1607, 1)]⟩,
  ⟨52435875175126190479447740508185965837690552500527637822603658699938581184513, 5, [(2, 32), (11, 1), (19, 1), (10177, 1), (125527, 1), (859267, 1), (906349, 2)]⟩]
theorem cerRows_ok : cers [2] cerRows = true := by kernel_rfl
end Go.Proofs.YteaafnjflghlhaaDoor
namespace Go.Proofs.YteaafnjflghlhaaDoor
open Go.RowKit

/-- What a number enters as. -/
def mt (P R a : Nat) : Nat := a * R % P
theorem mt_lt {P R a : Nat} (hP : 1 < P) : mt P R a < P := Nat.mod_lt _ (by omega)
theorem mt_eq {P R Ri a b : Nat} (hR : R * Ri % P = 1 % P) : mt P R a = mt P R b ↔ a % P = b % P := by
  constructor
  · intro h
    have k : ∀ x, mt P R x * 1 * Ri % P = x % P := fun x => mont_leave hR
    rw [← k a, h, k b]
  · intro h
    unfold mt
    rw [Nat.mul_mod, h, ← Nat.mul_mod]
theorem mt_mod {P R a : Nat} : mt P R (a % P) = mt P R a := by unfold mt; rw [Nat.mul_mod, Nat.mod_mod, ← Nat.mul_mod]

theorem pow_mod_eq {P a b : Nat} (h : a % P = b % P) (n : Nat) : a ^ n % P = b ^ n % P := by rw [Nat.pow_mod, h, ← Nat.pow_mod]
/-- Euler's criterion, of squares. -/
theorem euler_sq {P a s : Nat} (hP : Pr P) (ho : P % 2 = 1) (ha : ¬ P ∣ a) (h : s * s % P = a % P) : a ^ ((P - 1) / 2) % P = 1 := by
  have hs : ¬ P ∣ s := fun ⟨c, hc⟩ => ha (Nat.dvd_of_mod_eq_zero (by rw [← h, hc, Nat.mul_assoc, Nat.mul_mod_right]))
  rw [← pow_mod_eq h, ← Nat.pow_two, ← Nat.pow_mul, show 2 * ((P - 1) / 2) = P - 1 by omega]
  exact fermat_one hP hs
theorem mod_cancel {P m n k : Nat} (hP : 0 < P) (h : (m + k) % P = (n + k) % P) : m % P = n % P := by
  obtain ⟨j, hj⟩ : ∃ j, k % P + j = P := ⟨P - k % P, by have := Nat.mod_lt k hP; omega⟩
  have key : ∀ x : Nat, (x + k + j) % P = x % P := fun x => by
    have e : x + k + j = x + P * (k / P + 1) := by
      have := Nat.mod_add_div k P
      rw [Nat.mul_add]
      omega
    rw [e, Nat.add_mul_mod_self_left]
  rw [← key m, ← key n, Nat.add_mod, h, ← Nat.add_mod]
/-- A root of 1 is 1 or -1. -/
theorem root_one {P x : Nat} (hP : Pr P) (h : x * x % P = 1) : x % P = 1 ∨ x % P = P - 1 := by
  have hp := hP.1
  have hx : x ≠ 0 := fun e => by subst e; simp at h
  obtain ⟨y, rfl⟩ : ∃ y, x = y + 1 := ⟨x - 1, by omega⟩
  have hd : P ∣ y * (y + 2) := by
    refine (Nat.dvd_iff_mod_eq_zero).2 ?_
    have e : (y + 1) * (y + 1) = y * (y + 2) + 1 := by grind
    rw [e] at h
    have h1 : (y * (y + 2) + 1) % P = (0 + 1) % P := by rw [h, Nat.zero_add, Nat.mod_eq_of_lt hp]
    have h2 : y * (y + 2) % P = 0 % P := mod_cancel (k := 1) (by omega) h1
    rw [h2, Nat.zero_mod]
  rcases hP.mul hd with ⟨c, hc⟩ | ⟨c, hc⟩
  · left
    rw [hc, Nat.mul_add_mod, Nat.mod_eq_of_lt hp]
  · right
    have hc0 : c ≠ 0 := fun e => by subst e; simp at hc
    obtain ⟨d, rfl⟩ : ∃ d, c = d + 1 := ⟨c - 1, by omega⟩
    rw [Nat.mul_add, Nat.mul_one] at hc
    have : y + 1 = P * d + (P - 1) := by omega
    rw [this, Nat.mul_add_mod, Nat.mod_eq_of_lt (by omega)]
/-- Two numbers of one square are the same, or opposite. -/
theorem root_two {P t b : Nat} (hP : Pr P) (h : t * t % P = b * b % P) : t % P = b % P ∨ (t + b) % P = 0 := by
  have hp := hP.1
  rcases Nat.le_total t b with hl | hl
  · obtain ⟨d, rfl⟩ : ∃ d, b = t + d := ⟨b - t, by omega⟩
    have hd : P ∣ d * (t + (t + d)) := by
      refine (Nat.dvd_iff_mod_eq_zero).2 ?_
      have e : (t + d) * (t + d) = t * t + d * (t + (t + d)) := by grind
      rw [e] at h
      have h1 : (d * (t + (t + d)) + t * t) % P = (0 + t * t) % P := by rw [Nat.zero_add, Nat.add_comm, ← h]
      have h2 : d * (t + (t + d)) % P = 0 % P := mod_cancel (by omega) h1
      rw [h2, Nat.zero_mod]
    rcases hP.mul hd with ⟨c, hc⟩ | ⟨c, hc⟩
    · left; rw [hc, Nat.add_mul_mod_self_left]
    · right; rw [hc, Nat.mul_mod_right]
  · obtain ⟨d, rfl⟩ : ∃ d, t = b + d := ⟨t - b, by omega⟩
    have hd : P ∣ d * (b + (b + d)) := by
      refine (Nat.dvd_iff_mod_eq_zero).2 ?_
      have e : (b + d) * (b + d) = b * b + d * (b + (b + d)) := by grind
      rw [e] at h
      have h1 : (d * (b + (b + d)) + b * b) % P = (0 + b * b) % P := by rw [Nat.zero_add, Nat.add_comm, h]
      have h2 : d * (b + (b + d)) % P = 0 % P := mod_cancel (by omega) h1
      rw [h2, Nat.zero_mod]
    rcases hP.mul hd with ⟨c, hc⟩ | ⟨c, hc⟩
    · left; rw [hc, Nat.add_mul_mod_self_left]
    · right; rw [show b + d + b = b + (b + d) by omega, hc, Nat.mul_mod_right]
theorem neg_sq {P : Nat} (hP : 1 < P) : (P - 1) * (P - 1) % P = 1 := by
  obtain ⟨n, rfl⟩ : ∃ n, P = n + 2 := ⟨P - 2, by omega⟩
  have e : (n + 2 - 1) * (n + 2 - 1) = 1 + (n + 2) * n := by
    rw [show n + 2 - 1 = n + 1 by omega]
    grind
  rw [e, Nat.add_mul_mod_self_left, Nat.mod_eq_of_lt hP]

/-- What a round of Shanks's loop keeps of root, rest and step. -/
structure Shk (P a n A r t : Nat) : Prop where
  zero : a % P = 0 → A % P = 0
  sq : a ^ ((P - 1) / 2) % P = 1 → A * A % P = a * r % P
  rest : a ^ ((P - 1) / 2) % P = 1 → r ^ 2 ^ n % P = 1
  step : t ^ 2 ^ n % P = P - 1
theorem Shk.done {P a A r t : Nat} (h : Shk P a 0 A r t) (hs : a % P = 0 ∨ a ^ ((P - 1) / 2) % P = 1) : A * A % P = a % P := by
  rcases hs with hs | hs
  · rw [Nat.mul_mod, h.zero hs, hs, Nat.mul_zero, Nat.zero_mod]
  · have h1 := h.rest hs
    rw [Nat.pow_zero, Nat.pow_one] at h1
    rw [h.sq hs, Nat.mul_mod, h1, Nat.mul_one, Nat.mod_mod]
theorem pow_two_succ (x n : Nat) : x ^ 2 ^ (n + 1) = (x * x) ^ 2 ^ n := by rw [Nat.pow_succ, Nat.mul_comm, Nat.pow_mul, Nat.pow_two]
/-- A round where the power of the rest is 1. -/
theorem Shk.same {P a n A r t : Nat} (h : Shk P a (n + 1) A r t) (hr : r ^ 2 ^ n % P = 1) : Shk P a n A r (t * t) :=
  ⟨h.zero, h.sq, fun _ => hr, by rw [← pow_two_succ]; exact h.step⟩
/-- A round where it is not. -/
theorem Shk.turn {P a n A r t : Nat} (hP : Pr P) (h : Shk P a (n + 1) A r t) (hr : r ^ 2 ^ n % P ≠ 1) : Shk P a n (A * t) (r * (t * t)) (t * t) := by
  refine ⟨fun hz => ?_, fun hs => ?_, fun hs => ?_, by rw [← pow_two_succ]; exact h.step⟩
  · rw [Nat.mul_mod, h.zero hz, Nat.zero_mul, Nat.zero_mod]
  · have e1 : A * t * (A * t) = A * A * (t * t) := by grind
    have e2 : a * (r * (t * t)) = a * r * (t * t) := by grind
    rw [e1, e2, Nat.mul_mod, h.sq hs, ← Nat.mul_mod]
  · have h1 := h.rest hs
    have e : r ^ 2 ^ (n + 1) = r ^ 2 ^ n * r ^ 2 ^ n := by rw [Nat.pow_succ, Nat.pow_mul, Nat.pow_two]
    rw [e] at h1
    have h2 := (root_one hP h1).resolve_left hr
    have h3 := h.step
    rw [pow_two_succ] at h3
    rw [Nat.mul_pow, Nat.mul_mod, h2, h3]
    exact neg_sq hP.1
/-- How Shanks's loop begins: P - 1 is q times 2^(n + 1), step a power of what is no square. -/
theorem Shk.first {P a q n g : Nat} (hq : P - 1 = q * 2 ^ (n + 1)) (ho : q % 2 = 1) (hg : g ^ ((P - 1) / 2) % P = P - 1) : Shk P a n (a * a ^ ((q - 1) / 2)) (a * a ^ ((q - 1) / 2) * a ^ ((q - 1) / 2)) (g ^ q) := by
  have e2 : (P - 1) / 2 = q * 2 ^ n := by rw [hq, Nat.pow_succ, ← Nat.mul_assoc, Nat.mul_div_cancel _ (by omega)]
  have e3 : a * a ^ ((q - 1) / 2) * a ^ ((q - 1) / 2) = a ^ q := by
    rw [Nat.mul_assoc, ← Nat.pow_add, Nat.mul_comm, ← Nat.pow_succ]
    congr 1
    omega
  refine ⟨fun h => ?_, fun _ => ?_, fun h => ?_, by rw [← Nat.pow_mul, ← e2]; exact hg⟩
  · rw [Nat.mul_mod, h, Nat.zero_mul, Nat.zero_mod]
  · congr 1
    grind
  · rw [e3, ← Nat.pow_mul, ← e2]; exact h
/-- Where P - 1 is twice an odd number, the first root is one. -/
theorem first_root {P a : Nat} (h4 : P % 4 = 3) (hs : a % P = 0 ∨ a ^ ((P - 1) / 2) % P = 1) : (a * a ^ (P / 4)) * (a * a ^ (P / 4)) % P = a % P := by
  rcases hs with hs | hs
  · rw [Nat.mul_mod, Nat.mul_mod a, hs, Nat.zero_mul, Nat.zero_mod, Nat.mul_zero, Nat.zero_mod]
  · have e : a * a ^ (P / 4) * (a * a ^ (P / 4)) = a * a ^ ((P - 1) / 2) := by
      rw [show (P - 1) / 2 = P / 4 + P / 4 + 1 by omega, Nat.pow_succ, Nat.pow_add]
      grind
    rw [e, Nat.mul_mod, hs, Nat.mul_one, Nat.mod_mod]
end Go.Proofs.YteaafnjflghlhaaDoor
namespace Go.Proofs.YteaafnjflghlhaaDoor
open Go.RowKit

/-- A number lies in a block. -/
def At6 (w : World) (g n : Nat) : Prop := ∃ x0 x1 x2 x3 x4 x5, Six w g x0 x1 x2 x3 x4 x5 ∧ Lim6 x0 x1 x2 x3 x4 x5 ∧ n6 x0 x1 x2 x3 x4 x5 = n
theorem At6.keepB {w w' : World} {g n : Nat} (h : At6 w g n) (hb : w'.heap[g]? = w.heap[g]?) : At6 w' g n := by
  obtain ⟨_, _, _, _, _, _, h, l, e⟩ := h
  exact ⟨_, _, _, _, _, _, h.keepB hb, l, e⟩
theorem At6.put {w w' : World} {g f o n : Nat} (h : At6 w f n) (p : Put6 g o w w') (hn : f ≠ g) : At6 w' f n := h.keepB (p.block f hn)
theorem Six.put {w w' : World} {g f o x0 x1 x2 x3 x4 x5 : Nat} (h : Six w f x0 x1 x2 x3 x4 x5) (p : Put6 g o w w') (hn : f ≠ g) : Six w' f x0 x1 x2 x3 x4 x5 := h.keepB (p.block f hn)
theorem Put6.low {b g o : Nat} {w w' : World} (p : Put6 g o w w') (hb : b ≤ g) : Below b w w' := ⟨p.os, p.tape, p.output, Nat.le_of_eq p.size.symm, fun k hk => p.block k (by omega)⟩
/-- A number lies in a block, from a cell on. -/
def AtO (w : World) (g o n : Nat) : Prop := ∃ x0 x1 x2 x3 x4 x5, L6 w g o x0 x1 x2 x3 x4 x5 ∧ Lim6 x0 x1 x2 x3 x4 x5 ∧ n6 x0 x1 x2 x3 x4 x5 = n
theorem At6.o {w : World} {g n : Nat} (h : At6 w g n) : AtO w g 0 n := by
  obtain ⟨_, _, _, _, _, _, h, l, e⟩ := h
  exact ⟨_, _, _, _, _, _, h.1, l, e⟩
theorem At6.lt {w : World} {g n : Nat} (h : At6 w g n) : g < w.heap.size := by
  obtain ⟨_, _, _, _, _, _, h, _, _⟩ := h
  exact h.1.lt
theorem Six.at6 {w : World} {g x0 x1 x2 x3 x4 x5 : Nat} (h : Six w g x0 x1 x2 x3 x4 x5) (l : Lim6 x0 x1 x2 x3 x4 x5) : At6 w g (n6 x0 x1 x2 x3 x4 x5) := ⟨_, _, _, _, _, _, h, l, rfl⟩
theorem lim6_0 : Lim6 0 0 0 0 0 0 := ⟨lim0, lim0, lim0, lim0, lim0, lim0⟩
/-- R of a prime of so many limbs. -/
abbrev RR (L : Nat) : Nat := 18446744073709551616 ^ L
theorem FldAt.one {P L B : Nat} {w : World} (h : FldAt P L w B) : AtO w B 8 (mt P (RR L) 1) := by
  obtain ⟨_, _, _, _, _, _, _, _, _, _, _, _, _, _, _, _, _, _, _, h⟩ := h
  exact ⟨_, _, _, _, _, _, h.ho, h.lo, by rw [h.no]; unfold mt; rw [Nat.one_mul]⟩
theorem FldAt.square {P L B : Nat} {w : World} (h : FldAt P L w B) : AtO w B 14 (mt P (RR L) (RR L)) := by
  obtain ⟨_, _, _, _, _, _, _, _, _, _, _, _, _, _, _, _, _, _, _, h⟩ := h
  exact ⟨_, _, _, _, _, _, h.hq, h.lq, h.nq⟩
/-- What is below the prime is what something entered as. -/
theorem mt_raw {P R Ri n : Nat} (hR : R * Ri % P = 1 % P) : mt P R (n * Ri) = n % P := by
  unfold mt
  have e : n * Ri * R = n * (R * Ri) := by grind
  rw [e, Nat.mul_mod, hR, ← Nat.mul_mod, Nat.mul_one]
theorem ftimesM_c {P L B g f p h q z a b : Nat} (w : World) (hk : FNum P L) (hF : FldAt P L w B) (ha : AtO w f p (mt P (RR L) a)) (hb : AtO w h q (mt P (RR L) b)) (hz : At6 w g z) (hn : g ≠ B) :
    Calls Tryd.prog 33 #[.pointer (some ⟨B, 0, none⟩), .pointer (some ⟨g, 0, none⟩), .pointer (some ⟨f, p, none⟩), .pointer (some ⟨h, q, none⟩)] w fun e w' => e = .returned (.tuple #[]) ∧ Put6 g 0 w w' ∧ At6 w' g (mt P (RR L) (a * b)) := by
  obtain ⟨p0, p1, p2, p3, p4, p5, v, o0, o1, o2, o3, o4, o5, q0, q1, q2, q3, q4, q5, hC⟩ := hF
  obtain ⟨a0, a1, a2, a3, a4, a5, ha, la, ea⟩ := ha
  obtain ⟨b0, b1, b2, b3, b4, b5, hb, lb, eb⟩ := hb
  obtain ⟨z0, z1, z2, z3, z4, z5, hz, lz, ez⟩ := hz
  have hL6 : L ≤ 6 := by rcases hk.limbs with e | e <;> omega
  have bb : n6 b0 b1 b2 b3 b4 b5 < n6 p0 p1 p2 p3 p4 p5 := by rw [eb, hC.np]; exact mt_lt hk.pos
  refine (ftimes_c w hC.hp hC.lp hC.hL hC.hv hL6 ha la hb lb ⟨_, _, _, _, _, _, hz.1⟩ hz.2 hn bb (by rw [hC.np]; exact hk.dbl) (by rw [hC.np]; exact hC.iv)).mono ?_
  rintro e w' ⟨rfl, hp, s0, s1, s2, s3, s4, s5, S, hs, ls, hM, hLo⟩
  obtain ⟨Ri, hRi⟩ := hk.ri
  obtain ⟨-, es⟩ := mont_times hM bb hLo (by rw [hC.np]; exact hRi)
  refine ⟨rfl, hp, s0, s1, s2, s3, s4, s5, ⟨hs, fun k => (hp.frozen k).trans (hz.2 k)⟩, ls, ?_⟩
  rw [es, hC.np, ea, eb, Nat.mod_eq_of_lt (Nat.lt_trans (mt_lt hk.pos) hk.fit)]
  exact mont_entered hRi

set_option maxRecDepth 100000 in
set_option maxHeartbeats 3200000 in
theorem fenter_c {P L B x0 x1 x2 x3 x4 x5 : Nat} (w : World) (hk : FNum P L) (hF : FldAt P L w B) (lx : Lim6 x0 x1 x2 x3 x4 x5) :
    Calls Tryd.prog 34 #[.pointer (some ⟨B, 0, none⟩), W6 x0 x1 x2 x3 x4 x5] w fun e w' => ∃ s0 s1 s2 s3 s4 s5, e = .returned (W6 s0 s1 s2 s3 s4 s5) ∧ Lim6 s0 s1 s2 s3 s4 s5 ∧ n6 s0 s1 s2 s3 s4 s5 = mt P (RR L) (n6 x0 x1 x2 x3 x4 x5) ∧ Below w.heap.size w w' := by
  obtain ⟨X, hX⟩ : ∃ X, X = (w.alloc (.cells #[.int .u64 (x0 : Nat), .int .u64 (x1 : Nat), .int .u64 (x2 : Nat), .int .u64 (x3 : Nat), .int .u64 (x4 : Nat), .int .u64 (x5 : Nat)] 24)).alloc (.cells #[.int .u64 0, .int .u64 0, .int .u64 0, .int .u64 0, .int .u64 0, .int .u64 0] 24) := ⟨_, rfl⟩
  obtain ⟨ha, hz, hb, hs⟩ := box_zero hX
  have hBl := hF.lt
  have C1 := Lib.hid (freduce_c X hk (hF.below hb hBl) ha.1 lx ha.2 (by omega))
  have HX := Lib.hid hX
  have HF := Lib.hid (hF.below hb hBl)
  have HK := Lib.hid hk
  have HBL := Lib.hid hBl
  have HA := Lib.hid ha
  have HB := Lib.hid hb
  have HZ := Lib.hid hz
  have HS := Lib.hid hs
  clear hX hk hF lx ha hz hb hs hBl
  go_enter Tryd.func34, Tryd.ntmps34
  go_upto_region 1 with (fail)
  rw [← HX.out]
  clear HX
  go_wp2_with fail
  (with_reducible refine (C1.out).mono ?_)
  rintro e w4 ⟨rfl, hg, a0, a1, a2, a3, a4, a5, ha, la, ea⟩
  have hF4 := HF.out.keepB (hg.block B (by have := HF.out.lt; omega) (by have := HBL.out; omega))
  have hsa : Six w4 w.heap.size a0 a1 a2 a3 a4 a5 := ⟨ha, fun k => (hg.frozen k).trans (HA.out.2 k)⟩
  obtain ⟨Ri, hRi⟩ := HK.out.ri
  have hat : At6 w4 w.heap.size (mt P (RR L) (n6 x0 x1 x2 x3 x4 x5 * Ri)) := ⟨_, _, _, _, _, _, hsa, la, by rw [ea, mt_raw hRi]⟩
  have C2 := Lib.hid (ftimesM_c w4 HK.out hF4 hat.o hF4.square hat (by have := HBL.out; omega))
  have HZ4 := Lib.hid (HZ.out.keepB (hg.block _ (by rw [HS.out]; omega) (by omega)))
  have HW4 := Lib.hid (HB.out.trans (hg.below (b := w.heap.size) (Nat.le_refl _) (by rw [HS.out]; omega)))
  have HRI := Lib.hid hRi
  have HS4 : Hid (w.heap.size + 1 < w4.heap.size) := by have := hg.size; have := HS.out; show _ < _; omega
  clear hg ha la ea hF4 hsa hat hRi C1 HA HB HZ HF
  go_wp2_with fail
  (with_reducible refine (C2.out).mono ?_)
  rintro e w5 ⟨rfl, hp, s0, s1, s2, s3, s4, s5, hs, ls, es⟩
  have hz5 := HZ4.out.put hp (by omega)
  have HV : Hid (n6 s0 s1 s2 s3 s4 s5 = mt P (RR L) (n6 x0 x1 x2 x3 x4 x5)) := by
    show _ = _
    rw [es]
    refine (mt_eq HRI.out).2 ?_
    rw [Nat.mul_assoc, Nat.mul_comm Ri, Nat.mul_mod, HRI.out, ← Nat.mul_mod, Nat.mul_one]
  have HW5 := Lib.hid (HW4.out.trans (hp.low (b := w.heap.size) (Nat.le_refl _)))
  have HZ5 := Lib.hid hz5
  have HLS := Lib.hid ls
  obtain ⟨⟨c0, c1, c2, c3, c4, c5⟩, -⟩ := hs.cells
  obtain ⟨⟨y0, y1, y2, y3, y4, y5⟩, f0, f1, f2, f3, f4, f5⟩ := hz5.cells
  clear hp hs ls es hz5 C2 HZ4 HW4
  go_wp2_with fail
  clear c0 c1 c2 c3 c4 c5
  have gW := HW5.out
  clear y0 y1 y2 y3 y4 y5 f0 f1 f2 f3 f4 f5
  obtain ⟨Y, hY⟩ : ∃ Y, Y = (((((w5.setCell ⟨w.heap.size + 1, 0, none⟩ (.int .u64 (s0 : Nat))).setCell ⟨w.heap.size + 1, 1, none⟩ (.int .u64 (s1 : Nat))).setCell ⟨w.heap.size + 1, 2, none⟩ (.int .u64 (s2 : Nat))).setCell ⟨w.heap.size + 1, 3, none⟩ (.int .u64 (s3 : Nat))).setCell ⟨w.heap.size + 1, 4, none⟩ (.int .u64 (s4 : Nat))).setCell ⟨w.heap.size + 1, 5, none⟩ (.int .u64 (s5 : Nat)) := ⟨_, rfl⟩
  rw [← hY]
  obtain ⟨⟨y0, y1, y2, y3, y4, y5⟩, hb⟩ := put_end HZ5.out s0 s1 s2 s3 s4 s5 hY
  clear hY
  exact bodyPost_ret (v := W6 s0 s1 s2 s3 s4 s5) (by simp [results, Tryd.results34, go_sem, y0, y1, y2, y3, y4, y5]) rfl ⟨s0, s1, s2, s3, s4, s5, rfl, HLS.out, HV.out, gW.trans (hb.mono (by omega))⟩

set_option maxRecDepth 100000 in
set_option maxHeartbeats 3200000 in
theorem fleaveM_c {P L B a x0 x1 x2 x3 x4 x5 : Nat} (w : World) (hk : FNum P L) (hF : FldAt P L w B) (lx : Lim6 x0 x1 x2 x3 x4 x5) (ex : n6 x0 x1 x2 x3 x4 x5 = mt P (RR L) a) :
    Calls Tryd.prog 37 #[.pointer (some ⟨B, 0, none⟩), W6 x0 x1 x2 x3 x4 x5] w fun e w' => ∃ s0 s1 s2 s3 s4 s5, e = .returned (W6 s0 s1 s2 s3 s4 s5) ∧ Lim6 s0 s1 s2 s3 s4 s5 ∧ n6 s0 s1 s2 s3 s4 s5 = a % P ∧ Below w.heap.size w w' := by
  obtain ⟨X, hX⟩ : ∃ X, X = ((w.alloc (.cells #[.int .u64 (x0 : Nat), .int .u64 (x1 : Nat), .int .u64 (x2 : Nat), .int .u64 (x3 : Nat), .int .u64 (x4 : Nat), .int .u64 (x5 : Nat)] 24)).alloc (.cells #[.int .u64 0, .int .u64 0, .int .u64 0, .int .u64 0, .int .u64 0, .int .u64 0] 24)).alloc (.cells #[.int .u64 1, .int .u64 0, .int .u64 0, .int .u64 0, .int .u64 0, .int .u64 0] 24) := ⟨_, rfl⟩
  obtain ⟨ha, hz, ho, hw, hs⟩ := box_zero_one hX
  have hBl := hF.lt
  obtain ⟨Ri, hRi⟩ := hk.ri
  have hat : At6 X w.heap.size (mt P (RR L) a) := ⟨_, _, _, _, _, _, ha, lx, ex⟩
  have hone : At6 X (w.heap.size + 1 + 1) (mt P (RR L) (1 * Ri)) := ⟨_, _, _, _, _, _, ho, ⟨lim1, lim0, lim0, lim0, lim0, lim0⟩, by rw [mt_raw hRi, Nat.mod_eq_of_lt hk.pos]; decide⟩
  have C1 := Lib.hid (ftimesM_c X hk (hF.below hw hBl) hat.o hone.o hat (by omega))
  have HX := Lib.hid hX
  have HZ0 := Lib.hid hz
  have HW0 := Lib.hid hw
  have HS := Lib.hid hs
  have HRI := Lib.hid hRi
  clear hX ha hz ho hw hs hBl hk hF lx ex hat hone hRi
  go_enter Tryd.func37, Tryd.ntmps37
  go_wp2_with fail
  (first | rw [← HX.out] | skip)
  (with_reducible refine (C1.out).mono ?_)
  rintro e w6 ⟨rfl, hp, s0, s1, s2, s3, s4, s5, hs, ls, es⟩
  have HV : Hid (n6 s0 s1 s2 s3 s4 s5 = a % P) := by
    show _ = _
    rw [es, Nat.one_mul, mt_raw HRI.out]
  obtain ⟨⟨c0, c1, c2, c3, c4, c5⟩, -⟩ := hs.cells
  have hz6 := HZ0.out.put hp (by omega)
  obtain ⟨⟨y0, y1, y2, y3, y4, y5⟩, f0, f1, f2, f3, f4, f5⟩ := hz6.cells
  have HZ := Lib.hid hz6
  have HW := Lib.hid (HW0.out.trans (hp.low (b := w.heap.size) (Nat.le_refl _)))
  have HLS := Lib.hid ls
  clear hp ls hs es hz6 C1 HZ0 HW0 HX HRI
  go_wp2_with fail
  clear c0 c1 c2 c3 c4 c5
  have gW := HW.out
  clear y0 y1 y2 y3 y4 y5 f0 f1 f2 f3 f4 f5
  obtain ⟨Y, hY⟩ : ∃ Y, Y = (((((w6.setCell ⟨w.heap.size + 1, 0, none⟩ (.int .u64 (s0 : Nat))).setCell ⟨w.heap.size + 1, 1, none⟩ (.int .u64 (s1 : Nat))).setCell ⟨w.heap.size + 1, 2, none⟩ (.int .u64 (s2 : Nat))).setCell ⟨w.heap.size + 1, 3, none⟩ (.int .u64 (s3 : Nat))).setCell ⟨w.heap.size + 1, 4, none⟩ (.int .u64 (s4 : Nat))).setCell ⟨w.heap.size + 1, 5, none⟩ (.int .u64 (s5 : Nat)) := ⟨_, rfl⟩
  rw [← hY]
  obtain ⟨⟨y0, y1, y2, y3, y4, y5⟩, hb⟩ := put_end HZ.out s0 s1 s2 s3 s4 s5 hY
  clear hY
  exact bodyPost_ret (v := W6 s0 s1 s2 s3 s4 s5) (by simp [results, Tryd.results37, go_sem, y0, y1, y2, y3, y4, y5]) rfl ⟨s0, s1, s2, s3, s4, s5, rfl, HLS.out, HV.out, gW.trans (hb.mono (by omega))⟩
end Go.Proofs.YteaafnjflghlhaaDoor
namespace Go.Proofs.YteaafnjflghlhaaDoor
open Go.RowKit

def cellN (w : World) (g k : Nat) : Nat := match w.cell? ⟨g, k, none⟩ with
  | some v => (intOf v).toNat
  | none => 0
/-- The number where a pointer leads. -/
def numAt (w : World) (v : Value) : Nat := match v with
  | .pointer (some a) => n6 (cellN w a.block 0) (cellN w a.block 1) (cellN w a.block 2) (cellN w a.block 3) (cellN w a.block 4) (cellN w a.block 5)
  | _ => 0
theorem At6.num {w : World} {g n : Nat} (h : At6 w g n) : numAt w (.pointer (some ⟨g, 0, none⟩)) = n := by
  obtain ⟨x0, x1, x2, x3, x4, x5, h, l, rfl⟩ := h
  obtain ⟨⟨c0, c1, c2, c3, c4, c5⟩, -⟩ := h.cells
  simp [numAt, cellN, c0, c1, c2, c3, c4, c5, intOf]

/-- What euclid keeps. -/
structure EuS (P a b R Q : Nat) (w0 w : World) (U V X Y u v x y : Nat) : Prop where
  bU : b ≤ U
  bV : b ≤ V
  bX : b ≤ X
  bY : b ≤ Y
  bR : b ≤ R
  uv : U ≠ V
  ux : U ≠ X
  uy : U ≠ Y
  vx : V ≠ X
  vy : V ≠ Y
  xy : X ≠ Y
  rU : R ≠ U
  rV : R ≠ V
  rX : R ≠ X
  rY : R ≠ Y
  aU : At6 w U u
  aV : At6 w V v
  aX : At6 w X x
  aY : At6 w Y y
  aR : Six w R 0 0 0 0 0 0
  cop : Nat.gcd u v = 1
  up : 0 < u
  vo : v % 2 = 1
  xl : x < P
  yl : y < P
  ex : a * x % P = u % P
  ey : a * y % P = v % P
  low : Below b w0 w
  qU : Q ≠ U
  qV : Q ≠ V
  qX : Q ≠ X
  qY : Q ≠ Y
  kq : w.heap[Q]? = w0.heap[Q]?
theorem EuS.drewN {P a b R Q U V X Y u v x y : Nat} {w0 w : World} (h : EuS P a b R Q w0 w U V X Y u v x y) (n : Nat) : EuS P a b R Q w0 (w.drewN n) U V X Y u v x y :=
  { h with aU := h.aU.keepB rfl, aV := h.aV.keepB rfl, aX := h.aX.keepB rfl, aY := h.aY.keepB rfl, aR := h.aR.keepB rfl, low := ⟨h.low.os, h.low.tape, h.low.output, h.low.size, h.low.block⟩, kq := h.kq }
theorem EuS.swap {P a b R Q U V X Y u v x y : Nat} {w0 w : World} (h : EuS P a b R Q w0 w U V X Y u v x y) (ho : u % 2 = 1) : EuS P a b R Q w0 w V U Y X v u y x :=
  { bU := h.bV, bV := h.bU, bX := h.bY, bY := h.bX, bR := h.bR, uv := h.uv.symm, ux := h.vy, uy := h.vx, vx := h.uy, vy := h.ux, xy := h.xy.symm, rU := h.rV, rV := h.rU, rX := h.rY, rY := h.rX,
    aU := h.aV, aV := h.aU, aX := h.aY, aY := h.aX, aR := h.aR, cop := by rw [Nat.gcd_comm]; exact h.cop, up := by have := h.vo; omega, vo := ho, xl := h.yl, yl := h.xl, ex := h.ey, ey := h.ex, low := h.low, qU := h.qV, qV := h.qU, qX := h.qY, qY := h.qX, kq := h.kq }
/-- u and x turn. -/
theorem EuS.turn {P a b R Q U V X Y u v x y u' x' : Nat} {w0 w w1 w2 : World} (h : EuS P a b R Q w0 w U V X Y u v x y) (p1 : Put6 U 0 w w1) (p2 : Put6 X 0 w1 w2) (hu : At6 w1 U u') (hx : At6 w2 X x')
    (hc : Nat.gcd u' v = 1) (hp : 0 < u') (hl : x' < P) (he : a * x' % P = u' % P) : EuS P a b R Q w0 w2 U V X Y u' v x' y :=
  { h with aU := hu.put p2 h.ux, aV := (h.aV.put p1 h.uv.symm).put p2 h.vx, aX := hx, aY := (h.aY.put p1 h.uy.symm).put p2 h.xy.symm, aR := (h.aR.put p1 h.rU).put p2 h.rX, cop := hc, up := hp, xl := hl, ex := he, low := (h.low.trans (p1.low h.bU)).trans (p2.low h.bX), kq := ((p2.block Q h.qX).trans (p1.block Q h.qU)).trans h.kq }

set_option maxRecDepth 100000 in
set_option maxHeartbeats 6400000 in
theorem feuclid_c {P L a b B Q U V X Y u v x y : Nat} (w : World) (hk : FNum P L) (hPo : P % 2 = 1) (hF : FldAt P L w B) (hB : B < b) (hbw : b ≤ w.heap.size) (hQ : Q < w.heap.size)
    (hS : ∀ w1, w1 = w.alloc (.cells #[.int .u64 0, .int .u64 0, .int .u64 0, .int .u64 0, .int .u64 0, .int .u64 0] 24) → EuS P a b w.heap.size Q w w1 U V X Y u v x y) :
    Calls Tryd.prog 30 #[.pointer (some ⟨B, 0, none⟩), .pointer (some ⟨U, 0, none⟩), .pointer (some ⟨V, 0, none⟩), .pointer (some ⟨X, 0, none⟩), .pointer (some ⟨Y, 0, none⟩)] w fun e w' => ∃ s0 s1 s2 s3 s4 s5, e = .returned (W6 s0 s1 s2 s3 s4 s5) ∧ Lim6 s0 s1 s2 s3 s4 s5 ∧ n6 s0 s1 s2 s3 s4 s5 < P ∧ a * n6 s0 s1 s2 s3 s4 s5 % P = 1 % P ∧ Below b w w' ∧ w'.heap[Q]? = w.heap[Q]? := by
  obtain ⟨W, hW⟩ : ∃ W, W = w.alloc (.cells #[.int .u64 0, .int .u64 0, .int .u64 0, .int .u64 0, .int .u64 0, .int .u64 0] 24) := ⟨_, rfl⟩
  have HS := Lib.hid (hS W hW)
  have HK := Lib.hid hk
  have HF := Lib.hid hF
  have HB := Lib.hid hB
  have HPO := Lib.hid hPo
  have HW := Lib.hid hW
  have HBW := Lib.hid hbw
  have HQW := Lib.hid hQ
  clear hS hk hF hB hPo hW hbw hQ
  go_enter Tryd.func30, Tryd.ntmps30
  go_upto_region 1 with (fail)
  rw [← HW.out]
  clear HW
  go_loopw [1, 2, 3, 4] (fun pu pv px py wr => ∃ U V X Y u v x y : Nat, pu = .pointer (some ⟨U, 0, none⟩) ∧ pv = .pointer (some ⟨V, 0, none⟩) ∧ px = .pointer (some ⟨X, 0, none⟩) ∧ py = .pointer (some ⟨Y, 0, none⟩) ∧ Hid (EuS P a b w.heap.size Q w wr U V X Y u v x y))
    (fun pu pv _ _ wr => numAt wr pu + numAt wr pv)
  case atStart => exact ⟨U, V, X, Y, u, v, x, y, rfl, rfl, rfl, rfl, HS⟩
  case round =>
    clear HS
    obtain ⟨U, V, X, Y, u, v, x, y, rfl, rfl, rfl, rfl, HS⟩ := hrel
    obtain ⟨u0, u1, u2, u3, u4, u5, hU, lU, eU⟩ := HS.out.aU
    obtain ⟨⟨c0, c1, c2, c3, c4, c5⟩, -⟩ := hU.cells
    have hFw := HF.out.below HS.out.low HB.out
    have hnB : ∀ g, b ≤ g → g ≠ B := fun g hg => by have := HB.out; omega
    have mU := HS.out.aU.num
    have mV := HS.out.aV.num
    have HM : Hid (numAt wr (.pointer (some ⟨U, 0, none⟩)) = u ∧ numAt wr (.pointer (some ⟨V, 0, none⟩)) = v) := ⟨mU, mV⟩
    by_cases h1 : u = 1
    · obtain ⟨rfl, rfl, rfl, rfl, rfl, rfl⟩ := n6_small (n := 1) lU (by omega) (by rw [eU, h1])
      have q1 : ∀ w, (Op.equalIn 10000 24 (.agg #[.int .u64 1, .int .u64 0, .int .u64 0, .int .u64 0, .int .u64 0, .int .u64 0]) (.agg #[.int .u64 1, .int .u64 0, .int .u64 0, .int .u64 0, .int .u64 0, .int .u64 0])).run Tryd.prog w = .ok true w := eqIn6_same 1 0 0 0 0 0
      obtain ⟨x0, x1, x2, x3, x4, x5, hX, lX, eX⟩ := HS.out.aX
      obtain ⟨⟨d0, d1, d2, d3, d4, d5⟩, -⟩ := hX.cells
      obtain ⟨⟨r0, r1, r2, r3, r4, r5⟩, f0, f1, f2, f3, f4, f5⟩ := HS.out.aR.cells
      have HX := Lib.hid eX
      have HLX := Lib.hid lX
      have HU1 := Lib.hid h1
      clear eX lX h1 eU lU hU hX hFw hnB mU mV HM
      go_wp2_with fail
      clear c0 c1 c2 c3 c4 c5 d0 d1 d2 d3 d4 d5 r0 r1 r2 r3 r4 r5 f0 f1 f2 f3 f4 f5
      obtain ⟨Z, hZ⟩ : ∃ Z, Z = (((((wr.setCell ⟨w.heap.size, 0, none⟩ (.int .u64 (x0 : Nat))).setCell ⟨w.heap.size, 1, none⟩ (.int .u64 (x1 : Nat))).setCell ⟨w.heap.size, 2, none⟩ (.int .u64 (x2 : Nat))).setCell ⟨w.heap.size, 3, none⟩ (.int .u64 (x3 : Nat))).setCell ⟨w.heap.size, 4, none⟩ (.int .u64 (x4 : Nat))).setCell ⟨w.heap.size, 5, none⟩ (.int .u64 (x5 : Nat)) := ⟨_, rfl⟩
      rw [← hZ]
      obtain ⟨⟨y0, y1, y2, y3, y4, y5⟩, hb⟩ := put_end HS.out.aR x0 x1 x2 x3 x4 x5 hZ
      clear hZ
      have hlow := HS.out.low
      have hbR := HS.out.bR
      exact bodyPost_ret (v := W6 x0 x1 x2 x3 x4 x5) (by simp [results, Tryd.results30, go_sem, y0, y1, y2, y3, y4, y5]) rfl ⟨x0, x1, x2, x3, x4, x5, rfl, HLX.out, by rw [HX.out]; exact HS.out.xl, by rw [HX.out, HS.out.ex, HU1.out], hlow.trans (hb.mono hbR), (hb.block Q HQW.out).trans HS.out.kq⟩
    · have q1 : ∀ w, (Op.equalIn 10000 24 (.agg #[.int .u64 (u0 : Nat), .int .u64 (u1 : Nat), .int .u64 (u2 : Nat), .int .u64 (u3 : Nat), .int .u64 (u4 : Nat), .int .u64 (u5 : Nat)]) (.agg #[.int .u64 1, .int .u64 0, .int .u64 0, .int .u64 0, .int .u64 0, .int .u64 0])).run Tryd.prog w = .ok false w := fun w => by
        have := eqIn6 u0 u1 u2 u3 u4 u5 1 0 0 0 0 0 w
        rw [decide_eq_false (fun h => h1 (by obtain ⟨rfl, rfl, rfl, rfl, rfl, rfl⟩ := h; rw [← eU]; rfl))] at this
        exact this
      have HQ := Lib.hid hU
      have HNB := Lib.hid hnB
      have e2 : u % 2 = u0 % 2 := by rw [← eU]; exact n6_odd
      have HUP : Hid (0 < u ∧ v % 2 = 1) := ⟨HS.out.up, HS.out.vo⟩
      have hnB := HNB
      by_cases hev : u % 2 = 0
      · have hm1 : (u0 : Int) % 2 = 0 := by omega
        have ht : (u0 : Int).tmod 2 = 0 := by rw [Int.tmod_eq_emod_of_nonneg (by omega)]; omega
        have C1 := Lib.hid (fhalve_c wr hU.1 lU hU.2)
        rw [eU] at C1
        have HEV := Lib.hid hev
        have HF1 := Lib.hid hFw
        clear hev h1 eU lU hU mU mV e2 hFw
        go_wp2_with fail
        (with_reducible refine (C1.out).mono ?_)
        rintro e w1 ⟨rfl, p1, t0, t1, t2, t3, t4, t5, hT, lT, eT⟩
        have hSW := HS.out
        have hF1 := HF1.out.keepB (p1.block B (hnB.out U hSW.bU).symm)
        obtain ⟨p0, p1', p2, p3, p4, p5, iv, o0, o1, o2, o3, o4, o5, z0, z1, z2, z3, z4, z5, hC⟩ := hF1
        obtain ⟨x0, x1, x2, x3, x4, x5, hX, lX, eX⟩ := hSW.aX.put p1 hSW.ux.symm
        have C3 := Lib.hid (fhalf_c w1 hC.hp hC.lp hX.1 lX hX.2 (hnB.out X hSW.bX) (by rw [eX, hC.np]; exact hSW.xl) (by rw [hC.np]; exact HK.out.dbl))
        rw [eX, hC.np] at C3
        have HP1 := Lib.hid p1
        have HT : Hid (At6 w1 U (u / 2)) := ⟨t0, t1, t2, t3, t4, t5, ⟨hT, fun k => (p1.frozen k).trans (HQ.out.2 k)⟩, lT, eT⟩
        have HFX : Hid (∀ k, w1.frozen? ⟨X, k, none⟩ = false) := hX.2
        clear p1 hT lT eT hSW hC hX lX eX C1 c0 c1 c2 c3 c4 c5 q1 hm1 ht
        go_wp2_with fail
        (with_reducible refine (C3.out).mono ?_)
        rintro e w2 ⟨rfl, p2, s0, s1, s2, s3, s4, s5, hs, ls, es⟩
        have hSW := HS.out
        have hxl : (x + x % 2 * P) / 2 < P := by
          have := hSW.xl
          rcases (show x % 2 = 0 ∨ x % 2 = 1 by omega) with e | e
          · rw [e]; omega
          · rw [e]; omega
        have hN : EuS P a b w.heap.size Q w w2 U V X Y (u / 2) v ((x + x % 2 * P) / 2) y := hSW.turn HP1.out p2 HT.out ⟨s0, s1, s2, s3, s4, s5, ⟨hs, fun k => (p2.frozen k).trans (HFX.out k)⟩, ls, es⟩
          (gcd_half HEV.out hSW.cop) (by have := HUP.out.1; have := HEV.out; omega) hxl (euc_half HPO.out HEV.out hSW.ex)
        have HN := Lib.hid hN
        have n1 := hN.aU.num
        have n2 := hN.aV.num
        have HNN : Hid (numAt w2 (.pointer (some ⟨U, 0, none⟩)) + numAt w2 (.pointer (some ⟨V, 0, none⟩)) < numAt wr (.pointer (some ⟨U, 0, none⟩)) + numAt wr (.pointer (some ⟨V, 0, none⟩))) := by
          show _ < _
          rw [n1, n2, HM.out.1, HM.out.2]
          have := HUP.out
          omega
        clear p2 hs ls es hSW hxl hN n1 n2 C3
        go_wp2_with fail
        exact ⟨⟨U, V, X, Y, u / 2, v, (x + x % 2 * P) / 2, y, rfl, rfl, rfl, rfl, HN⟩, HNN.out⟩
      · have hm1 : (u0 : Int) % 2 = 1 := by omega
        have ht : (u0 : Int).tmod 2 = 1 := by rw [Int.tmod_eq_emod_of_nonneg (by omega)]; omega
        obtain ⟨v0, v1, v2, v3, v4, v5, hV, lV, eV⟩ := HS.out.aV
        have C1 := Lib.hid (below_c wr hU.1 hV.1 lU lV)
        rw [eU, eV] at C1
        have hne : u ≠ v := fun e => by
          have := HS.out.cop
          rw [e, Nat.gcd_self] at this
          omega
        have HNE := Lib.hid hne
        have HOD : Hid (u % 2 = 1) := by show _ = _; omega
        by_cases hlt : u < v
        · have HD := Lib.hid (decide_eq_true hlt)
          have HLE : Hid (u ≤ v ∧ u < v) := ⟨by omega, hlt⟩
          have HSS : Hid (∀ n, EuS P a b w.heap.size Q w (wr.drewN n) V U Y X v u y x) := fun n => (HS.out.swap HOD.out).drewN n
          clear hlt hne hev h1 eU lU hU mU mV e2 hFw hV lV eV HS HQ
          go_wp2_with fail
          (with_reducible refine (C1.out).mono ?_)
          rintro e w' ⟨he, n, rfl⟩
          rw [HD.out] at he
          subst he
          have HS2 := Lib.hid (HSS.out n)
          clear HSS C1 c0 c1 c2 c3 c4 c5 q1 hm1 ht
          generalize wr.drewN n = W at *
          have hSW := HS2.out
          obtain ⟨a0, a1, a2, a3, a4, a5, hA, lA, eA⟩ := hSW.aU
          obtain ⟨b0, b1, b2, b3, b4, b5, hBB, lB, eB⟩ := hSW.aV
          have C2 := Lib.hid (fminus_c W hA.1 hBB.1 lA lB ⟨_, _, _, _, _, _, hA.1⟩ hA.2 (Or.inl ⟨rfl, rfl⟩) (Or.inr hSW.uv))
          rw [eA, eB] at C2
          clear hSW hA lA eA hBB lB eB
          go_wp2_with fail
          (with_reducible refine (C2.out).mono ?_)
          rintro e w1 ⟨rfl, p1, t0, t1, t2, t3, t4, t5, hT, lT, eT⟩
          have hSW := HS2.out
          have hF1 := (HF.out.below hSW.low HB.out).keepB (p1.block B (hnB.out V hSW.bU).symm)
          obtain ⟨p0, p1', p2, p3, p4, p5, iv, o0, o1, o2, o3, o4, o5, z0, z1, z2, z3, z4, z5, hC⟩ := hF1
          obtain ⟨x0, x1, x2, x3, x4, x5, hX, lX, eX⟩ := hSW.aX.put p1 hSW.ux.symm
          obtain ⟨y0, y1, y2, y3, y4, y5, hY, lY, eY⟩ := hSW.aY.put p1 hSW.uy.symm
          have C3 := Lib.hid (fsub_c w1 hC.hp hC.lp hX.1 hY.1 lX lY ⟨_, _, _, _, _, _, hX.1⟩ hX.2 (Or.inl ⟨rfl, rfl⟩) (Or.inr hSW.xy) (hnB.out Y hSW.bX) (by rw [eY, hC.np]; exact hSW.yl))
          rw [eX, eY, hC.np] at C3
          have HP1 := Lib.hid p1
          have HT : Hid (At6 w1 V (v - u)) := ⟨t0, t1, t2, t3, t4, t5, ⟨hT, fun k => (p1.frozen k).trans (by obtain ⟨_, _, _, _, _, _, h, _⟩ := hSW.aU; exact h.2 k)⟩, lT, by
            have := eT.2 (by have := HLE.out; omega)
            have := HLE.out
            omega⟩
          have HFX : Hid (∀ k, w1.frozen? ⟨Y, k, none⟩ = false) := hX.2
          clear p1 hT lT eT hSW hC hX lX eX hY lY eY C2
          go_wp2_with fail
          (with_reducible refine (C3.out).mono ?_)
          rintro e w2 ⟨rfl, p2, s0, s1, s2, s3, s4, s5, hs, ls, e1, e2⟩
          have hSW := HS2.out
          have hsx : n6 s0 s1 s2 s3 s4 s5 + x = y ∨ n6 s0 s1 s2 s3 s4 s5 + x = y + P := by
            by_cases h : y < x
            · exact Or.inr (e1 h)
            · exact Or.inl (e2 h)
          have hN : EuS P a b w.heap.size Q w w2 V U Y X (v - u) u (n6 s0 s1 s2 s3 s4 s5) x := hSW.turn HP1.out p2 HT.out ⟨s0, s1, s2, s3, s4, s5, ⟨hs, fun k => (p2.frozen k).trans (HFX.out k)⟩, ls, rfl⟩
            (gcd_sub' HLE.out.1 hSW.cop) (by have := HLE.out; omega) (by have := hSW.xl; have := hSW.yl; by_cases h : y < x <;> first | (have := e1 h; omega) | (have := e2 h; omega)) (euc_sub HLE.out.1 hSW.ex hSW.ey hsx)
          have HN := Lib.hid hN
          have n1 := hN.aU.num
          have n2 := hN.aV.num
          have hup := HUP.out
          have HNN : Hid (numAt w2 (.pointer (some ⟨V, 0, none⟩)) + numAt w2 (.pointer (some ⟨U, 0, none⟩)) < numAt wr (.pointer (some ⟨U, 0, none⟩)) + numAt wr (.pointer (some ⟨V, 0, none⟩))) := by
            show _ < _
            rw [n1, n2, HM.out.1, HM.out.2]
            have := HLE.out
            omega
          clear p2 hs ls e1 e2 hSW hsx hN n1 n2 hup C3
          go_wp2_with fail
          exact ⟨⟨V, U, Y, X, v - u, u, n6 s0 s1 s2 s3 s4 s5, x, rfl, rfl, rfl, rfl, HN⟩, HNN.out⟩
        · have HD := Lib.hid (decide_eq_false hlt)
          have HLE : Hid (v ≤ u ∧ v < u) := ⟨by omega, by omega⟩
          have HSS : Hid (∀ n, EuS P a b w.heap.size Q w (wr.drewN n) U V X Y u v x y) := fun n => HS.out.drewN n
          clear hlt hne hev h1 eU lU hU mU mV e2 hFw hV lV eV HS HQ
          go_wp2_with fail
          (with_reducible refine (C1.out).mono ?_)
          rintro e w' ⟨he, n, rfl⟩
          rw [HD.out] at he
          subst he
          have HS2 := Lib.hid (HSS.out n)
          clear HSS C1 c0 c1 c2 c3 c4 c5 q1 hm1 ht
          generalize wr.drewN n = W at *
          have hSW := HS2.out
          obtain ⟨a0, a1, a2, a3, a4, a5, hA, lA, eA⟩ := hSW.aU
          obtain ⟨b0, b1, b2, b3, b4, b5, hBB, lB, eB⟩ := hSW.aV
          have C2 := Lib.hid (fminus_c W hA.1 hBB.1 lA lB ⟨_, _, _, _, _, _, hA.1⟩ hA.2 (Or.inl ⟨rfl, rfl⟩) (Or.inr hSW.uv))
          rw [eA, eB] at C2
          clear hSW hA lA eA hBB lB eB
          go_wp2_with fail
          (with_reducible refine (C2.out).mono ?_)
          rintro e w1 ⟨rfl, p1, t0, t1, t2, t3, t4, t5, hT, lT, eT⟩
          have hSW := HS2.out
          have hF1 := (HF.out.below hSW.low HB.out).keepB (p1.block B (hnB.out U hSW.bU).symm)
          obtain ⟨p0, p1', p2, p3, p4, p5, iv, o0, o1, o2, o3, o4, o5, z0, z1, z2, z3, z4, z5, hC⟩ := hF1
          obtain ⟨x0, x1, x2, x3, x4, x5, hX, lX, eX⟩ := hSW.aX.put p1 hSW.ux.symm
          obtain ⟨y0, y1, y2, y3, y4, y5, hY, lY, eY⟩ := hSW.aY.put p1 hSW.uy.symm
          have C3 := Lib.hid (fsub_c w1 hC.hp hC.lp hX.1 hY.1 lX lY ⟨_, _, _, _, _, _, hX.1⟩ hX.2 (Or.inl ⟨rfl, rfl⟩) (Or.inr hSW.xy) (hnB.out X hSW.bX) (by rw [eY, hC.np]; exact hSW.yl))
          rw [eX, eY, hC.np] at C3
          have HP1 := Lib.hid p1
          have HT : Hid (At6 w1 U (u - v)) := ⟨t0, t1, t2, t3, t4, t5, ⟨hT, fun k => (p1.frozen k).trans (by obtain ⟨_, _, _, _, _, _, h, _⟩ := hSW.aU; exact h.2 k)⟩, lT, by
            have := eT.2 (by have := HLE.out; omega)
            have := HLE.out
            omega⟩
          have HFX : Hid (∀ k, w1.frozen? ⟨X, k, none⟩ = false) := hX.2
          clear p1 hT lT eT hSW hC hX lX eX hY lY eY C2
          go_wp2_with fail
          (with_reducible refine (C3.out).mono ?_)
          rintro e w2 ⟨rfl, p2, s0, s1, s2, s3, s4, s5, hs, ls, e1, e2⟩
          have hSW := HS2.out
          have hsx : n6 s0 s1 s2 s3 s4 s5 + y = x ∨ n6 s0 s1 s2 s3 s4 s5 + y = x + P := by
            by_cases h : x < y
            · exact Or.inr (e1 h)
            · exact Or.inl (e2 h)
          have hN : EuS P a b w.heap.size Q w w2 U V X Y (u - v) v (n6 s0 s1 s2 s3 s4 s5) y := hSW.turn HP1.out p2 HT.out ⟨s0, s1, s2, s3, s4, s5, ⟨hs, fun k => (p2.frozen k).trans (HFX.out k)⟩, ls, rfl⟩
            (gcd_sub' HLE.out.1 hSW.cop) (by have := HLE.out; omega) (by have := hSW.xl; have := hSW.yl; by_cases h : x < y <;> first | (have := e1 h; omega) | (have := e2 h; omega)) (euc_sub HLE.out.1 hSW.ex hSW.ey hsx)
          have HN := Lib.hid hN
          have n1 := hN.aU.num
          have n2 := hN.aV.num
          have hup := HUP.out
          have HNN : Hid (numAt w2 (.pointer (some ⟨U, 0, none⟩)) + numAt w2 (.pointer (some ⟨V, 0, none⟩)) < numAt wr (.pointer (some ⟨U, 0, none⟩)) + numAt wr (.pointer (some ⟨V, 0, none⟩))) := by
            show _ < _
            rw [n1, n2, HM.out.1, HM.out.2]
            have := HLE.out
            omega
          clear p2 hs ls e1 e2 hSW hsx hN n1 n2 hup C3
          go_wp2_with fail
          exact ⟨⟨U, V, X, Y, u - v, v, n6 s0 s1 s2 s3 s4 s5, y, rfl, rfl, rfl, rfl, HN⟩, HNN.out⟩
end Go.Proofs.YteaafnjflghlhaaDoor
namespace Go.Proofs.YteaafnjflghlhaaDoor
open Go.RowKit

/-- What Inv tells. -/
def InvF (P a : Nat) (w : World) (e : Ending) (w' : World) : Prop := ∃ s0 s1 s2 s3 s4 s5 b, e = .returned (.tuple #[W6 s0 s1 s2 s3 s4 s5, .bool b]) ∧ Lim6 s0 s1 s2 s3 s4 s5 ∧ ((a % P = 0 ∧ b = false ∧ s0 = 0 ∧ s1 = 0 ∧ s2 = 0 ∧ s3 = 0 ∧ s4 = 0 ∧ s5 = 0) ∨ (a % P ≠ 0 ∧ b = true ∧ n6 s0 s1 s2 s3 s4 s5 < P ∧ a * n6 s0 s1 s2 s3 s4 s5 % P = 1)) ∧ Below w.heap.size w w'

set_option maxRecDepth 100000 in
set_option maxHeartbeats 6400000 in
theorem fInv_c {P L B x0 x1 x2 x3 x4 x5 : Nat} (w : World) (hk : FNum P L) (hPr : Pr P) (hPo : P % 2 = 1) (hF : FldAt P L w B) (lx : Lim6 x0 x1 x2 x3 x4 x5) :
    Calls Tryd.prog 9 #[.pointer (some ⟨B, 0, none⟩), W6 x0 x1 x2 x3 x4 x5] w (InvF P (n6 x0 x1 x2 x3 x4 x5) w) := by
  obtain ⟨X, hX⟩ : ∃ X, X = (w.alloc (.cells #[.int .u64 (x0 : Nat), .int .u64 (x1 : Nat), .int .u64 (x2 : Nat), .int .u64 (x3 : Nat), .int .u64 (x4 : Nat), .int .u64 (x5 : Nat)] 24)).alloc (.cells #[.int .u64 0, .int .u64 0, .int .u64 0, .int .u64 0, .int .u64 0, .int .u64 0] 24) := ⟨_, rfl⟩
  obtain ⟨ha, hz, hb, hs⟩ := box_zero hX
  have hBl := hF.lt
  have C1 := Lib.hid (freduce_c X hk (hF.below hb hBl) ha.1 lx ha.2 (by omega))
  have HX := Lib.hid hX
  have HF := Lib.hid (hF.below hb hBl)
  have HK := Lib.hid hk
  have HPR := Lib.hid hPr
  have HPO := Lib.hid hPo
  have HBL := Lib.hid hBl
  have HA := Lib.hid ha
  have HB := Lib.hid hb
  have HZ := Lib.hid hz
  have HS := Lib.hid hs
  clear hX hk hF lx ha hz hb hs hBl hPr hPo
  go_enter Tryd.func9, Tryd.ntmps9
  go_upto_region 1 with (fail)
  rw [← HX.out]
  clear HX
  go_wp2_with fail
  (with_reducible refine (C1.out).mono ?_)
  rintro e w4 ⟨rfl, hg, a0, a1, a2, a3, a4, a5, ha, la, ea⟩
  have hF4 := HF.out.keepB (hg.block B (by have := HF.out.lt; omega) (by have := HBL.out; omega))
  have hsa : Six w4 w.heap.size a0 a1 a2 a3 a4 a5 := ⟨ha, fun k => (hg.frozen k).trans (HA.out.2 k)⟩
  have HZ4 := Lib.hid (HZ.out.keepB (hg.block _ (by rw [HS.out]; omega) (by omega)))
  have HW4 := Lib.hid (HB.out.trans (hg.below (b := w.heap.size) (Nat.le_refl _) (by rw [HS.out]; omega)))
  have HS4 : Hid (w.heap.size + 1 < w4.heap.size) := by have := hg.size; have := HS.out; show _ < _; omega
  have HSA := Lib.hid hsa
  have HLA := Lib.hid la
  have HEA := Lib.hid ea
  have HF4 := Lib.hid hF4
  obtain ⟨⟨c0, c1, c2, c3, c4, c5⟩, -⟩ := hsa.cells
  clear hg ha hF4 C1 HA HB HZ HF hsa
  by_cases h0 : n6 x0 x1 x2 x3 x4 x5 % P = 0
  · obtain ⟨rfl, rfl, rfl, rfl, rfl, rfl⟩ := n6_small (n := 0) la (by omega) (by rw [ea, h0])
    have q1 := eq0
    have H0 := Lib.hid h0
    obtain ⟨⟨y0, y1, y2, y3, y4, y5⟩, f0, f1, f2, f3, f4, f5⟩ := HZ4.out.cells
    clear la ea h0
    go_wp2_with fail
    clear y0 y1 y2 y3 y4 y5 f0 f1 f2 f3 f4 f5 c0 c1 c2 c3 c4 c5
    have gW := HW4.out
    obtain ⟨Y, hY⟩ : ∃ Y, Y = (((((w4.setCell ⟨w.heap.size + 1, 0, none⟩ (.int .u64 0)).setCell ⟨w.heap.size + 1, 1, none⟩ (.int .u64 0)).setCell ⟨w.heap.size + 1, 2, none⟩ (.int .u64 0)).setCell ⟨w.heap.size + 1, 3, none⟩ (.int .u64 0)).setCell ⟨w.heap.size + 1, 4, none⟩ (.int .u64 0)).setCell ⟨w.heap.size + 1, 5, none⟩ (.int .u64 0) := ⟨_, rfl⟩
    rw [← hY]
    obtain ⟨⟨y0, y1, y2, y3, y4, y5⟩, hb⟩ := put_end HZ4.out 0 0 0 0 0 0 hY
    clear hY
    exact bodyPost_ret (v := .tuple #[W6 0 0 0 0 0 0, .bool false]) (by simp [results, Tryd.results9, go_sem, y0, y1, y2, y3, y4, y5]) rfl ⟨0, 0, 0, 0, 0, 0, false, rfl, lim6_0, .inl ⟨H0.out, rfl, rfl, rfl, rfl, rfl, rfl, rfl⟩, gW.trans (hb.mono (by omega))⟩
  · have q1 : ∀ w, (Op.equalIn 10000 24 (.agg #[.int .u64 (a0 : Nat), .int .u64 (a1 : Nat), .int .u64 (a2 : Nat), .int .u64 (a3 : Nat), .int .u64 (a4 : Nat), .int .u64 (a5 : Nat)]) (.agg #[.int .u64 0, .int .u64 0, .int .u64 0, .int .u64 0, .int .u64 0, .int .u64 0])).run Tryd.prog w = .ok false w := fun w => by
      have := eqIn6 a0 a1 a2 a3 a4 a5 0 0 0 0 0 0 w
      rw [decide_eq_false (fun h => h0 (by obtain ⟨rfl, rfl, rfl, rfl, rfl, rfl⟩ := h; rw [← ea]; rfl))] at this
      exact this
    obtain ⟨p0, p1, p2, p3, p4, p5, v, o0, o1, o2, o3, o4, o5, z0, z1, z2, z3, z4, z5, hC⟩ := HF4.out
    obtain ⟨d0, d1, d2, d3, d4, d5⟩ := hC.hp
    simp only [Nat.zero_add] at d1 d2 d3 d4 d5
    have HC := Lib.hid hC
    have H0 := Lib.hid h0
    clear la ea h0 hC
    go_upto_region 5 with (fail)
    obtain ⟨X5, hX5⟩ : ∃ X, X = ((w4.alloc (.cells #[.int .u64 (p0 : Nat), .int .u64 (p1 : Nat), .int .u64 (p2 : Nat), .int .u64 (p3 : Nat), .int .u64 (p4 : Nat), .int .u64 (p5 : Nat)] 24)).alloc (.cells #[.int .u64 1, .int .u64 0, .int .u64 0, .int .u64 0, .int .u64 0, .int .u64 0] 24)).alloc (.cells #[.int .u64 0, .int .u64 0, .int .u64 0, .int .u64 0, .int .u64 0, .int .u64 0] 24) := ⟨_, rfl⟩
    rw [← hX5]
    obtain ⟨hv, hx, hy, hb5, hs5⟩ := box_two (y0 := 1) (y1 := 0) (y2 := 0) (y3 := 0) (y4 := 0) (y5 := 0) hX5
    have hs4 := HS4.out
    have hP := HK.out.pos
    have hC5 := HC.out.keepB (hb5.block B (by have := HBL.out; omega))
    have hF5 : FldAt P L X5 B := ⟨_, _, _, _, _, _, _, _, _, _, _, _, _, _, _, _, _, _, _, hC5⟩
    have hW5 : Below w.heap.size w X5 := HW4.out.trans (hb5.mono (by omega))
    have hA5 := HSA.out.keepB (hb5.block w.heap.size (by omega))
    have CE := Lib.hid (feuclid_c (P := P) (L := L) (a := n6 x0 x1 x2 x3 x4 x5) (b := w.heap.size) (B := B) (Q := w.heap.size + 1) (U := w.heap.size) (V := w4.heap.size) (X := w4.heap.size + 1) (Y := w4.heap.size + 1 + 1) (u := n6 x0 x1 x2 x3 x4 x5 % P) (v := P) (x := 1) (y := 0) X5 HK.out HPO.out hF5 HBL.out (by omega) (by omega) (by
      intro W hW
      obtain ⟨hr, hbr, hsr⟩ := new_zero hW
      have kp : ∀ {g : Nat}, g < X5.heap.size → W.heap[g]? = X5.heap[g]? := fun h => hbr.block _ h
      exact { bU := Nat.le_refl _, bV := by omega, bX := by omega, bY := by omega, bR := by omega, uv := by omega, ux := by omega, uy := by omega, vx := by omega, vy := by omega, xy := by omega, rU := by omega, rV := by omega, rX := by omega, rY := by omega,
              aU := (show At6 X5 w.heap.size (n6 x0 x1 x2 x3 x4 x5 % P) from ⟨_, _, _, _, _, _, hA5, HLA.out, HEA.out⟩).keepB (kp (by omega)),
              aV := (show At6 X5 w4.heap.size P from ⟨_, _, _, _, _, _, hv, HC.out.lp, HC.out.np⟩).keepB (kp (by omega)),
              aX := (show At6 X5 (w4.heap.size + 1) 1 from ⟨_, _, _, _, _, _, hx, ⟨lim1, lim0, lim0, lim0, lim0, lim0⟩, by decide⟩).keepB (kp (by omega)),
              aY := (show At6 X5 (w4.heap.size + 1 + 1) 0 from ⟨_, _, _, _, _, _, hy, lim6_0, by decide⟩).keepB (kp (by omega)),
              aR := hr,
              cop := by
                have h := HPR.out.cop (a := n6 x0 x1 x2 x3 x4 x5 % P) (fun hd => H0.out (by rw [← Nat.mod_mod]; exact Nat.mod_eq_zero_of_dvd hd))
                rw [Nat.gcd_comm]
                exact h,
              up := Nat.pos_of_ne_zero H0.out, vo := HPO.out, xl := hP, yl := by omega, ex := by rw [Nat.mul_one, Nat.mod_mod], ey := by rw [Nat.mul_zero, Nat.zero_mod, Nat.mod_self],
              low := hbr.mono (by omega), qU := by omega, qV := by omega, qX := by omega, qY := by omega, kq := kp (by omega) }))
    have HZ5 := Lib.hid (HZ4.out.keepB (hb5.block _ (by omega)))
    have HW5 := Lib.hid hW5
    clear hX5 hv hx hy hb5 hs5 hs4 hP hC5 hF5 hW5 hA5 HZ4 HW4 HC HF4 q1 c0 c1 c2 c3 c4 c5 d0 d1 d2 d3 d4 d5
    go_wp2_with fail
    (with_reducible refine (CE.out).mono ?_)
    rintro e w6 ⟨s0, s1, s2, s3, s4, s5, rfl, ls, bs, es, hb6, hq6⟩
    have hz6 := HZ5.out.keepB hq6
    obtain ⟨⟨y0, y1, y2, y3, y4, y5⟩, f0, f1, f2, f3, f4, f5⟩ := hz6.cells
    have HZ := Lib.hid hz6
    have HW := Lib.hid (HW5.out.trans hb6)
    have HLS := Lib.hid ls
    have HBS := Lib.hid bs
    have HES := Lib.hid es
    clear ls bs es hb6 hq6 hz6 CE HZ5 HW5
    go_wp2_with fail
    clear y0 y1 y2 y3 y4 y5 f0 f1 f2 f3 f4 f5
    have gW := HW.out
    obtain ⟨Y, hY⟩ : ∃ Y, Y = (((((w6.setCell ⟨w.heap.size + 1, 0, none⟩ (.int .u64 (s0 : Nat))).setCell ⟨w.heap.size + 1, 1, none⟩ (.int .u64 (s1 : Nat))).setCell ⟨w.heap.size + 1, 2, none⟩ (.int .u64 (s2 : Nat))).setCell ⟨w.heap.size + 1, 3, none⟩ (.int .u64 (s3 : Nat))).setCell ⟨w.heap.size + 1, 4, none⟩ (.int .u64 (s4 : Nat))).setCell ⟨w.heap.size + 1, 5, none⟩ (.int .u64 (s5 : Nat)) := ⟨_, rfl⟩
    rw [← hY]
    obtain ⟨⟨y0, y1, y2, y3, y4, y5⟩, hb⟩ := put_end HZ.out s0 s1 s2 s3 s4 s5 hY
    clear hY
    exact bodyPost_ret (v := .tuple #[W6 s0 s1 s2 s3 s4 s5, .bool true]) (by simp [results, Tryd.results9, go_sem, y0, y1, y2, y3, y4, y5]) rfl ⟨s0, s1, s2, s3, s4, s5, true, rfl, HLS.out, .inr ⟨H0.out, rfl, HBS.out, by rw [HES.out, Nat.mod_eq_of_lt HK.out.pos]⟩, gW.trans (hb.mono (by omega))⟩
end Go.Proofs.YteaafnjflghlhaaDoor
namespace Go.Proofs.YteaafnjflghlhaaDoor
open Go.RowKit

section
variable {ops : Array Oper} {T : Facts} {o : Oper} {a : Act} {w : World}
theorem op_gtI {y z : Int} {b : Bool} (x x' : Operand) (t : TypeId) (hb : decide (z < y) = b) (ho : o.op = .binOp .gtr 3 x x' t) (hx : a.eval x = .int .i64 y) (hy : a.eval x' = .int .i64 z) (hw : Region.wanted o (yielded ops a.tmps) = true) (hf : factTo T o.dst (.bool b) w) : relStep Tryd.prog ops T o a w :=
  relStep_val (.bool b) hw hf (by
    subst hb
    unfold execOp
    rw [ho]
    simp only [hx, hy]
    go_simp)
theorem op_ltI {y z : Int} {b : Bool} (x x' : Operand) (t : TypeId) (hb : decide (y < z) = b) (ho : o.op = .binOp .lss 3 x x' t) (hx : a.eval x = .int .i64 y) (hy : a.eval x' = .int .i64 z) (hw : Region.wanted o (yielded ops a.tmps) = true) (hf : factTo T o.dst (.bool b) w) : relStep Tryd.prog ops T o a w :=
  relStep_val (.bool b) hw hf (by
    subst hb
    unfold execOp
    rw [ho]
    simp only [hx, hy]
    go_simp)
theorem op_geI {y z : Int} {b : Bool} (x x' : Operand) (t : TypeId) (hb : decide (z ≤ y) = b) (ho : o.op = .binOp .geq 3 x x' t) (hx : a.eval x = .int .i64 y) (hy : a.eval x' = .int .i64 z) (hw : Region.wanted o (yielded ops a.tmps) = true) (hf : factTo T o.dst (.bool b) w) : relStep Tryd.prog ops T o a w :=
  relStep_val (.bool b) hw hf (by
    subst hb
    unfold execOp
    rw [ho]
    simp only [hx, hy]
    go_simp)
theorem op_neI {z : Int} (x y : Operand) (t : TypeId) (ho : o.op = .binOp .neq 3 x y t) (hx : a.eval x = .int .i64 z) (hy : a.eval y = .int .i64 z) (hw : Region.wanted o (yielded ops a.tmps) = true) (hf : factTo T o.dst (.bool false) w) : relStep Tryd.prog ops T o a w :=
  relStep_val (.bool false) hw hf (by
    unfold execOp
    rw [ho]
    simp only [hx, hy]
    go_simp)
theorem op_eqID {y z : Int} {b : Bool} (x x' : Operand) (t : TypeId) (hb : (y == z) = b) (ho : o.op = .binOp .eql 3 x x' t) (hx : a.eval x = .int .i64 y) (hy : a.eval x' = .int .i64 z) (hw : Region.wanted o (yielded ops a.tmps) = true) (hf : factTo T o.dst (.bool b) w) : relStep Tryd.prog ops T o a w :=
  relStep_val (.bool b) hw hf (by
    subst hb
    unfold execOp
    rw [ho]
    simp only [hx, hy]
    go_simp)
theorem op_not {p : Bool} (x : Operand) (ho : o.op = .unOp .not 4 x) (hx : a.eval x = .bool p) (hw : Region.wanted o (yielded ops a.tmps) = true) (hf : factTo T o.dst (.bool (!p)) w) : relStep Tryd.prog ops T o a w :=
  relStep_val (.bool (!p)) hw hf (by
    unfold execOp
    rw [ho]
    simp only [hx]
    go_simp)
theorem op_lenN {A : Option Addr} {n c : Nat} (x : Operand) (ho : o.op = .call { callee := .builtin .len, args := #[x], argTypes := #[30] }) (hx : a.eval x = .slice A n c) (hw : Region.wanted o (yielded ops a.tmps) = true) (hf : factTo T o.dst (.int .i64 (n : Nat)) w) : relStep Tryd.prog ops T o a w :=
  relStep_val (.int .i64 (n : Nat)) hw hf (by
    clear hw hf
    generalize a.eval = p at *
    unfold execOp
    rw [ho]
    go_simp)
theorem op_build0 (ho : o.op = .build 24 #[]) (hw : Region.wanted o (yielded ops a.tmps) = true) (hf : factTo T o.dst (W6 0 0 0 0 0 0) w) : relStep Tryd.prog ops T o a w :=
  relStep_val (W6 0 0 0 0 0 0) hw hf (by
    clear hw hf
    generalize a.eval = p at *
    unfold execOp
    rw [ho]
    go_simp)
theorem op_build1 (x : Operand) (ho : o.op = .build 24 #[(0, x)]) (hx : a.eval x = .int .u64 1) (hw : Region.wanted o (yielded ops a.tmps) = true) (hf : factTo T o.dst (W6 1 0 0 0 0 0) w) : relStep Tryd.prog ops T o a w :=
  relStep_val (W6 1 0 0 0 0 0) hw hf (by
    clear hw hf
    generalize a.eval = p at *
    unfold execOp
    rw [ho]
    go_simp)
theorem op_eqN6D {x0 x1 x2 x3 x4 x5 y0 y1 y2 y3 y4 y5 : Nat} {b : Bool} (x y : Operand) (t : TypeId) (hb : decide (x0 = y0 ∧ x1 = y1 ∧ x2 = y2 ∧ x3 = y3 ∧ x4 = y4 ∧ x5 = y5) = b) (ho : o.op = .binOp .eql 24 x y t) (hx : a.eval x = W6 x0 x1 x2 x3 x4 x5) (hy : a.eval y = W6 y0 y1 y2 y3 y4 y5) (hw : Region.wanted o (yielded ops a.tmps) = true) (hf : factTo T o.dst (.bool b) w) : relStep Tryd.prog ops T o a w :=
  relStep_val (.bool b) hw hf (by
    have q := eqIn6 x0 x1 x2 x3 x4 x5 y0 y1 y2 y3 y4 y5 w
    rw [hb] at q
    unfold execOp
    rw [ho]
    simp only [hx, hy]
    go_simp)
theorem op_call3 {f : FuncId} {tys : Array TypeId} {R : World → Value → Prop} (x y z : Operand) (ho : o.op = .call { callee := .value (.func f), args := #[x, y, z], argTypes := tys }) (he : ∀ args w, (callFunc f args).run Tryd.prog w = .ok (.enter f args) w) (hw : Region.wanted o (yielded ops a.tmps) = true)
    (h : Calls Tryd.prog f #[a.eval x, a.eval y, a.eval z] w (RetR R w)) (k : ∀ v w', R w' v → factTo T o.dst v w') : relStep Tryd.prog ops T o a w :=
  relStep_call f #[a.eval x, a.eval y, a.eval z] hw h k (by
    have hp : a.eval (.func f) = .func (.func f) #[] #[] := rfl
    have e := he #[a.eval x, a.eval y, a.eval z] w
    clear h hw k
    generalize a.eval = p at *
    unfold execOp
    rw [ho]
    go_simp)
end
set_option maxRecDepth 100000 in
theorem en_rMul (args : Array Value) (w : World) : (callFunc 31 args).run Tryd.prog w = .ok (.enter 31 args) w := by go_simp
set_option maxRecDepth 100000 in
theorem en_rMod (args : Array Value) (w : World) : (callFunc 28 args).run Tryd.prog w = .ok (.enter 28 args) w := by go_simp
set_option maxRecDepth 100000 in
theorem en_rSub (args : Array Value) (w : World) : (callFunc 41 args).run Tryd.prog w = .ok (.enter 41 args) w := by go_simp
set_option maxRecDepth 100000 in
theorem en_rShr (args : Array Value) (w : World) : (callFunc 40 args).run Tryd.prog w = .ok (.enter 40 args) w := by go_simp
set_option maxRecDepth 100000 in
theorem en_rOf2 (args : Array Value) (w : World) : (callFunc 12 args).run Tryd.prog w = .ok (.enter 12 args) w := by go_simp
set_option maxRecDepth 100000 in
theorem en_rFMul (args : Array Value) (w : World) : (callFunc 11 args).run Tryd.prog w = .ok (.enter 11 args) w := by go_simp
set_option maxRecDepth 100000 in
theorem en_rFExp (args : Array Value) (w : World) : (callFunc 39 args).run Tryd.prog w = .ok (.enter 39 args) w := by go_simp
set_option maxRecDepth 100000 in
theorem en_rFNeg (args : Array Value) (w : World) : (callFunc 16 args).run Tryd.prog w = .ok (.enter 16 args) w := by go_simp
set_option maxRecDepth 100000 in
theorem en_rFSquare (args : Array Value) (w : World) : (callFunc 15 args).run Tryd.prog w = .ok (.enter 15 args) w := by go_simp
set_option maxRecDepth 100000 in
theorem en_fMul (args : Array Value) (w : World) : (callFunc 13 args).run Tryd.prog w = .ok (.enter 13 args) w := by go_simp
set_option maxRecDepth 100000 in
theorem en_fNeg (args : Array Value) (w : World) : (callFunc 18 args).run Tryd.prog w = .ok (.enter 18 args) w := by go_simp
end Go.Proofs.YteaafnjflghlhaaDoor
namespace Go.Proofs.YteaafnjflghlhaaDoor
open Go.RowKit

set_option maxRecDepth 100000 in
set_option maxHeartbeats 6400000 in
theorem rFMul_c {u1 u2 v : Value} {a b P L1 L2 M : Nat} (w : World) (S : Int) (h1 : Num w u1 a L1) (h2 : Num w u2 b L2) (h' : Num w v P M) (hL1 : L1 ≤ 1000) (hL2 : L2 ≤ 1000) (hM : M ≤ 1000) (hP : 0 < P) :
    Calls Tryd.prog 11 #[.agg #[v, .int .i64 S], u1, u2] w (RetR (fun w' x => Num w' x (a * b % P) M) w) := by
  obtain ⟨A, c, xs, rfl, hr, hc, hl⟩ := h'
  have hb := (Below.refl w.heap.size w).alloc (Nat.le_refl _) (.cells #[.slice A xs.length c, .int .i64 S] 32)
  have hcell := heap_alloc_new w (.cells #[.slice A xs.length c, .int .i64 S] 32)
  obtain ⟨X, hX⟩ : ∃ X, X = w.alloc (.cells #[.slice A xs.length c, .int .i64 S] 32) := ⟨_, rfl⟩
  have hs : X.heap.size = w.heap.size + 1 := by rw [hX]; simp
  rw [← hX] at hb hcell
  have c0 : X.cell? ⟨w.heap.size, 0, none⟩ = some (.slice A xs.length c) := cell_of_row X w.heap.size 0 _ _ _ hcell
  have c1 : X.cell? ⟨w.heap.size, 1, none⟩ = some (.int .i64 S) := cell_of_row X w.heap.size 1 _ _ _ hcell
  have HNP : Hid (Num X (.slice A xs.length c) P M) := ⟨A, c, xs, rfl, hr.below hb, hc, hl⟩
  obtain ⟨n, hn⟩ : ∃ n, n = xs.length := ⟨_, rfl⟩
  rw [← hn] at hX c0 HNP ⊢
  have HX := Lib.hid hX
  have HB := Lib.hid hb
  have HS : Hid (w.heap.size < X.heap.size) := by show _ < _; omega
  have HCC := Lib.hid (And.intro c0 c1)
  have HU1 := Lib.hid (h1.below hb)
  have HU2 := Lib.hid (h2.below hb)
  have HP := Lib.hid hP
  clear hX hb hcell h1 h2 hr hc hl c0 c1 hn hs hP
  go_enter Tryd.func11, Tryd.ntmps11
  go_upto_region 1 with (fail)
  rw [← HX.out]
  clear HX
  refine wp_region_see 7 [7, 8, 9, 10, 11, 12, 6] [(7, .is (u1)), (8, .is (u2)), (9, .num (a * b) (L1 + L2)), (10, .is (.pointer (some ⟨w.heap.size, 0, none⟩))), (11, .is (.slice A n c)), (12, .num (a * b % P) M), (6, .num (a * b % P) M)] (by kernel_rfl) (by kernel_rfl) (by rfl) ?_ ?_
  · refine seeOps_cons ?_ (seeOps_cons ?_ (seeOps_cons ?_ (seeOps_cons ?_ (seeOps_cons ?_ (seeOps_cons ?_ (seeOps_cons ?_ seeOps_nil))))))
    · intro w9 hb9 fr hout hin
      have h1 : fr.tmps.getD 1 undef = u1 := hout 1 (by decide)
      clear hout hin
      exact relStep_move (.tmp 1) rfl (wanted_none rfl) (by show fr.tmps.getD 1 undef = _; rw [h1])
    · intro w9 hb9 fr hout hin
      have h2 : fr.tmps.getD 2 undef = u2 := hout 2 (by decide)
      clear hout hin
      exact relStep_move (.tmp 2) rfl (wanted_none rfl) (by show fr.tmps.getD 2 undef = _; rw [h2])
    · intro w9 hb9 fr hout hin
      have h7 : fr.tmps.getD 7 undef = u1 := hin 7 (by decide) (by decide)
      have h8 : fr.tmps.getD 8 undef = u2 := hin 8 (by decide) (by decide)
      clear hout hin
      exact op_callB (.tmp 7) (.tmp 8) rfl en_rMul (wanted_none rfl) (by rw [show fr.eval (.tmp 7) = _ from h7, show fr.eval (.tmp 8) = _ from h8]; exact rmul_n w9 (HU1.out.below hb9) (HU2.out.below hb9) (by omega) (by omega)) (fun _ _ h => h)
    · intro w9 hb9 fr hout hin
      have h3 : fr.tmps.getD 3 undef = .pointer (some ⟨w.heap.size, 0, none⟩) := hout 3 (by decide)
      clear hout hin
      exact op_faF0 (.tmp 3) rfl h3 (wanted_none rfl) rfl
    · intro w9 hb9 fr hout hin
      have h10 : fr.tmps.getD 10 undef = .pointer (some ⟨w.heap.size, 0, none⟩) := hin 10 (by decide) (by decide)
      clear hout hin
      exact op_loadN1 (.tmp 10) rfl h10 ((hb9.cell (p := ⟨w.heap.size, 0, none⟩) HS.out).trans HCC.out.1) (wanted_none rfl) rfl
    · intro w9 hb9 fr hout hin
      have h9 : Num w9 (fr.tmps.getD 9 undef) (a * b) (L1 + L2) := hin 9 (by decide) (by decide)
      have h11 : fr.tmps.getD 11 undef = .slice A n c := hin 11 (by decide) (by decide)
      clear hout hin
      exact op_callB (.tmp 9) (.tmp 11) rfl en_rMod (wanted_none rfl) (by rw [show fr.eval (.tmp 11) = _ from h11]; exact rmod_n w9 h9 (HNP.out.below hb9) (by omega) (by omega) HP.out) (fun _ _ h => h)
    · intro w9 hb9 fr hout hin
      have h12 : Num w9 (fr.tmps.getD 12 undef) (a * b % P) M := hin 12 (by decide) (by decide)
      clear hout hin
      exact relStep_assign (.tmp 12) rfl (wanted_none rfl) h12
  intro wz hbn
  refine relAsk_in (by rfl) ?_
  intro v7 h7
  obtain rfl : v7 = u1 := h7
  refine relAsk_in (by rfl) ?_
  intro v8 h8
  obtain rfl : v8 = u2 := h8
  refine relAsk_in (by rfl) ?_
  intro v9 h9
  refine relAsk_in (by rfl) ?_
  intro v10 h10
  obtain rfl : v10 = .pointer (some ⟨w.heap.size, 0, none⟩) := h10
  refine relAsk_in (by rfl) ?_
  intro v11 h11
  obtain rfl : v11 = .slice A n c := h11
  refine relAsk_in (by rfl) ?_
  intro v12 h12
  refine relAsk_in (by rfl) ?_
  intro v6 h6
  refine relAsk_nil ?_
  refine wpList_nil ?_
  go_simp
  have HV := Lib.hid h6
  have HB1 := Lib.hid (HB.out.trans (hbn.mono HB.out.size))
  clear h6 h9 h12 hbn
  go_wp2_with fail
  go_ret
  exact ⟨_, rfl, HV.out, HB1.out⟩

set_option maxRecDepth 100000 in
set_option maxHeartbeats 6400000 in
theorem rFExp_c {u1 u2 v : Value} {a b P L1 L2 M : Nat} (w : World) (S : Int) (h1 : Num w u1 a L1) (h2 : Num w u2 b L2) (h' : Num w v P M) (hL1 : L1 ≤ 1000) (hL2 : L2 ≤ 1000) (hM : M ≤ 1000) (hP : 0 < P) :
    Calls Tryd.prog 39 #[.agg #[v, .int .i64 S], u1, u2] w (RetR (fun w' x => Num w' x (a ^ b % P) M) w) := by
  obtain ⟨A, c, xs, rfl, hr, hc, hl⟩ := h'
  have hb := (Below.refl w.heap.size w).alloc (Nat.le_refl _) (.cells #[.slice A xs.length c, .int .i64 S] 32)
  have hcell := heap_alloc_new w (.cells #[.slice A xs.length c, .int .i64 S] 32)
  obtain ⟨X, hX⟩ : ∃ X, X = w.alloc (.cells #[.slice A xs.length c, .int .i64 S] 32) := ⟨_, rfl⟩
  have hs : X.heap.size = w.heap.size + 1 := by rw [hX]; simp
  rw [← hX] at hb hcell
  have c0 : X.cell? ⟨w.heap.size, 0, none⟩ = some (.slice A xs.length c) := cell_of_row X w.heap.size 0 _ _ _ hcell
  have c1 : X.cell? ⟨w.heap.size, 1, none⟩ = some (.int .i64 S) := cell_of_row X w.heap.size 1 _ _ _ hcell
  have HNP : Hid (Num X (.slice A xs.length c) P M) := ⟨A, c, xs, rfl, hr.below hb, hc, hl⟩
  obtain ⟨n, hn⟩ : ∃ n, n = xs.length := ⟨_, rfl⟩
  rw [← hn] at hX c0 HNP ⊢
  have HX := Lib.hid hX
  have HB := Lib.hid hb
  have HS : Hid (w.heap.size < X.heap.size) := by show _ < _; omega
  have HCC := Lib.hid (And.intro c0 c1)
  have C1 := Lib.hid (rexp_n X (h1.below hb) (h2.below hb) HNP.out (by omega) (by omega) (by omega) hP)
  clear hX hb hcell h1 h2 hr hc hl hn hs hP HCC
  go_enter Tryd.func39, Tryd.ntmps39
  go_upto_region 1 with (fail)
  rw [← HX.out]
  clear HX
  go_wp2_with fail
  (with_reducible refine (C1.out).mono ?_)
  rintro e w1 ⟨v1, rfl, hv1, hb1⟩
  have HV1 := Lib.hid hv1
  have HB1 := Lib.hid (HB.out.trans (hb1.mono HB.out.size))
  clear hv1 hb1 C1
  go_wp2_with fail
  go_ret
  exact ⟨_, rfl, HV1.out, HB1.out⟩

set_option maxRecDepth 100000 in
set_option maxHeartbeats 6400000 in
theorem rFNeg_c {u1 v : Value} {a P L1 M : Nat} (w : World) (S : Int) (h1 : Num w u1 a L1) (h' : Num w v P M) (hL1 : L1 ≤ M) (hM : M ≤ 1000) (ha : a ≤ P) :
    Calls Tryd.prog 16 #[.agg #[v, .int .i64 S], u1] w (RetR (fun w' x => Num w' x (if a = 0 then 0 else P - a) M) w) := by
  obtain ⟨A, c, xs, rfl, hr, hc, hl⟩ := h'
  have hb := (Below.refl w.heap.size w).alloc (Nat.le_refl _) (.cells #[.slice A xs.length c, .int .i64 S] 32)
  have hcell := heap_alloc_new w (.cells #[.slice A xs.length c, .int .i64 S] 32)
  obtain ⟨X, hX⟩ : ∃ X, X = w.alloc (.cells #[.slice A xs.length c, .int .i64 S] 32) := ⟨_, rfl⟩
  have hs : X.heap.size = w.heap.size + 1 := by rw [hX]; simp
  rw [← hX] at hb hcell
  have c0 : X.cell? ⟨w.heap.size, 0, none⟩ = some (.slice A xs.length c) := cell_of_row X w.heap.size 0 _ _ _ hcell
  have c1 : X.cell? ⟨w.heap.size, 1, none⟩ = some (.int .i64 S) := cell_of_row X w.heap.size 1 _ _ _ hcell
  have HNP : Hid (Num X (.slice A xs.length c) P M) := ⟨A, c, xs, rfl, hr.below hb, hc, hl⟩
  obtain ⟨n, hn⟩ : ∃ n, n = xs.length := ⟨_, rfl⟩
  rw [← hn] at hX c0 HNP ⊢
  have HX := Lib.hid hX
  have HB := Lib.hid hb
  have HS : Hid (w.heap.size < X.heap.size) := by show _ < _; omega
  have HCC := Lib.hid (And.intro c0 c1)
  have C1 := Lib.hid (rsub_n X HNP.out (h1.below hb) (by omega) ha)
  have hu := h1.below hb
  obtain ⟨A1, k1, ys, rfl, hr1, hc1, hl1⟩ := h1
  have hz := hc1.pos (by omega)
  obtain ⟨m, hm⟩ : ∃ m, m = ys.length := ⟨_, rfl⟩
  rw [← hm] at C1 hu ⊢
  by_cases h0 : a = 0
  · have hm0 : m = 0 := by rw [hm, hz.2 h0]; rfl
    rw [if_pos h0]
    subst hm0
    have HU : Hid (Num X (.slice A1 0 k1) 0 M) := (hu.at_ h0).mono hL1
    clear hX hb hcell hr1 hc1 hl1 hr hc hl hn hs hz h0 hu ha hm C1 HCC c0 c1
    go_enter Tryd.func16, Tryd.ntmps16
    go_upto_region 1 with (fail)
    rw [← HX.out]
    clear HX
    go_wp2_with fail
    go_ret
    exact ⟨_, rfl, HU.out, HB.out⟩
  · have hm0 : ((m : Int) == 0) = false := by
      have : m ≠ 0 := fun e => h0 (hz.1 (List.eq_nil_of_length_eq_zero (hm.symm.trans e)))
      simp; omega
    rw [if_neg h0]
    clear hX hb hcell hr1 hc1 hl1 hr hc hl hn hs hz h0 hu ha hm HCC
    go_enter Tryd.func16, Tryd.ntmps16
    go_upto_region 1 with (fail)
    rw [← HX.out]
    clear HX
    go_wp2_with fail
    (with_reducible refine (C1.out).mono ?_)
    rintro e w1 ⟨v1, rfl, hv1, hb1⟩
    have HV1 := Lib.hid hv1
    have HB1 := Lib.hid (HB.out.trans (hb1.mono HB.out.size))
    clear hv1 hb1 C1
    go_wp2_with fail
    go_ret
    exact ⟨_, rfl, HV1.out, HB1.out⟩
end Go.Proofs.YteaafnjflghlhaaDoor
namespace Go.Proofs.YteaafnjflghlhaaDoor
open Go.RowKit

theorem pr_of {n : Nat} (h : (cerRows.any fun c => Nat.beq c.n n) = true) : Pr n := by
  obtain ⟨c, hc, e⟩ := List.any_eq_true.1 h
  have e : c.n = n := Nat.eq_of_beq_eq_true e
  rw [← e]
  exact cers_pr cerRows [2] (fun y hy => by rw [List.mem_singleton.1 hy]; exact pr_two) cerRows_ok c hc
theorem prm_prime {k : Nat} (h1 : 1 ≤ k) (h6 : k ≤ 6) : Pr (prm k) ∧ prm k % 2 = 1 := by
  rcases (show k = 1 ∨ k = 2 ∨ k = 3 ∨ k = 4 ∨ k = 5 ∨ k = 6 by omega) with rfl | rfl | rfl | rfl | rfl | rfl <;>
  exact ⟨pr_of (by kernel_rfl), by decide +kernel⟩
end Go.Proofs.YteaafnjflghlhaaDoor
namespace Go.Proofs.YteaafnjflghlhaaDoor
open Go.RowKit

/-- Kind and first number of an Ask. -/
theorem askCellsI {w X : World} {K : Int} {a0 a1 a2 a3 a4 a5 : Nat} {b0 b1 b2 b3 b4 b5 c0 c1 c2 c3 c4 c5 e : Value} (hX : X = w.alloc (.cells #[.int .i64 K, .int .u64 (a0 : Nat), .int .u64 (a1 : Nat), .int .u64 (a2 : Nat), .int .u64 (a3 : Nat), .int .u64 (a4 : Nat), .int .u64 (a5 : Nat), b0, b1, b2, b3, b4, b5, c0, c1, c2, c3, c4, c5, e] 27)) :
    X.cell? ⟨w.heap.size, 0, none⟩ = some (.int .i64 K) ∧ L6 X w.heap.size 1 a0 a1 a2 a3 a4 a5 ∧ Below w.heap.size w X ∧ X.heap.size = w.heap.size + 1 := by
  subst hX
  have h := heap_alloc_new w (.cells #[.int .i64 K, .int .u64 (a0 : Nat), .int .u64 (a1 : Nat), .int .u64 (a2 : Nat), .int .u64 (a3 : Nat), .int .u64 (a4 : Nat), .int .u64 (a5 : Nat), b0, b1, b2, b3, b4, b5, c0, c1, c2, c3, c4, c5, e] 27)
  have c := fun j => cell_of_row _ w.heap.size j _ _ _ h
  exact ⟨c 0, ⟨c 1, c 2, c 3, c 4, c 5, c 6⟩, (Below.refl _ _).alloc (Nat.le_refl _) _, by simp⟩
set_option maxRecDepth 100000 in
set_option maxHeartbeats 6400000 in
theorem fieldInverse_no {K : Int} {a0 a1 a2 a3 a4 a5 : Nat} {b0 b1 b2 b3 b4 b5 c0 c1 c2 c3 c4 c5 ve : Value} (w : World) (hK : K < 1 ∨ 6 < K) (hG : PrimesAt w) :
    Calls Tryd.prog 3 #[.agg #[.int .i64 K, .int .u64 (a0 : Nat), .int .u64 (a1 : Nat), .int .u64 (a2 : Nat), .int .u64 (a3 : Nat), .int .u64 (a4 : Nat), .int .u64 (a5 : Nat), b0, b1, b2, b3, b4, b5, c0, c1, c2, c3, c4, c5, ve]] w (RetV (.bool true) w) := by
  obtain ⟨X, hX⟩ : ∃ X, X = w.alloc (.cells #[.int .i64 K, .int .u64 (a0 : Nat), .int .u64 (a1 : Nat), .int .u64 (a2 : Nat), .int .u64 (a3 : Nat), .int .u64 (a4 : Nat), .int .u64 (a5 : Nat), b0, b1, b2, b3, b4, b5, c0, c1, c2, c3, c4, c5, ve] 27) := ⟨_, rfl⟩
  obtain ⟨q0, -, hb, hs⟩ := askCellsI hX
  have CB := Lib.hid (fboth_no (K := K) X hK (hG.below hb hG.lt))
  have HX := Lib.hid hX
  have HB := Lib.hid hb
  clear hX hb hs hG hK
  go_enter Tryd.func3, Tryd.ntmps3
  go_upto_region 1 with (fail)
  rw [← HX.out]
  clear HX
  go_wp2_with fail
  (with_reducible refine (CB.out).mono ?_)
  rintro e w1 ⟨r, rfl, rfl, hb1⟩
  have HB1 := Lib.hid (HB.out.trans (hb1.mono HB.out.size))
  clear hb1 CB
  go_wp2_with fail
  go_ret
  exact ⟨rfl, HB1.out.alloc HB1.out.size _⟩

set_option maxRecDepth 100000 in
set_option maxHeartbeats 6400000 in
theorem fieldInverse_k {k a0 a1 a2 a3 a4 a5 : Nat} {b0 b1 b2 b3 b4 b5 c0 c1 c2 c3 c4 c5 ve : Value} (w : World) (h1 : 1 ≤ k) (h6 : k ≤ 6) (hG : PrimesAt w) (la : Lim6 a0 a1 a2 a3 a4 a5) :
    Calls Tryd.prog 3 #[.agg #[.int .i64 (k : Nat), .int .u64 (a0 : Nat), .int .u64 (a1 : Nat), .int .u64 (a2 : Nat), .int .u64 (a3 : Nat), .int .u64 (a4 : Nat), .int .u64 (a5 : Nat), b0, b1, b2, b3, b4, b5, c0, c1, c2, c3, c4, c5, ve]] w (RetV (.bool true) w) := by
  obtain ⟨X, hX⟩ : ∃ X, X = w.alloc (.cells #[.int .i64 (k : Nat), .int .u64 (a0 : Nat), .int .u64 (a1 : Nat), .int .u64 (a2 : Nat), .int .u64 (a3 : Nat), .int .u64 (a4 : Nat), .int .u64 (a5 : Nat), b0, b1, b2, b3, b4, b5, c0, c1, c2, c3, c4, c5, ve] 27) := ⟨_, rfl⟩
  obtain ⟨q0, hA, hb, hs⟩ := askCellsI hX
  have CB := Lib.hid (fboth_c (k := k) X h1 h6 (hG.below hb hG.lt))
  have HK := Lib.hid (fnum h1 h6)
  have HPR := Lib.hid (prm_prime h1 h6)
  have HX := Lib.hid hX
  have HB := Lib.hid hb
  have HS := Lib.hid hs
  have HA := Lib.hid hA
  have HLA := Lib.hid la
  clear hX hb hs hA hG h1 h6 la
  go_enter Tryd.func3, Tryd.ntmps3
  go_upto_region 1 with (fail)
  rw [← HX.out]
  clear HX
  go_wp2_with fail
  (with_reducible refine (CB.out).mono ?_)
  rintro e w1 ⟨F, A1, n1, c1, rfl, hN, hF, hFl, hb1⟩
  obtain ⟨S, hS⟩ : ∃ S : Nat, S = 8 * plim k := ⟨_, rfl⟩
  rw [← hS]
  obtain ⟨X1, hX1⟩ : ∃ X, X = w1.alloc (.cells #[.slice A1 n1 c1, .int .i64 (S : Nat)] 32) := ⟨_, rfl⟩
  obtain ⟨⟨r0, r1, -, -⟩, -, hbx, hsx⟩ := cellF hX1
  have HX1 := Lib.hid hX1
  have hxx : Below X.heap.size X X1 := hb1.trans (hbx.mono hb1.size)
  have HN1 := Lib.hid (hN.below hbx)
  have HF1 := Lib.hid (hF.below hbx hF.lt)
  have HR1 := Lib.hid (And.intro r0 r1)
  have HA1 := Lib.hid (HA.out.keepB (hxx.block w.heap.size (by rw [HS.out]; omega)))
  have HW1 := Lib.hid (HB.out.trans (hxx.mono HB.out.size))
  have HSZ1 : Hid (w1.heap.size < X1.heap.size ∧ w.heap.size < X1.heap.size ∧ w.heap.size < w1.heap.size) := ⟨by omega, by have := hxx.size; have := HS.out; omega, by have := hb1.size; have := HS.out; omega⟩
  clear hN hF hFl hb1 hX1 hbx hsx hxx hS r0 r1 CB HA HB q0
  go_upto_region 4 with (fail)
  rw [← HX1.out]
  clear HX1
  refine wp_region_see 6 [21, 22, 23, 24, 25, 7] [(21, .is (.agg #[.slice A1 n1 c1, .int .i64 (S : Nat)])), (22, .is (.pointer (some ⟨w.heap.size, 1, none⟩))), (23, .is (W6 a0 a1 a2 a3 a4 a5)), (24, .num (n6 a0 a1 a2 a3 a4 a5) 12), (25, .num (n6 a0 a1 a2 a3 a4 a5 % prm k) 12), (7, .num (n6 a0 a1 a2 a3 a4 a5 % prm k) 12)] (by kernel_rfl) (by kernel_rfl) (by rfl) ?_ ?_
  · refine seeOps_cons ?_ (seeOps_cons ?_ (seeOps_cons ?_ (seeOps_cons ?_ (seeOps_cons ?_ (seeOps_cons ?_ seeOps_nil)))))
    · intro w9 hb9 fr hout hin
      have h4 : fr.tmps.getD 4 undef = .pointer (some ⟨w1.heap.size, 0, none⟩) := hout 4 (by decide)
      clear hout hin
      exact op_loadF (.tmp 4) rfl h4 ⟨(hb9.cell (p := ⟨w1.heap.size, 0, none⟩) HSZ1.out.1).trans HR1.out.1, (hb9.cell (p := ⟨w1.heap.size, 1, none⟩) HSZ1.out.1).trans HR1.out.2⟩ (wanted_none rfl) rfl
    · intro w9 hb9 fr hout hin
      have h1 : fr.tmps.getD 1 undef = .pointer (some ⟨w.heap.size, 0, none⟩) := hout 1 (by decide)
      clear hout hin
      exact op_faA (.tmp 1) rfl h1 (wanted_none rfl) rfl
    · intro w9 hb9 fr hout hin
      have h22 : fr.tmps.getD 22 undef = .pointer (some ⟨w.heap.size, 1, none⟩) := hin 22 (by decide) (by decide)
      clear hout hin
      exact op_load6 (.tmp 22) rfl h22 (HA1.out.keepB (hb9.block w.heap.size HSZ1.out.2.1)) (wanted_none rfl) rfl
    · intro w9 hb9 fr hout hin
      have h23 : fr.tmps.getD 23 undef = W6 a0 a1 a2 a3 a4 a5 := hin 23 (by decide) (by decide)
      clear hout hin
      exact op_call1 (.tmp 23) rfl en_rN (wanted_none rfl) (by rw [show fr.eval (.tmp 23) = _ from h23]; exact rN_c w9 HLA.out) (fun _ _ h => h)
    · intro w9 hb9 fr hout hin
      have h21 : fr.tmps.getD 21 undef = .agg #[.slice A1 n1 c1, .int .i64 (S : Nat)] := hin 21 (by decide) (by decide)
      have h24 : Num w9 (fr.tmps.getD 24 undef) (n6 a0 a1 a2 a3 a4 a5) 12 := hin 24 (by decide) (by decide)
      clear hout hin
      exact op_callB (.tmp 21) (.tmp 24) rfl en_rRed (wanted_none rfl) (by rw [show fr.eval (.tmp 21) = _ from h21]; exact rRed_c w9 (S : Nat) h24 (HN1.out.below hb9) (by omega) (by omega) (by have := HK.out.pos; omega)) (fun _ _ h => h)
    · intro w9 hb9 fr hout hin
      have h25 : Num w9 (fr.tmps.getD 25 undef) (n6 a0 a1 a2 a3 a4 a5 % prm k) 12 := hin 25 (by decide) (by decide)
      clear hout hin
      exact relStep_assign (.tmp 25) rfl (wanted_none rfl) h25
  intro w4 hbn
  refine relAsk_in (by rfl) ?_
  intro v21 h21
  obtain rfl : v21 = .agg #[.slice A1 n1 c1, .int .i64 (S : Nat)] := h21
  refine relAsk_in (by rfl) ?_
  intro v22 h22
  obtain rfl : v22 = .pointer (some ⟨w.heap.size, 1, none⟩) := h22
  refine relAsk_in (by rfl) ?_
  intro v23 h23
  obtain rfl : v23 = W6 a0 a1 a2 a3 a4 a5 := h23
  refine relAsk_in (by rfl) ?_
  intro v24 h24
  refine relAsk_in (by rfl) ?_
  intro v25 h25
  refine relAsk_in (by rfl) ?_
  intro v7 h7
  refine relAsk_nil ?_
  refine wpList_nil ?_
  clear h24 h25
  obtain ⟨A7, c7, xs7, rfl, hr7, hc7, hl7⟩ := h7
  have hz7 := hc7.pos (by omega)
  obtain ⟨n7, hn7⟩ : ∃ n, n = xs7.length := ⟨_, rfl⟩
  have HV7 : Hid (Num w4 (.slice A7 n7 c7) (n6 a0 a1 a2 a3 a4 a5 % prm k) 12) := ⟨A7, c7, xs7, by rw [hn7], hr7, hc7, hl7⟩
  have H7 : Hid (n7 = 0 ↔ n6 a0 a1 a2 a3 a4 a5 % prm k = 0) := by
    show _ ↔ _
    rw [← hz7, hn7]
    exact List.length_eq_zero_iff
  rw [← hn7]
  have HA4 := Lib.hid (HA1.out.keepB (hbn.block w.heap.size HSZ1.out.2.1))
  have HR4 : Hid (w4.cell? ⟨w1.heap.size, 0, none⟩ = some (.slice A1 n1 c1) ∧ w4.cell? ⟨w1.heap.size, 1, none⟩ = some (.int .i64 (S : Nat))) := ⟨(hbn.cell (p := ⟨w1.heap.size, 0, none⟩) HSZ1.out.1).trans HR1.out.1, (hbn.cell (p := ⟨w1.heap.size, 1, none⟩) HSZ1.out.1).trans HR1.out.2⟩
  have HN4 := Lib.hid (HN1.out.below hbn)
  have HF4 := Lib.hid (HF1.out.below hbn HF1.out.lt)
  have HW4 := Lib.hid (HW1.out.trans (hbn.mono (Nat.le_of_lt HSZ1.out.2.1)))
  have HSZ4 : Hid (w1.heap.size < w4.heap.size ∧ w.heap.size < w4.heap.size) := ⟨Nat.lt_of_lt_of_le HSZ1.out.1 hbn.size, Nat.lt_of_lt_of_le HSZ1.out.2.1 hbn.size⟩
  have CI := Lib.hid (fInv_c w4 HK.out HPR.out.1 HPR.out.2 HF4.out HLA.out)
  have hA4 := HA4.out
  obtain ⟨d0, d1, d2, d3, d4, d5⟩ := hA4
  simp only [Nat.reduceAdd] at d0 d1 d2 d3 d4 d5
  clear hr7 hc7 hl7 hz7 hn7 hbn HA1 HR1 HN1 HF1 HW1 HSZ1
  go_simp
  go_wp2_with fail
  (with_reducible refine (CI.out).mono ?_)
  rintro e w5 ⟨s0, s1, s2, s3, s4, s5, b, rfl, ls, hcase, hb5⟩
  obtain ⟨X5, hX5⟩ : ∃ X, X = w5.alloc (.cells #[.int .u64 (s0 : Nat), .int .u64 (s1 : Nat), .int .u64 (s2 : Nat), .int .u64 (s3 : Nat), .int .u64 (s4 : Nat), .int .u64 (s5 : Nat)] 24) := ⟨_, rfl⟩
  obtain ⟨gx, -, gb, gs⟩ := box6 w5 s0 s1 s2 s3 s4 s5
  rw [show Box6 w5 s0 s1 s2 s3 s4 s5 = X5 from hX5.symm] at gx gb gs
  have hb45 : Below w4.heap.size w4 X5 := hb5.trans (gb.mono hb5.size)
  have HA5 := Lib.hid (HA4.out.keepB (hb45.block w.heap.size HSZ4.out.2))
  have HR5 : Hid (X5.cell? ⟨w1.heap.size, 0, none⟩ = some (.slice A1 n1 c1) ∧ X5.cell? ⟨w1.heap.size, 1, none⟩ = some (.int .i64 (S : Nat))) := ⟨(hb45.cell (p := ⟨w1.heap.size, 0, none⟩) HSZ4.out.1).trans HR4.out.1, (hb45.cell (p := ⟨w1.heap.size, 1, none⟩) HSZ4.out.1).trans HR4.out.2⟩
  have HN5 := Lib.hid (HN4.out.below hb45)
  have HF5 := Lib.hid (HF4.out.below hb45 HF4.out.lt)
  have HV5 := Lib.hid (HV7.out.below hb45)
  have HW5 := Lib.hid (HW4.out.trans (hb45.mono (Nat.le_of_lt HSZ4.out.2)))
  have HSZ5 : Hid (w1.heap.size < X5.heap.size ∧ w.heap.size < X5.heap.size ∧ w5.heap.size < X5.heap.size) := ⟨Nat.lt_of_lt_of_le HSZ4.out.1 hb45.size, Nat.lt_of_lt_of_le HSZ4.out.2 hb45.size, by omega⟩
  have HS5 : Hid (L6 X5 w5.heap.size 0 s0 s1 s2 s3 s4 s5) := gx
  have HX5 := Lib.hid hX5
  clear CI hb5 hb45 gx gb gs hX5 HA4 HR4 HN4 HF4 HV7 HW4 HSZ4 d0 d1 d2 d3 d4 d5
  go_upto_region 6 with (fail)
  rw [← HX5.out]
  clear HX5
  rcases hcase with ⟨h0, rfl, rfl, rfl, rfl, rfl, rfl, rfl⟩ | ⟨h0, rfl, bs, es⟩
  · obtain rfl : n7 = 0 := H7.out.2 h0
    have q0 := eq0
    obtain ⟨e0, e1, e2, e3, e4, e5⟩ := HS5.out
    simp only [Nat.zero_add] at e1 e2 e3 e4 e5
    have e0' : X5.cell? ⟨w5.heap.size, 0, none⟩ = some (.int .u64 0) := e0
    have e1' : X5.cell? ⟨w5.heap.size, 1, none⟩ = some (.int .u64 0) := e1
    have e2' : X5.cell? ⟨w5.heap.size, 2, none⟩ = some (.int .u64 0) := e2
    have e3' : X5.cell? ⟨w5.heap.size, 3, none⟩ = some (.int .u64 0) := e3
    have e4' : X5.cell? ⟨w5.heap.size, 4, none⟩ = some (.int .u64 0) := e4
    have e5' : X5.cell? ⟨w5.heap.size, 5, none⟩ = some (.int .u64 0) := e5
    clear e0 e1 e2 e3 e4 e5 h0 ls H7
    go_wp2_with fail
    go_ret
    exact ⟨rfl, HW5.out⟩
  · have H70 : Hid (0 < (n7 : Int)) := by
      show _ < _
      have : n7 ≠ 0 := fun e => h0 (H7.out.1 e)
      omega
    have HLS := Lib.hid ls
    have HC1 : Hid (ordI (n6 s0 s1 s2 s3 s4 s5) (prm k) = -1) := if_pos bs
    have HC2 : Hid (ordI (n6 a0 a1 a2 a3 a4 a5 % prm k * n6 s0 s1 s2 s3 s4 s5 % prm k) 1 = 0) := by
      show _ = _
      rw [Nat.mod_mul_mod, es]
      rfl
    have HM : Hid (∀ W, FldAt (prm k) (plim k) W F → Calls Tryd.prog 13 #[.pointer (some ⟨F, 0, none⟩), W6 s0 s1 s2 s3 s4 s5, W6 a0 a1 a2 a3 a4 a5] W (RetR (fun _ v => v = W6 1 0 0 0 0 0) W)) := fun W hW =>
      (fMul_c W HK.out hW HLS.out HLA.out).mono (by
        rintro e w' ⟨t0, t1, t2, t3, t4, t5, rfl, lt, et, hb⟩
        obtain ⟨rfl, rfl, rfl, rfl, rfl, rfl⟩ := n6_small (n := 1) lt (by omega) (by rw [et, Nat.mul_comm, es])
        exact ⟨_, rfl, rfl, hb⟩)
    have HOF : Hid (∀ W, Calls Tryd.prog 12 #[.int .u64 1] W (RetR (fun w' v => Num w' v 1 2) W)) := fun W => rof_c 1 (by omega) W
    clear h0 bs es ls H7
    go_upto_region 8 with (fail)
    refine wp_region_see 31 [43, 44, 45, 46, 47, 48, 49, 50, 51, 52, 53, 54, 55, 56, 57, 58, 59, 60, 61, 62, 63, 64, 65, 66, 67, 68, 69, 70, 71, 72, 2] [(43, .is (.slice A7 n7 c7)), (44, .is (.int .i64 (n7 : Nat))), (45, .is (.bool true)), (46, .is (.bool true)), (47, .is (W6 s0 s1 s2 s3 s4 s5)), (48, .num (n6 s0 s1 s2 s3 s4 s5) 12), (49, .is (.pointer (some ⟨w1.heap.size, 0, none⟩))), (50, .is (.slice A1 n1 c1)), (51, .is (.int .i64 (-1))), (52, .is (.bool true)), (53, .is (.bool true)), (54, .is (.bool true)), (55, .is (.agg #[.slice A1 n1 c1, .int .i64 (S : Nat)])), (56, .is (.slice A7 n7 c7)), (57, .is (W6 s0 s1 s2 s3 s4 s5)), (58, .num (n6 s0 s1 s2 s3 s4 s5) 12), (59, .num (n6 a0 a1 a2 a3 a4 a5 % prm k * n6 s0 s1 s2 s3 s4 s5 % prm k) 12), (60, .num 1 2), (61, .is (.int .i64 0)), (62, .is (.bool true)), (63, .is (.bool true)), (64, .is (.bool true)), (65, .is (.pointer (some ⟨F, 0, none⟩))), (66, .is (W6 s0 s1 s2 s3 s4 s5)), (67, .is (.pointer (some ⟨w.heap.size, 1, none⟩))), (68, .is (W6 a0 a1 a2 a3 a4 a5)), (69, .is (W6 1 0 0 0 0 0)), (70, .is (W6 1 0 0 0 0 0)), (71, .is (.bool true)), (72, .is (.bool true)), (2, .is (.bool true))] (by kernel_rfl) (by kernel_rfl) (by rfl) ?_ ?_
    · refine seeOps_cons ?_ (seeOps_cons ?_ (seeOps_cons ?_ (seeOps_cons ?_ (seeOps_cons ?_ (seeOps_cons ?_ (seeOps_cons ?_ (seeOps_cons ?_ (seeOps_cons ?_ (seeOps_cons ?_ (seeOps_cons ?_ (seeOps_cons ?_ (seeOps_cons ?_ (seeOps_cons ?_ (seeOps_cons ?_ (seeOps_cons ?_ (seeOps_cons ?_ (seeOps_cons ?_ (seeOps_cons ?_ (seeOps_cons ?_ (seeOps_cons ?_ (seeOps_cons ?_ (seeOps_cons ?_ (seeOps_cons ?_ (seeOps_cons ?_ (seeOps_cons ?_ (seeOps_cons ?_ (seeOps_cons ?_ (seeOps_cons ?_ (seeOps_cons ?_ (seeOps_cons ?_ seeOps_nil))))))))))))))))))))))))))))))
      · intro w9 hb9 fr hout hin
        have h7 : fr.tmps.getD 7 undef = .slice A7 n7 c7 := hout 7 (by decide)
        clear hout hin
        exact relStep_move (.tmp 7) rfl (wanted_none rfl) (by show fr.tmps.getD 7 undef = _; rw [h7])
      · intro w9 hb9 fr hout hin
        have h43 : fr.tmps.getD 43 undef = .slice A7 n7 c7 := hin 43 (by decide) (by decide)
        clear hout hin
        exact op_lenN (.tmp 43) rfl h43 (wanted_none rfl) rfl
      · intro w9 hb9 fr hout hin
        have h44 : fr.tmps.getD 44 undef = .int .i64 (n7 : Nat) := hin 44 (by decide) (by decide)
        clear hout hin
        exact op_gtI (.tmp 44) (.const (.int .i64 0)) _ (decide_eq_true H70.out) rfl h44 rfl (wanted_none rfl) rfl
      · intro w9 hb9 fr hout hin
        have h45 : fr.tmps.getD 45 undef = .bool true := hin 45 (by decide) (by decide)
        clear hout hin
        exact relStep_move (.tmp 45) rfl (wanted_none rfl) (by show fr.tmps.getD 45 undef = _; rw [h45])
      · intro w9 hb9 fr hout hin
        have h8 : fr.tmps.getD 8 undef = .pointer (some ⟨w5.heap.size, 0, none⟩) := hout 8 (by decide)
        have h46 : fr.tmps.getD 46 undef = .bool true := hin 46 (by decide) (by decide)
        clear hout hin
        exact op_load6 (.tmp 8) rfl h8 (HS5.out.keepB (hb9.block w5.heap.size HSZ5.out.2.2)) (wanted_some (g := 3) (t := 46) (b := true) rfl rfl h46) rfl
      · intro w9 hb9 fr hout hin
        have h47 : fr.tmps.getD 47 undef = W6 s0 s1 s2 s3 s4 s5 := hin 47 (by decide) (by decide)
        have h46 : fr.tmps.getD 46 undef = .bool true := hin 46 (by decide) (by decide)
        clear hout hin
        exact op_call1 (.tmp 47) rfl en_rN (wanted_some (g := 3) (t := 46) (b := true) rfl rfl h46) (by rw [show fr.eval (.tmp 47) = _ from h47]; exact rN_c w9 HLS.out) (fun _ _ h => h)
      · intro w9 hb9 fr hout hin
        have h4 : fr.tmps.getD 4 undef = .pointer (some ⟨w1.heap.size, 0, none⟩) := hout 4 (by decide)
        have h46 : fr.tmps.getD 46 undef = .bool true := hin 46 (by decide) (by decide)
        clear hout hin
        exact op_faF0 (.tmp 4) rfl h4 (wanted_some (g := 3) (t := 46) (b := true) rfl rfl h46) rfl
      · intro w9 hb9 fr hout hin
        have h49 : fr.tmps.getD 49 undef = .pointer (some ⟨w1.heap.size, 0, none⟩) := hin 49 (by decide) (by decide)
        have h46 : fr.tmps.getD 46 undef = .bool true := hin 46 (by decide) (by decide)
        clear hout hin
        exact op_loadN1 (.tmp 49) rfl h49 ((hb9.cell (p := ⟨w1.heap.size, 0, none⟩) HSZ5.out.1).trans HR5.out.1) (wanted_some (g := 3) (t := 46) (b := true) rfl rfl h46) rfl
      · intro w9 hb9 fr hout hin
        have h48 : Num w9 (fr.tmps.getD 48 undef) (n6 s0 s1 s2 s3 s4 s5) 12 := hin 48 (by decide) (by decide)
        have h50 : fr.tmps.getD 50 undef = .slice A1 n1 c1 := hin 50 (by decide) (by decide)
        have h46 : fr.tmps.getD 46 undef = .bool true := hin 46 (by decide) (by decide)
        clear hout hin
        exact op_callB (.tmp 48) (.tmp 50) rfl en_rCmp (wanted_some (g := 3) (t := 46) (b := true) rfl rfl h46) (by rw [show fr.eval (.tmp 50) = _ from h50]; exact (rcmp_n w9 h48 (HN5.out.below hb9) (by omega)).mono fun e w' hk => (⟨_, hk.below.1, by rw [HC1.out], hk.below.2⟩ : RetR (fun _ v => v = .int .i64 (-1)) w9 e w')) (fun _ _ h => h)
      · intro w9 hb9 fr hout hin
        have h51 : fr.tmps.getD 51 undef = .int .i64 (-1) := hin 51 (by decide) (by decide)
        have h46 : fr.tmps.getD 46 undef = .bool true := hin 46 (by decide) (by decide)
        clear hout hin
        exact op_ltI (.tmp 51) (.const (.int .i64 0)) _ (b := true) (by decide) rfl h51 rfl (wanted_some (g := 3) (t := 46) (b := true) rfl rfl h46) rfl
      · intro w9 hb9 fr hout hin
        have h46 : fr.tmps.getD 46 undef = .bool true := hin 46 (by decide) (by decide)
        have h52 : fr.tmps.getD 52 undef = .bool true := hin 52 (by decide) (by decide)
        clear hout hin
        exact relStep_pick (.tmp 46) (.tmp 52) (.const (.bool false)) rfl h46 (wanted_none rfl) (by show fr.tmps.getD 52 undef = _; rw [h52])
      · intro w9 hb9 fr hout hin
        have h53 : fr.tmps.getD 53 undef = .bool true := hin 53 (by decide) (by decide)
        clear hout hin
        exact relStep_move (.tmp 53) rfl (wanted_none rfl) (by show fr.tmps.getD 53 undef = _; rw [h53])
      · intro w9 hb9 fr hout hin
        have h4 : fr.tmps.getD 4 undef = .pointer (some ⟨w1.heap.size, 0, none⟩) := hout 4 (by decide)
        have h54 : fr.tmps.getD 54 undef = .bool true := hin 54 (by decide) (by decide)
        clear hout hin
        exact op_loadF (.tmp 4) rfl h4 ⟨(hb9.cell (p := ⟨w1.heap.size, 0, none⟩) HSZ5.out.1).trans HR5.out.1, (hb9.cell (p := ⟨w1.heap.size, 1, none⟩) HSZ5.out.1).trans HR5.out.2⟩ (wanted_some (g := 11) (t := 54) (b := true) rfl rfl h54) rfl
      · intro w9 hb9 fr hout hin
        have h7 : fr.tmps.getD 7 undef = .slice A7 n7 c7 := hout 7 (by decide)
        have h54 : fr.tmps.getD 54 undef = .bool true := hin 54 (by decide) (by decide)
        clear hout hin
        exact relStep_move (.tmp 7) rfl (wanted_some (g := 11) (t := 54) (b := true) rfl rfl h54) (by show fr.tmps.getD 7 undef = _; rw [h7])
      · intro w9 hb9 fr hout hin
        have h8 : fr.tmps.getD 8 undef = .pointer (some ⟨w5.heap.size, 0, none⟩) := hout 8 (by decide)
        have h54 : fr.tmps.getD 54 undef = .bool true := hin 54 (by decide) (by decide)
        clear hout hin
        exact op_load6 (.tmp 8) rfl h8 (HS5.out.keepB (hb9.block w5.heap.size HSZ5.out.2.2)) (wanted_some (g := 11) (t := 54) (b := true) rfl rfl h54) rfl
      · intro w9 hb9 fr hout hin
        have h57 : fr.tmps.getD 57 undef = W6 s0 s1 s2 s3 s4 s5 := hin 57 (by decide) (by decide)
        have h54 : fr.tmps.getD 54 undef = .bool true := hin 54 (by decide) (by decide)
        clear hout hin
        exact op_call1 (.tmp 57) rfl en_rN (wanted_some (g := 11) (t := 54) (b := true) rfl rfl h54) (by rw [show fr.eval (.tmp 57) = _ from h57]; exact rN_c w9 HLS.out) (fun _ _ h => h)
      · intro w9 hb9 fr hout hin
        have h55 : fr.tmps.getD 55 undef = .agg #[.slice A1 n1 c1, .int .i64 (S : Nat)] := hin 55 (by decide) (by decide)
        have h56 : fr.tmps.getD 56 undef = .slice A7 n7 c7 := hin 56 (by decide) (by decide)
        have h58 : Num w9 (fr.tmps.getD 58 undef) (n6 s0 s1 s2 s3 s4 s5) 12 := hin 58 (by decide) (by decide)
        have h54 : fr.tmps.getD 54 undef = .bool true := hin 54 (by decide) (by decide)
        clear hout hin
        exact op_call3 (.tmp 55) (.tmp 56) (.tmp 58) rfl en_rFMul (wanted_some (g := 11) (t := 54) (b := true) rfl rfl h54) (by rw [show fr.eval (.tmp 55) = _ from h55, show fr.eval (.tmp 56) = _ from h56]; exact rFMul_c w9 (S : Nat) (HV5.out.below hb9) h58 (HN5.out.below hb9) (by omega) (by omega) (by omega) (by have := HK.out.pos; omega)) (fun _ _ h => h)
      · intro w9 hb9 fr hout hin
        have h54 : fr.tmps.getD 54 undef = .bool true := hin 54 (by decide) (by decide)
        clear hout hin
        exact op_call1 (.const (.int .u64 1)) rfl en_rOf2 (wanted_some (g := 11) (t := 54) (b := true) rfl rfl h54) (HOF.out w9) (fun _ _ h => h)
      · intro w9 hb9 fr hout hin
        have h59 : Num w9 (fr.tmps.getD 59 undef) (n6 a0 a1 a2 a3 a4 a5 % prm k * n6 s0 s1 s2 s3 s4 s5 % prm k) 12 := hin 59 (by decide) (by decide)
        have h60 : Num w9 (fr.tmps.getD 60 undef) 1 2 := hin 60 (by decide) (by decide)
        have h54 : fr.tmps.getD 54 undef = .bool true := hin 54 (by decide) (by decide)
        clear hout hin
        exact op_callB (.tmp 59) (.tmp 60) rfl en_rCmp (wanted_some (g := 11) (t := 54) (b := true) rfl rfl h54) ((rcmp_n w9 h59 h60 (by omega)).mono fun e w' hk => (⟨_, hk.below.1, by rw [HC2.out], hk.below.2⟩ : RetR (fun _ v => v = .int .i64 0) w9 e w')) (fun _ _ h => h)
      · intro w9 hb9 fr hout hin
        have h61 : fr.tmps.getD 61 undef = .int .i64 0 := hin 61 (by decide) (by decide)
        have h54 : fr.tmps.getD 54 undef = .bool true := hin 54 (by decide) (by decide)
        clear hout hin
        exact op_eqID (.tmp 61) (.const (.int .i64 0)) _ (b := true) (by decide) rfl h61 rfl (wanted_some (g := 11) (t := 54) (b := true) rfl rfl h54) rfl
      · intro w9 hb9 fr hout hin
        have h54 : fr.tmps.getD 54 undef = .bool true := hin 54 (by decide) (by decide)
        have h62 : fr.tmps.getD 62 undef = .bool true := hin 62 (by decide) (by decide)
        clear hout hin
        exact relStep_pick (.tmp 54) (.tmp 62) (.const (.bool false)) rfl h54 (wanted_none rfl) (by show fr.tmps.getD 62 undef = _; rw [h62])
      · intro w9 hb9 fr hout hin
        have h63 : fr.tmps.getD 63 undef = .bool true := hin 63 (by decide) (by decide)
        clear hout hin
        exact relStep_move (.tmp 63) rfl (wanted_none rfl) (by show fr.tmps.getD 63 undef = _; rw [h63])
      · intro w9 hb9 fr hout hin
        have h3 : fr.tmps.getD 3 undef = .pointer (some ⟨F, 0, none⟩) := hout 3 (by decide)
        have h64 : fr.tmps.getD 64 undef = .bool true := hin 64 (by decide) (by decide)
        clear hout hin
        exact relStep_move (.tmp 3) rfl (wanted_some (g := 21) (t := 64) (b := true) rfl rfl h64) (by show fr.tmps.getD 3 undef = _; rw [h3])
      · intro w9 hb9 fr hout hin
        have h8 : fr.tmps.getD 8 undef = .pointer (some ⟨w5.heap.size, 0, none⟩) := hout 8 (by decide)
        have h64 : fr.tmps.getD 64 undef = .bool true := hin 64 (by decide) (by decide)
        clear hout hin
        exact op_load6 (.tmp 8) rfl h8 (HS5.out.keepB (hb9.block w5.heap.size HSZ5.out.2.2)) (wanted_some (g := 21) (t := 64) (b := true) rfl rfl h64) rfl
      · intro w9 hb9 fr hout hin
        have h1 : fr.tmps.getD 1 undef = .pointer (some ⟨w.heap.size, 0, none⟩) := hout 1 (by decide)
        have h64 : fr.tmps.getD 64 undef = .bool true := hin 64 (by decide) (by decide)
        clear hout hin
        exact op_faA (.tmp 1) rfl h1 (wanted_some (g := 21) (t := 64) (b := true) rfl rfl h64) rfl
      · intro w9 hb9 fr hout hin
        have h67 : fr.tmps.getD 67 undef = .pointer (some ⟨w.heap.size, 1, none⟩) := hin 67 (by decide) (by decide)
        have h64 : fr.tmps.getD 64 undef = .bool true := hin 64 (by decide) (by decide)
        clear hout hin
        exact op_load6 (.tmp 67) rfl h67 (HA5.out.keepB (hb9.block w.heap.size HSZ5.out.2.1)) (wanted_some (g := 21) (t := 64) (b := true) rfl rfl h64) rfl
      · intro w9 hb9 fr hout hin
        have h65 : fr.tmps.getD 65 undef = .pointer (some ⟨F, 0, none⟩) := hin 65 (by decide) (by decide)
        have h66 : fr.tmps.getD 66 undef = W6 s0 s1 s2 s3 s4 s5 := hin 66 (by decide) (by decide)
        have h68 : fr.tmps.getD 68 undef = W6 a0 a1 a2 a3 a4 a5 := hin 68 (by decide) (by decide)
        have h64 : fr.tmps.getD 64 undef = .bool true := hin 64 (by decide) (by decide)
        clear hout hin
        exact op_call3 (.tmp 65) (.tmp 66) (.tmp 68) rfl en_fMul (wanted_some (g := 21) (t := 64) (b := true) rfl rfl h64) (by rw [show fr.eval (.tmp 65) = _ from h65, show fr.eval (.tmp 66) = _ from h66, show fr.eval (.tmp 68) = _ from h68]; exact HM.out w9 (HF5.out.below hb9 HF5.out.lt)) (fun _ _ h => h)
      · intro w9 hb9 fr hout hin
        have h64 : fr.tmps.getD 64 undef = .bool true := hin 64 (by decide) (by decide)
        clear hout hin
        exact op_build1 (.const (.int .u64 1)) rfl rfl (wanted_some (g := 21) (t := 64) (b := true) rfl rfl h64) rfl
      · intro w9 hb9 fr hout hin
        have h69 : fr.tmps.getD 69 undef = W6 1 0 0 0 0 0 := hin 69 (by decide) (by decide)
        have h70 : fr.tmps.getD 70 undef = W6 1 0 0 0 0 0 := hin 70 (by decide) (by decide)
        have h64 : fr.tmps.getD 64 undef = .bool true := hin 64 (by decide) (by decide)
        clear hout hin
        exact op_eqN6 (.tmp 69) (.tmp 70) _ rfl h69 h70 (wanted_some (g := 21) (t := 64) (b := true) rfl rfl h64) rfl
      · intro w9 hb9 fr hout hin
        have h64 : fr.tmps.getD 64 undef = .bool true := hin 64 (by decide) (by decide)
        have h71 : fr.tmps.getD 71 undef = .bool true := hin 71 (by decide) (by decide)
        clear hout hin
        exact relStep_pick (.tmp 64) (.tmp 71) (.const (.bool false)) rfl h64 (wanted_none rfl) (by show fr.tmps.getD 71 undef = _; rw [h71])
      · intro w9 hb9 fr hout hin
        have h72 : fr.tmps.getD 72 undef = .bool true := hin 72 (by decide) (by decide)
        clear hout hin
        exact relStep_assign (.tmp 72) rfl (wanted_none rfl) (by show fr.tmps.getD 72 undef = _; rw [h72])
    intro w9 hbn
    refine relAsk_in (by rfl) ?_
    intro v43 h43
    obtain rfl : v43 = .slice A7 n7 c7 := h43
    refine relAsk_in (by rfl) ?_
    intro v44 h44
    obtain rfl : v44 = .int .i64 (n7 : Nat) := h44
    refine relAsk_in (by rfl) ?_
    intro v45 h45
    obtain rfl : v45 = .bool true := h45
    refine relAsk_in (by rfl) ?_
    intro v46 h46
    obtain rfl : v46 = .bool true := h46
    refine relAsk_in (by rfl) ?_
    intro v47 h47
    obtain rfl : v47 = W6 s0 s1 s2 s3 s4 s5 := h47
    refine relAsk_in (by rfl) ?_
    intro v48 h48
    refine relAsk_in (by rfl) ?_
    intro v49 h49
    obtain rfl : v49 = .pointer (some ⟨w1.heap.size, 0, none⟩) := h49
    refine relAsk_in (by rfl) ?_
    intro v50 h50
    obtain rfl : v50 = .slice A1 n1 c1 := h50
    refine relAsk_in (by rfl) ?_
    intro v51 h51
    obtain rfl : v51 = .int .i64 (-1) := h51
    refine relAsk_in (by rfl) ?_
    intro v52 h52
    obtain rfl : v52 = .bool true := h52
    refine relAsk_in (by rfl) ?_
    intro v53 h53
    obtain rfl : v53 = .bool true := h53
    refine relAsk_in (by rfl) ?_
    intro v54 h54
    obtain rfl : v54 = .bool true := h54
    refine relAsk_in (by rfl) ?_
    intro v55 h55
    obtain rfl : v55 = .agg #[.slice A1 n1 c1, .int .i64 (S : Nat)] := h55
    refine relAsk_in (by rfl) ?_
    intro v56 h56
    obtain rfl : v56 = .slice A7 n7 c7 := h56
    refine relAsk_in (by rfl) ?_
    intro v57 h57
    obtain rfl : v57 = W6 s0 s1 s2 s3 s4 s5 := h57
    refine relAsk_in (by rfl) ?_
    intro v58 h58
    refine relAsk_in (by rfl) ?_
    intro v59 h59
    refine relAsk_in (by rfl) ?_
    intro v60 h60
    refine relAsk_in (by rfl) ?_
    intro v61 h61
    obtain rfl : v61 = .int .i64 0 := h61
    refine relAsk_in (by rfl) ?_
    intro v62 h62
    obtain rfl : v62 = .bool true := h62
    refine relAsk_in (by rfl) ?_
    intro v63 h63
    obtain rfl : v63 = .bool true := h63
    refine relAsk_in (by rfl) ?_
    intro v64 h64
    obtain rfl : v64 = .bool true := h64
    refine relAsk_in (by rfl) ?_
    intro v65 h65
    obtain rfl : v65 = .pointer (some ⟨F, 0, none⟩) := h65
    refine relAsk_in (by rfl) ?_
    intro v66 h66
    obtain rfl : v66 = W6 s0 s1 s2 s3 s4 s5 := h66
    refine relAsk_in (by rfl) ?_
    intro v67 h67
    obtain rfl : v67 = .pointer (some ⟨w.heap.size, 1, none⟩) := h67
    refine relAsk_in (by rfl) ?_
    intro v68 h68
    obtain rfl : v68 = W6 a0 a1 a2 a3 a4 a5 := h68
    refine relAsk_in (by rfl) ?_
    intro v69 h69
    obtain rfl : v69 = W6 1 0 0 0 0 0 := h69
    refine relAsk_in (by rfl) ?_
    intro v70 h70
    obtain rfl : v70 = W6 1 0 0 0 0 0 := h70
    refine relAsk_in (by rfl) ?_
    intro v71 h71
    obtain rfl : v71 = .bool true := h71
    refine relAsk_in (by rfl) ?_
    intro v72 h72
    obtain rfl : v72 = .bool true := h72
    refine relAsk_in (by rfl) ?_
    intro v2 h2
    obtain rfl : v2 = .bool true := h2
    refine relAsk_nil ?_
    refine wpList_nil ?_
    have HB9 := Lib.hid (HW5.out.trans (hbn.mono (Nat.le_of_lt HSZ5.out.2.1)))
    clear h48 h58 h59 h60 hbn
    go_simp
    go_wp2_with fail
    go_ret
    exact ⟨rfl, HB9.out⟩
end Go.Proofs.YteaafnjflghlhaaDoor
