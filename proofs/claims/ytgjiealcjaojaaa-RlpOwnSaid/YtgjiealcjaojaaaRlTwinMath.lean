/- The laws' Twin of an item, as mathematics: what is copied, how many parts are left. -/
import Derived.Test.YtgjiealcjaojaaaRlSame
import Derived.Test.YtgjiealcjaojaaaRlMath
namespace Go.Proofs.Ytgjiealcjaojaaa
open Go.RowKit

/-- The items of a list, one behind the other, while parts are left. -/
def twL (f : Itm → Nat → Itm × Nat) : List Itm → Nat → List Itm × Nat
  | [], n => ([], n)
  | x :: xs, n => if n = 0 then ([], 0) else ((f x n).1 :: (twL f xs (f x n).2).1, (twL f xs (f x n).2).2)
/-- An item, no deeper than so many lists, of no more than so many parts; and what is left of these. -/
def twI : Nat → Itm → Nat → Itm × Nat
  | 0, .mk l bs _, n => (.mk l (bs.take 400) [], n - 1)
  | d + 1, .mk l bs xs, n => if l = true then (.mk l (bs.take 400) (twL (twI d) xs (n - 1)).1, (twL (twI d) xs (n - 1)).2) else (.mk l (bs.take 400) [], n - 1)

theorem tsz_le {bs : List Nat} (h : bs.length ≤ 400) : tsz bs ≤ 407 := by
  unfold tsz
  have := hsz_le (n := bs.length) (by omega)
  split <;> omega
theorem hsz_le7 {n : Nat} (h : n ≤ 1099511627776) : hsz n ≤ 7 := hsz_le h
theorem take_le (bs : List Nat) : (bs.take 400).length ≤ 400 := by rw [List.length_take]; omega
theorem twL_sz (f : Itm → Nat → Itm × Nat) (M : Nat) (hf : ∀ x n, 0 < n → n ≤ M → fsz (f x n).1 + 409 * (f x n).2 ≤ 409 * n ∧ isz (f x n).1 + (f x n).2 ≤ n ∧ (f x n).2 ≤ n) : ∀ xs n, n ≤ M → psz (twL f xs n).1 + 409 * (twL f xs n).2 ≤ 409 * n ∧ iszL (twL f xs n).1 + (twL f xs n).2 ≤ n ∧ (twL f xs n).2 ≤ n
  | [], n, _ => by simp [twL, psz, iszL]
  | x :: xs, n, hn => by
    unfold twL
    split
    · simp [psz, iszL]
    · rename_i h0
      have h1 := hf x n (by omega) hn
      have h2 := twL_sz f M hf xs (f x n).2 (by omega)
      simp only [psz, iszL]
      omega
theorem twI_sz : ∀ (d : Nat) (x : Itm) (n : Nat), 0 < n → n ≤ 1000000 → fsz (twI d x n).1 + 409 * (twI d x n).2 ≤ 409 * n ∧ isz (twI d x n).1 + (twI d x n).2 ≤ n ∧ (twI d x n).2 ≤ n
  | 0, .mk l bs xs, n, h0, hn => by
    have h1 := tsz_le (take_le bs)
    have h2 : hsz 0 = 1 := rfl
    rw [twI]
    dsimp only
    rw [fsz, isz]
    simp only [psz, iszL, h2]
    split <;> omega
  | d + 1, .mk l bs xs, n, h0, hn => by
    have h1 := tsz_le (take_le bs)
    rw [twI]
    split
    · rename_i hl
      have h2 := twL_sz (twI d) 1000000 (fun x n => twI_sz d x n) xs (n - 1) (by omega)
      dsimp only
      have h3 := hsz_le (n := psz (twL (twI d) xs (n - 1)).1) (by omega)
      rw [fsz, isz, if_pos hl]
      omega
    · rename_i hl
      dsimp only
      rw [fsz, isz, if_neg hl]
      simp only [iszL]
      omega
theorem twL_ok (f : Itm → Nat → Itm × Nat) (m : Nat) (hf : ∀ x n, okN (f x n).1 m = true) : ∀ xs n, okL (twL f xs n).1 m = true
  | [], n => by simp [twL, okL]
  | x :: xs, n => by
    unfold twL
    split
    · simp [okL]
    · simp only [okL, hf, twL_ok f m hf xs, Bool.and_true]
theorem okN_list (xs : List Itm) (bs : List Nat) (n : Nat) : okN (.mk true bs xs) (n + 1) = okL xs n := by rw [okN.eq_def]; rfl
theorem okN_text (xs : List Itm) (bs : List Nat) (n : Nat) : okN (.mk false bs xs) n = true := by rw [okN.eq_def]; rfl
theorem twI_ok : ∀ (d m : Nat) (x : Itm) (n : Nat), okN (twI d x n).1 (d + 1 + m) = true
  | 0, m, .mk l bs xs, n => by
    rw [twI]
    cases l with
    | true => rw [show 0 + 1 + m = m + 1 by omega, okN_list]; simp [okL]
    | false => exact okN_text _ _ _
  | d + 1, m, .mk l bs xs, n => by
    rw [twI]
    cases l with
    | true =>
      rw [if_pos rfl, show d + 1 + 1 + m = (d + 1 + m) + 1 by omega, okN_list]
      exact twL_ok (twI d) (d + 1 + m) (fun x n => twI_ok d m x n) xs (n - 1)
    | false => rw [if_neg (by simp)]; exact okN_text _ _ _
/-- Items one more, of a list. -/
theorem twL_snoc (f : Itm → Nat → Itm × Nat) : ∀ (i : Nat) (xs : List Itm) (n : Nat) (x : Itm), xs[i]? = some x → (twL f (xs.take i) n).2 ≠ 0 →
    twL f (xs.take (i + 1)) n = ((twL f (xs.take i) n).1 ++ [(f x (twL f (xs.take i) n).2).1], (f x (twL f (xs.take i) n).2).2)
  | i, [], n, x, h, _ => by simp at h
  | 0, y :: ys, n, x, h, h0 => by
    simp only [List.getElem?_cons_zero, Option.some.injEq] at h
    subst h
    simp only [List.take_zero, twL] at h0
    simp [twL, h0]
  | i + 1, y :: ys, n, x, h, h0 => by
    simp only [List.getElem?_cons_succ] at h
    simp only [List.take_succ_cons] at h0 ⊢
    by_cases hn : n = 0
    · subst hn; simp [twL] at h0
    · unfold twL at h0 ⊢
      rw [if_neg hn] at h0 ⊢
      simp only [if_neg hn] at h0 ⊢
      have h1 := twL_snoc f i ys (f y n).2 x h h0
      rw [h1]
      rfl
theorem twL_stop (f : Itm → Nat → Itm × Nat) : ∀ (i : Nat) (xs : List Itm) (n : Nat), (twL f (xs.take i) n).2 = 0 → twL f xs n = twL f (xs.take i) n
  | i, [], n, _ => by simp
  | 0, y :: ys, n, h => by
    simp only [List.take_zero, twL] at h
    subst h
    simp [twL]
  | i + 1, y :: ys, n, h => by
    simp only [List.take_succ_cons] at h ⊢
    unfold twL at h ⊢
    split
    · rfl
    · rename_i hn
      rw [if_neg hn] at h
      rw [twL_stop f i ys (f y n).2 h]
theorem twL_len (f : Itm → Nat → Itm × Nat) : ∀ (xs : List Itm) (n : Nat), (twL f xs n).1.length ≤ xs.length
  | [], n => by simp [twL]
  | x :: xs, n => by
    unfold twL
    split
    · simp
    · have := twL_len f xs (f x n).2
      simp only [List.length_cons]; omega
end Go.Proofs.Ytgjiealcjaojaaa
