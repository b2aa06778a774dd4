/- The mathematics of ForkRises: later blocks never have earlier forks, and operations stay. -/
import Derived.Test.YtijoafmbmplgcaaDoorLawForkAt
namespace Go.Proofs.YtijoafmbmplgcaaDoor
open Go.RowKit

theorem comeB_mono {a b c : Nat} (h : b ≤ c) (hc : comeB a b = true) : comeB a c = true := by
  unfold comeB at hc ⊢
  simp only [decide_eq_true_eq] at hc ⊢
  exact ⟨hc.1, by omega⟩
theorem lastCome_mono {bl : List Nat} {n m : Nat} (h : n ≤ m) : ∀ k, lastCome bl n k ≤ lastCome bl m k
  | 0 => Nat.le_refl _
  | k + 1 => by
    unfold lastCome
    by_cases h1 : comeB (bl.getD k 0) n = true
    · rw [if_pos h1, if_pos (comeB_mono h h1)]; exact Nat.le_refl _
    · rw [if_neg h1]
      split
      · have := lastCome_le bl n k; omega
      · exact lastCome_mono h k
theorem atF_mono {bl : List Nat} {t0 t1 n m t u : Nat} (h : n ≤ m) (h2 : t ≤ u) : atF bl t0 t1 n t ≤ atF bl t0 t1 m u := by
  have h3 := lastCome_mono (bl := bl) h 14
  have h4 := lastCome_le bl m 14
  have key : ∀ (f : Nat) (b c : Bool), f ≤ 13 → (let g := if f = 13 ∧ b = true then 14 else f; if 13 ≤ g ∧ c = true then 15 else g) = if f = 13 then (if c = true then 15 else if b = true then 14 else 13) else f := by
    intro f b c hf
    by_cases h : f = 13
    · subst h; cases b <;> cases c <;> rfl
    · simp only [h, false_and, if_false]
      rw [if_neg (by omega)]
  unfold atF
  rw [key _ _ _ (Nat.le_trans h3 h4), key _ _ _ h4]
  have c0 := fun x => comeB_mono (a := t0) h2 x
  have c1 := fun x => comeB_mono (a := t1) h2 x
  generalize lastCome bl n 14 = f at *
  generalize lastCome bl m 14 = f' at *
  by_cases hf : f = 13
  · have hf' : f' = 13 := by omega
    rw [if_pos hf, if_pos hf']
    generalize comeB t0 t = b0 at *
    generalize comeB t1 t = b1 at *
    generalize comeB t0 u = b2 at *
    generalize comeB t1 u = b3 at *
    clear key h3 h4 hf hf' h h2
    revert c0 c1
    cases b0 <;> cases b1 <;> cases b2 <;> cases b3 <;> decide
  · rw [if_neg hf]
    split
    · split
      · omega
      · split <;> omega
    · exact h3
theorem opZ_mono {k m op : Int} (h : k ≤ m) (hm : m ≤ 15) (ho : opZ k op = true) : opZ m op = true := by
  unfold opZ at ho ⊢
  simp only [decide_eq_true_eq] at ho ⊢
  exact ⟨by omega, hm, by omega⟩
theorem opZ_far (op : Int) : opZ 16 op = false ∧ opZ (-1) op = false := ⟨opZ_none (by omega), opZ_none (by omega)⟩
end Go.Proofs.YtijoafmbmplgcaaDoor
