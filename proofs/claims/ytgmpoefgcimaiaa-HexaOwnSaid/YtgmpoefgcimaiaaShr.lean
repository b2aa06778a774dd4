/- The contract of package word's shiftRight: a / 2^n, for n from 0 to 255. -/
import Derived.Test.YtgmpoefgcimaiaaShift
import Derived.Test.YtgmpoefgcimaiaaWordMath
namespace Go.Proofs.Ytgmpoefgcimaiaa
open Go.RowKit

/-- Limbs below m are shifted, those from m on are still 0. -/
def ShrInv (xs : List Nat) (whole s m : Nat) (bs : List Nat) : Prop := (∀ j, m ≤ j → bs.getD j 0 = 0) ∧ ∀ j, j < m → bs.getD j 0 = sxLimb xs whole s j
theorem shr_step {xs bs cs : List Nat} {whole s m : Nat} (h : ShrInv xs whole s m bs) (hne : ∀ j, j ≠ m → cs.getD j 0 = bs.getD j 0) (he : cs.getD m 0 = sxLimb xs whole s m) : ShrInv xs whole s (m + 1) cs := by
  refine ⟨fun j hj => ?_, fun j hj => ?_⟩
  · rw [hne j (by omega)]; exact h.1 j (by omega)
  · by_cases hjm : j = m
    · subst hjm; exact he
    · rw [hne j hjm]; exact h.2 j (by omega)
theorem shr_done {xs bs : List Nat} {whole s m : Nat} (h : ShrInv xs whole s m bs) (hm : 4 ≤ m + whole) (j : Nat) : bs.getD j 0 = sxLimb xs whole s j := by
  by_cases hlt : j < m
  · exact h.2 j hlt
  · rw [h.1 j (by omega)]
    unfold sxLimb
    rw [if_neg (by omega)]
end Go.Proofs.Ytgmpoefgcimaiaa
