/- The contract of package word's product: the whole product of two words, in eight limbs. -/
import Derived.Test.YtgmpoefgcimaiaaWordLeaf
import Derived.Test.YtgmpoefgcimaiaaWordMath
namespace Go.Proofs.Ytgmpoefgcimaiaa
open Go.RowKit

def Tail0 (m : Nat) (cs : List Nat) : Prop := ∀ j, m ≤ j → cs.getD j 0 = 0
theorem Tail0.set {m j v : Nat} {cs : List Nat} (h : Tail0 m cs) (hj : j < m) : Tail0 m (cs.set j v) := fun i hi => by
  rw [List.getD_eq_getElem?_getD, List.getElem?_set_ne (by omega), ← List.getD_eq_getElem?_getD]; exact h i hi
theorem prod_end {xs ys cs : List Nat} {i carry : Nat} (H : MulIn 8 xs ys i (i + 4) carry cs) (hx : i < xs.length) (hy : ys.length = 4) (hc : i + 4 < cs.length) (h0 : Tail0 (i + 4) cs) : MulOut 8 xs ys (i + 1) (cs.set (i + 4) carry) := by
  obtain ⟨q, H⟩ := H
  refine ⟨q, ?_⟩
  have e := val_set cs (i + 4) carry hc
  rw [h0 (i + 4) (Nat.le_refl _), Nat.mul_zero, Nat.add_zero] at e
  rw [e, val_take_succ xs i hx, Nat.add_mul, H, show i + 4 - i = ys.length by omega, List.take_length, Nat.mul_assoc]

/-- Eight limbs, the number n. -/
def RetL (n : Nat) (w : World) (e : Ending) (w' : World) : Prop := ∃ c0 c1 c2 c3 c4 c5 c6 c7 : Nat, e = .returned (L8 c0 c1 c2 c3 c4 c5 c6 c7) ∧ Lims [c0, c1, c2, c3, c4, c5, c6, c7] ∧ vl [c0, c1, c2, c3, c4, c5, c6, c7] = n ∧ Below w.heap.size w w'

end Go.Proofs.Ytgmpoefgcimaiaa
