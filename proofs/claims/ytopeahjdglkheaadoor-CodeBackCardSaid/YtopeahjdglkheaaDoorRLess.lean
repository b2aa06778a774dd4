/- The contracts of package quarryref02's less and back. -/
import Derived.Test.YtopeahjdglkheaaDoorRAdd
import Derived.Test.YtopeahjdglkheaaDoorDig
namespace Go.Proofs.YtopeahjdglkheaaDoor
open Go.RowKit

/-- What less tells and leaves: q times ys is taken away from place i on; b says whether that was too much. -/
def RetLess (g : Nat) (zs ys : List Nat) (i q : Nat) (w : World) (e : Ending) (w' : World) : Prop :=
  ∃ (b : Nat) (xs : List Nat), e = .returned (.bool ((b : Int) == 1)) ∧ b ≤ 1 ∧ xs.length = zs.length ∧ Ds 4294967296 xs ∧ dv 4294967296 xs + 4294967296 ^ i * (q * dv 4294967296 ys) = dv 4294967296 zs + 4294967296 ^ (i + ys.length + 1) * b ∧
    (∀ j, i + ys.length + 1 ≤ j → xs.getD j 0 = zs.getD j 0) ∧ Row .u32 w' g 118 xs ∧ Tch g w w'

theorem and32 (m : Nat) (h : m < 18446744073709551616) : bits .and .u64 (m : Int) 4294967295 = ((m % 4294967296 : Nat) : Int) := by
  have := u64_and_nat m 4294967295 h (by omega)
  rw [show m &&& 4294967295 = m % 4294967296 from Nat.and_two_pow_sub_one_eq_mod m 32] at this
  exact this
theorem qmul_lt {q y c : Nat} (hq : q < 4294967296) (hy : y < 4294967296) (hc : c < 4294967296) : c + q * y < 18446744073709551616 := by
  have : q * y ≤ 4294967295 * 4294967295 := Nat.mul_le_mul (by omega) (by omega)
  omega

/-- What back leaves: ys is given back from place i on; c is carried out of it. -/
def RetBack (g : Nat) (zs ys : List Nat) (i : Nat) (w : World) (e : Ending) (w' : World) : Prop :=
  ∃ (c : Nat) (xs : List Nat), e = .returned (.tuple #[]) ∧ xs.length = zs.length ∧ Ds 4294967296 xs ∧ dv 4294967296 xs + 4294967296 ^ (i + ys.length + 1) * c = dv 4294967296 zs + 4294967296 ^ i * dv 4294967296 ys ∧
    (∀ j, i + ys.length + 1 ≤ j → xs.getD j 0 = zs.getD j 0) ∧ Row .u32 w' g 118 xs ∧ Tch g w w'

end Go.Proofs.YtopeahjdglkheaaDoor
