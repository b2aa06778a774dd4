/- The contracts of package nat's multiply and Mul. -/
import Derived.Test.YteaafnjflghlhaaDoorNTimes
import Derived.Test.YteaafnjflghlhaaDoorNLimbs
import Derived.Test.YteaafnjflghlhaaDoorNBytes
import Derived.Lib.SliceRun
namespace Go.Proofs.YteaafnjflghlhaaDoor
open Go.RowKit

theorem tch_setCells (g : Nat) : ∀ (vs : List Value) (o : Nat) (w : World), Tch g w (w.setCells g o vs)
  | [], _, w => Tch.refl g w
  | v :: r, o, w => (Tch.put g o w v).trans (tch_setCells g r (o + 1) _)
theorem row_clear {k : IntKind} {g : Nat} {t : TypeId} : ∀ (n o : Nat) (w : World) (xs : List Nat), Row k w g t xs → ∃ zs, Row k (w.setCells g o (List.replicate n (.int k 0))) g t zs ∧ zs.length = xs.length ∧ ∀ j, zs.getD j 0 = if o ≤ j ∧ j < o + n then 0 else xs.getD j 0
  | 0, o, w, xs, h => ⟨xs, h, rfl, fun j => by rw [if_neg (by omega)]⟩
  | n + 1, o, w, xs, h => by
    obtain ⟨zs, h1, h2, h3⟩ := row_clear n (o + 1) _ _ (h.set o 0)
    refine ⟨zs, h1, by rw [h2, List.length_set], fun j => ?_⟩
    rw [h3]
    by_cases e : o = j
    · subst e
      rw [if_neg (by omega), if_pos (by omega)]
      by_cases hl : o < xs.length
      · exact getD_set_self hl
      · rw [List.getD_eq_getElem?_getD, List.getElem?_eq_none (by rw [List.length_set]; omega)]; rfl
    · rw [getD_set_ne e]
      by_cases hj : o + 1 ≤ j ∧ j < o + 1 + n
      · rw [if_pos hj, if_pos (by omega)]
      · rw [if_neg hj, if_neg (by omega)]
theorem row_cleared {k : IntKind} {g : Nat} {t : TypeId} (w : World) (xs : List Nat) (h : Row k w g t xs) : Row k (w.setCells g 0 (List.replicate xs.length (.int k 0))) g t (List.replicate xs.length 0) := by
  obtain ⟨zs, h1, h2, h3⟩ := row_clear xs.length 0 w xs h
  have e : zs = List.replicate xs.length 0 := by
    refine List.ext_getElem (by rw [h2, List.length_replicate]) fun i a b => ?_
    have := h3 i
    rw [if_pos (by omega), List.getD_eq_getElem?_getD, List.getElem?_eq_getElem a] at this
    simpa using this
  rw [← e]; exact h1
theorem zero64 (w : World) : (zeroValue 22).run Tryd.prog w = .ok (.int .u64 0) w := by kernel_rfl
theorem clear64 (w : World) {g : Nat} {t : TypeId} {xs : List Nat} (h : Row .u64 w g t xs) (c : Nat) (ty : TypeId) :
    (Builtin.clear_ #[82] ty #[.slice (some ⟨g, 0, none⟩) xs.length c]).run Tryd.prog w = .ok (.tuple #[]) (w.setCells g 0 (List.replicate xs.length (.int .u64 0))) := by
  rcases Nat.eq_zero_or_pos xs.length with h0 | h0
  · rw [h0]
    simp [Builtin.clear_, run_underlying Tryd.underlying82, World.setCells]
  · exact Lib.run_clear_slice w 82 22 ty (.int .u64 0) Tryd.underlying82 zero64 rfl rfl g 0 xs.length c h0 (fun j hj => by rw [Nat.zero_add, h.cell j hj]; rfl) (fun j _ => h.frozen _)

/-- What multiply leaves: block G holds the number n, in K limbs; nothing else has changed. -/
def RetIn (n K G : Nat) (t : TypeId) (w : World) (e : Ending) (w' : World) : Prop := ∃ zs, e = .returned (.tuple #[]) ∧ Row .u64 w' G t zs ∧ Ds 18446744073709551616 zs ∧ dv 18446744073709551616 zs = n ∧ zs.length = K ∧ Tch G w w'

end Go.Proofs.YteaafnjflghlhaaDoor
