/- Names in whatever case: what Named says of them hangs on the text without capitals alone. -/
import Derived.Test.YtijoafmbmplgcaaDoorFkNamed
namespace Go.Proofs.YtijoafmbmplgcaaDoor
open Go.RowKit

theorem namedAt_low {s t : ByteArray} (h : lowS s = lowS t) : ∀ (l : List ByteArray) (i : Nat), namedAt s l i = namedAt t l i
  | [], _ => rfl
  | x :: r, i => by
    unfold namedAt
    rw [h, namedAt_low h r (i + 1)]
theorem namedZ_low {s t : ByteArray} (h : lowS s = lowS t) : namedZ s = namedZ t := namedAt_low h _ _
theorem named_names : ∀ k, k < 16 → namedZ (forkNames.getD k .empty) = some k := by decide +kernel
theorem named_empty : namedZ .empty = none := by decide +kernel
theorem sOf_bytes {xs : List Nat} (h : Ds 256 xs) : bytesN (sOf xs) = xs := by
  unfold bytesN sOf
  rw [strOfNums_data, List.map_map, List.map_map]
  refine List.ext_getElem (by simp) fun j h1 h2 => ?_
  have h3 : xs[j] < 256 := h _ (List.getElem_mem h2)
  simp only [List.getElem_map, Function.comp]
  rw [Int.toNat_natCast, UInt8.toNat_ofNat']
  exact Nat.mod_eq_of_lt h3
theorem lowS_sOf {xs : List Nat} (h : Ds 256 xs) : lowS (sOf xs) = sOf (xs.map lowB) := by
  unfold lowS
  rw [sOf_bytes h]
theorem lowB_turn {x y : Nat} (h1 : 97 ≤ x) (h2 : x ≤ 122) (hy : y + 32 = x) : lowB y = lowB x := by
  unfold lowB
  rw [if_pos (by omega), if_neg (by omega)]; exact hy
theorem map_low {xs ys : List Nat} (hl : xs.length = ys.length) (h : ∀ j, j < xs.length → lowB (xs.getD j 0) = lowB (ys.getD j 0)) : xs.map lowB = ys.map lowB := by
  refine List.ext_getElem (by simp [hl]) fun j h1 h2 => ?_
  rw [List.length_map] at h1 h2
  have h3 := h j h1
  rw [List.getD_eq_getElem?_getD, List.getElem?_eq_getElem h1, List.getD_eq_getElem?_getD, List.getElem?_eq_getElem h2] at h3
  rw [List.getElem_map, List.getElem_map]
  exact h3
end Go.Proofs.YtijoafmbmplgcaaDoor
