/- The contract of package nat's Add. -/
import Derived.Test.YteaafnjflghlhaaDoorNStrip
import Derived.Test.YteaafnjflghlhaaDoorRAdd
namespace Go.Proofs.YteaafnjflghlhaaDoor
open Go.RowKit

theorem rev_set (zs : List Nat) (p v : Nat) (h : p < zs.length) : (zs.set p v).reverse = zs.reverse.set (zs.length - 1 - p) v := by
  refine List.ext_getElem (by simp) fun i h1 h2 => ?_
  simp at h1 h2
  rw [List.getElem_reverse, List.getElem_set, List.getElem_set, List.getElem_reverse]
  by_cases e : p = zs.length - 1 - i
  · rw [if_pos (by simp; omega), if_pos (by omega)]
  · rw [if_neg (by simp; omega), if_neg (by omega)]
    simp
end Go.Proofs.YteaafnjflghlhaaDoor
