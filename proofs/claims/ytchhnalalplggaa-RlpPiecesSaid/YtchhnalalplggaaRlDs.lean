/- The form of an item is bytes. -/
import Derived.Test.YtchhnalalplggaaRlWakes
namespace Go.Proofs.Ytchhnalalplggaa
open Go.RowKit

theorem lastB_ds (n k : Nat) : Ds 256 (lastB n k) := fun x hx => by
  unfold lastB at hx
  simp only [List.mem_map] at hx
  obtain ⟨i, _, rfl⟩ := hx
  exact Nat.mod_lt _ (by omega)
theorem hdB_ds {base n : Nat} (hb : base ≤ 192) (h : n ≤ 1099511627776) : Ds 256 (hdB base n) := by
  have := lsz_le h
  unfold hdB
  split
  · exact Ds.mk (by omega) Ds.nil
  · exact Ds.mk (by omega) (lastB_ds _ _)
theorem formL_ds : ∀ {xs : List Itm}, (∀ (j : Nat) (x : Itm), xs[j]? = some x → Ds 256 (form x)) → Ds 256 (formL xs)
  | [], _ => by rw [formL]; exact Ds.nil
  | x :: xs, h => by rw [formL]; exact (h 0 x rfl).append (formL_ds fun j y hj => h (j + 1) y (by simpa using hj))
theorem IAt.form_ds {S : Nat → Prop} {w : World} {v : Value} {x : Itm} (h : IAt S w v x) : fsz x ≤ 1099511627776 → Ds 256 (form x) := by
  induction h with
  | mk l A c B cap b off u bs xs hA hd hAb hB hc hn hu hx ih =>
    intro hs
    rw [fsz] at hs
    rw [form]
    by_cases hl : l = true
    · rw [if_pos hl] at hs ⊢
      exact (hdB_ds (by omega) (by omega)).append (formL_ds fun j x hj => ih j x hj (by have := fsz_le hj; omega))
    · rw [if_neg hl] at hs ⊢
      unfold formT
      split
      · exact hd
      · unfold tsz at hs
        rename_i hb
        rw [if_neg hb] at hs
        exact (hdB_ds (by omega) (by omega)).append hd
end Go.Proofs.Ytchhnalalplggaa
