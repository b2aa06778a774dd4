/- The text of bytes: the program's and the reference's are the same. -/
import Derived.Test.YtopeahjdglkheaaDoorHText
import Derived.Test.YtopeahjdglkheaaDoorCdList
namespace Go.Proofs.YtopeahjdglkheaaDoor
open Go.RowKit

theorem sOf_list (l : List Nat) : (sOf l).data.toList = l.map UInt8.ofNat := by
  simp [sOf, strOfNums]
theorem hexN_hx : ∀ d : Nat, d < 16 → UInt8.ofNat (hexN d) = hx d := by decide
theorem textL_htext {bs : List Nat} (h : Ds 256 bs) : (sOf (textL bs)).data.toList = htext bs := by
  rw [sOf_list]
  unfold textL htext
  have e : ∀ bs : List Nat, Ds 256 bs → (hexL bs).map UInt8.ofNat = hxs bs := by
    intro bs
    induction bs with
    | nil => intro _; rfl
    | cons b r ih =>
      intro hd
      have hb : b < 256 := hd b List.mem_cons_self
      have ih := ih fun x hx => hd x (List.mem_cons_of_mem _ hx)
      unfold hexL hxs at ih ⊢
      rw [List.flatMap_cons, List.flatMap_cons, List.map_append, ih]
      simp only [List.map_cons, List.map_nil]
      rw [hexN_hx _ (by omega), hexN_hx _ (by omega)]
  rw [List.map_append, e bs h]
  rfl
theorem tx_same {bs : List Nat} (h : Ds 256 bs) : (⟨(htext bs).toArray⟩ : ByteArray) = sOf (textL bs) := by
  apply ByteArray.ext
  apply Array.toList_inj.1
  rw [textL_htext h]
end Go.Proofs.YtopeahjdglkheaaDoor
