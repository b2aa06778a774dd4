/- What the laws of layer 18 ask of code.List. THE ADAPTOR: over the landed code's own contract (CcList). -/
import Derived.Test.YtopeahjdglkheaaDoorCdApi
import Derived.Test.YtopeahjdglkheaaDoorCcList
namespace Go.Proofs.YtopeahjdglkheaaDoor
open Go.RowKit

/-- A row of strings. -/
def SsAt (w : World) (A : Option Addr) (l : List ByteArray) : Prop := ∀ i x, l[i]? = some x → ∃ g, A = some ⟨g, 0, none⟩ ∧ g < w.heap.size ∧ w.cell? ⟨g, 0 + i, none⟩ = some (.string x)
theorem SsAt.below {w w' : World} {A : Option Addr} {l : List ByteArray} (h : SsAt w A l) (hb : Below w.heap.size w w') : SsAt w' A l := fun i x hi => by
  obtain ⟨g, e, hg, hc⟩ := h i x hi
  exact ⟨g, e, Nat.lt_of_lt_of_le hg hb.size, (hb.cell (p := ⟨g, 0 + i, none⟩) hg).trans hc⟩
theorem ownS_at {w : World} {base : Nat} {v : Value} {l : List ByteArray} (h : w.ownsRow base 9 1 v l.length (strC l)) : ∃ A c, v = .slice A l.length c ∧ SsAt w A l := by
  have h0 := h
  rcases h.2 with ⟨e, h1⟩ | ⟨g, cap, cur, rfl, hg, hh, hcap, _⟩
  · refine ⟨none, 0, by rw [e, h1], fun i x hi => ?_⟩
    have := (List.getElem?_eq_some_iff.1 hi).1
    omega
  · refine ⟨some ⟨g, 0, none⟩, cap, rfl, fun i x hi => ⟨g, rfl, (Array.getElem?_eq_some_iff.1 hh).1, ?_⟩⟩
    have h2 := World.ownsRow.cells h0 (g := g) rfl i (.string x) (by simp [strC, hi])
    rw [Addr.add_mid] at h2
    exact h2
/-- What List tells, where nothing more is asked. -/
def ListW (f : Int) (bs : List Nat) (w : World) (e : Ending) (w' : World) : Prop := ∃ A c, e = .returned (.slice A (lst f 0 0 bs).length c) ∧ SsAt w' A (lst f 0 0 bs) ∧ Below w.heap.size w w'
theorem ListR.weak {f : Int} {bs : List Nat} {w : World} {e : Ending} {w' : World} (h : ListR f bs w e w') : ListW f bs w e w' := by
  obtain ⟨v, rfl, ho, hb⟩ := h
  obtain ⟨A, c, rfl, hat⟩ := ownS_at ho
  exact ⟨A, c, rfl, hat, hb⟩
theorem cdList (f : Int) {A : Option Addr} {c : Nat} {bs : List Nat} (w : World) (hP : PowAt w) (h : Rd .u8 w A c bs) (hd : Ds 256 bs) (hl : bs.length ≤ 3000) : Calls Tryd.prog 20 #[.int .i64 f, .slice A bs.length c] w (ListW f bs w) := (plist_c f w hP h hd (by omega)).mono fun _ _ h => h.weak
end Go.Proofs.YtopeahjdglkheaaDoor
