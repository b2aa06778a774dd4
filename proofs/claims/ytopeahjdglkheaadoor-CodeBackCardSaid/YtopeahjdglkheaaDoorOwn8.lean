/- Slices of bytes that have their cells, spare room too. -/
import Derived.Test.YtopeahjdglkheaaDoorRTrim
namespace Go.Proofs.YtopeahjdglkheaaDoor
open Go.RowKit

/-- The slice v of bytes has its cells, spare room too, and reads as bs. -/
def AccO (w : World) (v : Value) (bs : List Nat) : Prop :=
  Ds 256 bs ∧ ((v = .slice none 0 0 ∧ bs = []) ∨
  ∃ g o cap, v = .slice (some ⟨g, o, none⟩) bs.length cap ∧ bs.length ≤ cap ∧ cap ≤ maxLen ∧ g < w.heap.size ∧
    (∀ j, j < cap → (w.cell? ⟨g, o + j, none⟩).isSome = true ∧ w.frozen? ⟨g, o + j, none⟩ = false) ∧
    ∀ j, j < bs.length → w.cell? ⟨g, o + j, none⟩ = some (.int .u8 (bs.getD j 0 : Nat)))

section
variable {w w' : World} {base n c g o : Nat} {A : Option Addr} {v : Value} {bs : List Nat}
theorem AccO.nil (w : World) : AccO w (.slice none 0 0) [] := ⟨Ds.nil, .inl ⟨rfl, rfl⟩⟩
theorem AccO.of (h : Acc w base v bs) (hd : Ds 256 bs) : AccO w v bs := by
  refine ⟨hd, ?_⟩
  rcases h.2 with ⟨e, h0⟩ | ⟨g, cap, cur, e, hb, hh, hc, hm, hs, ht⟩
  · exact .inl ⟨e, List.eq_nil_of_length_eq_zero h0⟩
  · refine .inr ⟨g, 0, cap, e, hc, hm, (Array.getElem?_eq_some_iff.1 hh).1, fun j hj => ⟨?_, frozen_of_row _ _ _ _ _ hh⟩, fun j hj => ?_⟩
    · rw [Nat.zero_add, cell_of_row w g j cur _ (0, 0) hh, Array.getElem?_eq_getElem (by omega)]; rfl
    · rw [Nat.zero_add, cell_of_row w g j cur _ (0, 0) hh, ← Array.getElem?_toList, ← bv_get bs j hj, ← ht, List.getElem?_take, if_pos (by omega)]
theorem AccO.form (h : AccO w v bs) : ∃ A c, v = .slice A bs.length c := by
  rcases h.2 with ⟨e, rfl⟩ | ⟨g, o, cap, e, _⟩
  · exact ⟨none, 0, e⟩
  · exact ⟨_, _, e⟩
theorem AccO.rd (h : AccO w (.slice A n c) bs) : Rd .u8 w A c bs := by
  rcases h.2 with ⟨e, rfl⟩ | ⟨g, o, cap, e, h1, h2, h3, h4, h5⟩
  · injection e with e1 e2 e3; subst e1 e3; exact Rd.nil _
  · injection e with e1 e2 e3; subst e1 e3
    exact ⟨h1, (fun h => by cases h), fun _ => ⟨g, o, rfl, h3, h5⟩⟩
theorem AccO.lt (h : AccO w v bs) : ∀ k, v.ownBlock = some k → k < w.heap.size := fun k hk => by
  rcases h.2 with ⟨e, rfl⟩ | ⟨g, o, cap, e, h1, h2, h3, h4, h5⟩
  · rw [e] at hk; cases hk
  · rw [e] at hk; injection hk with hk; subst hk; exact h3
theorem AccO.move (h : AccO w v bs) (hs : w.heap.size ≤ w'.heap.size) (hk : ∀ k, v.ownBlock = some k → w'.heap[k]? = w.heap[k]?) : AccO w' v bs := by
  refine ⟨h.1, ?_⟩
  rcases h.2 with h1 | ⟨g, o, cap, e, h1, h2, h3, h4, h5⟩
  · exact .inl h1
  · have hb := hk g (by rw [e]; rfl)
    refine .inr ⟨g, o, cap, e, h1, h2, by omega, fun j hj => ?_, fun j hj => ?_⟩
    · rw [World.cell?_of_block (w := w) (a := ⟨g, o + j, none⟩) hb, World.frozen?_of_block (w := w) (a := ⟨g, o + j, none⟩) hb]; exact h4 j hj
    · rw [World.cell?_of_block (w := w) (a := ⟨g, o + j, none⟩) hb]; exact h5 j hj
theorem AccO.below (h : AccO w v bs) (hb : Below w.heap.size w w') : AccO w' v bs := h.move hb.size fun k hk => hb.block k (h.lt k hk)
end
theorem AccO.byt {w : World} {v : Value} {bs : List Nat} (h : AccO w v bs) : Byt w v bs := by
  obtain ⟨A, c, rfl⟩ := h.form
  exact ⟨A, c, rfl, h.rd, h.1⟩
theorem AccO.len {w : World} {A : Option Addr} {n c : Nat} {bs : List Nat} (h : AccO w (.slice A n c) bs) : n = bs.length := by
  obtain ⟨A', c', e⟩ := h.form
  injection e
/-- .. in blocks from B on. -/
def OwnB (B : Nat) (w : World) (v : Value) (bs : List Nat) : Prop := AccO w v bs ∧ ∀ k, v.ownBlock = some k → B ≤ k
theorem OwnB.byt {B : Nat} {w : World} {v : Value} {bs : List Nat} (h : OwnB B w v bs) : Byt w v bs := h.1.byt
theorem OwnB.below {B : Nat} {w w' : World} {v : Value} {bs : List Nat} (h : OwnB B w v bs) (hb : Below w.heap.size w w') : OwnB B w' v bs := ⟨h.1.below hb, h.2⟩
theorem OwnB.mono {B B' : Nat} {w : World} {v : Value} {bs : List Nat} (h : OwnB B w v bs) (hb : B' ≤ B) : OwnB B' w v bs := ⟨h.1, fun k hk => Nat.le_trans hb (h.2 k hk)⟩
theorem OwnB.nil (B : Nat) (w : World) : OwnB B w (.slice none 0 0) [] := ⟨AccO.nil w, fun k h => by cases h⟩
theorem OwnB.of {B : Nat} {w : World} {v : Value} {bs : List Nat} (h : Acc w B v bs) (hd : Ds 256 bs) : OwnB B w v bs := ⟨AccO.of h hd, h.own⟩
/-- (A, c) lies within (A0, c0). -/
def Subs (A0 : Option Addr) (c0 : Nat) (A : Option Addr) (c : Nat) : Prop := (A = A0 ∧ c ≤ c0) ∨ ∃ g o k, A0 = some ⟨g, o, none⟩ ∧ A = some ⟨g, o + k, none⟩ ∧ k + c ≤ c0
theorem Subs.refl (A0 : Option Addr) (c0 : Nat) : Subs A0 c0 A0 c0 := .inl ⟨rfl, Nat.le_refl _⟩
theorem Subs.less {A0 A : Option Addr} {c0 c d : Nat} (h : Subs A0 c0 A c) (hd : d ≤ c) : Subs A0 c0 A d := by
  rcases h with ⟨e, h⟩ | ⟨g, o, k, e1, e2, h⟩
  · exact .inl ⟨e, by omega⟩
  · exact .inr ⟨g, o, k, e1, e2, by omega⟩
theorem Subs.next {A0 : Option Addr} {c0 c b o : Nat} (h : Subs A0 c0 (some ⟨b, o, none⟩) c) (hc : 1 ≤ c) : Subs A0 c0 (some ⟨b, o + 1, none⟩) (c - 1) := by
  rcases h with ⟨e, h⟩ | ⟨g, o', k, e1, e2, h⟩
  · exact .inr ⟨b, o, 1, e.symm, rfl, by omega⟩
  · injection e2 with e2
    injection e2 with e2 e3
    subst e2 e3
    exact .inr ⟨b, o', k + 1, e1, rfl, by omega⟩
/-- A piece of a block that is known whole. -/
theorem sub_own {w : World} {g : Nat} {zs xs : List Nat} {A : Option Addr} {c : Nat} (hrow : Row .u8 w g 5 zs) (hl : zs.length ≤ 67108864) (hs : Subs (some ⟨g, 0, none⟩) zs.length A c) (hr : Rd .u8 w A c xs) (hd : Ds 256 xs) : OwnB g w (.slice A xs.length c) xs := by
  obtain ⟨o, rfl, hoc⟩ : ∃ o, A = some ⟨g, o, none⟩ ∧ o + c ≤ zs.length := by
    rcases hs with ⟨e, h⟩ | ⟨g', o', k, e1, e2, h⟩
    · exact ⟨0, e, by omega⟩
    · injection e1 with e1
      injection e1 with e1 e3
      subst e1 e3
      exact ⟨k, by rw [e2, Nat.zero_add], h⟩
  refine ⟨⟨hd, .inr ⟨g, o, c, rfl, hr.le, by unfold maxLen; omega, hrow.lt, fun j hj => ⟨?_, hrow.frozen _⟩, fun j hj => ?_⟩⟩, fun k hk => by injection hk with hk; exact Nat.le_of_eq hk⟩
  · rw [hrow.cell (o + j) (by omega)]; rfl
  · obtain ⟨b, o', e, _, hc⟩ := hr.at_ (by omega)
    injection e with e
    injection e with e1 e2
    subst e1 e2
    exact hc j hj
end Go.Proofs.YtopeahjdglkheaaDoor
