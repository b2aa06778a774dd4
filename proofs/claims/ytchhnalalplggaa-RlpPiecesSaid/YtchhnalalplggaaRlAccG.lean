/- A slice of items that a call owns, the items in blocks of which a predicate speaks. -/
import Derived.Test.YtchhnalalplggaaRlPlain
namespace Go.Proofs.Ytchhnalalplggaa
open Go.RowKit

def AccG (P : Nat → Prop) (w : World) (base : Nat) (v : Value) (us : List Value) (xs : List Itm) : Prop :=
  w.ownsRow base 25 3 v xs.length us ∧ ∀ (j : Nat) (x : Itm), xs[j]? = some x → IAt (fun b => P b ∧ v.ownBlock ≠ some b) w (.agg #[us.getD (3 * j) undef, us.getD (3 * j + 1) undef, us.getD (3 * j + 2) undef]) x
theorem AccG.nil (P : Nat → Prop) (w : World) (base : Nat) : AccG P w base (.slice none 0 0) [] [] := ⟨World.ownsRow_nil _ _ _ _, fun j x h => by simp at h⟩
theorem AccG.form {P : Nat → Prop} {w : World} {base : Nat} {v : Value} {us : List Value} {xs : List Itm} (h : AccG P w base v us xs) : ∃ A c, v = .slice A xs.length c := by
  rcases h.1.2 with ⟨e, h0⟩ | ⟨g, cap, cur, e, _⟩
  · exact ⟨none, 0, by rw [e, h0]⟩
  · exact ⟨_, _, e⟩
theorem AccG.own {P : Nat → Prop} {w : World} {base : Nat} {v : Value} {us : List Value} {xs : List Itm} (h : AccG P w base v us xs) : ∀ k, v.ownBlock = some k → base ≤ k ∧ k < w.heap.size := fun k hk => h.1.lt k hk
/-- The block that it owns holds items. -/
theorem AccG.is {P : Nat → Prop} {w : World} {base : Nat} {v : Value} {us : List Value} {xs : List Itm} (h : AccG P w base v us xs) {k : Nat} (hk : v.ownBlock = some k) : ∃ c, w.heap[k]? = some (.cells c 25 (0, 0)) := by
  rcases h.1.2 with ⟨e, h0⟩ | ⟨g, cap, cur, e, hb, hg, _⟩
  · rw [e] at hk; simp [Value.ownBlock] at hk
  · rw [e] at hk
    simp [Value.ownBlock] at hk
    subst hk
    exact ⟨_, hg⟩
theorem AccG.no {P : Nat → Prop} {w : World} {base base2 : Nat} {v u : Value} {us : List Value} {xs : List Itm} {bs : List Nat} (h : AccG P w base v us xs) (hb : Acc w base2 u bs) : ∀ k, v.ownBlock = some k → u.ownBlock ≠ some k := fun k hk => by
  obtain ⟨c, hc⟩ := h.is hk
  exact Acc.no hb hc
theorem AccG.move {P P' : Nat → Prop} {w w' : World} {base : Nat} {v : Value} {us : List Value} {xs : List Itm} (h : AccG P w base v us xs) (hs : w.heap.size ≤ w'.heap.size) (hP : ∀ b, b < w.heap.size → P b → P' b)
    (hk : ∀ k, k < w.heap.size → (P k ∨ v.ownBlock = some k) → w'.heap[k]? = w.heap[k]?) : AccG P' w' base v us xs := by
  refine ⟨⟨h.1.1, ?_⟩, fun j x hj => (h.2 j x hj).move hs (fun b hb hS => ⟨hP b hb hS.1, hS.2⟩) fun p hp hlt => World.cell?_of_block (w := w) (hk _ hlt (.inl hp.1))⟩
  rcases h.1.2 with h1 | ⟨g, cap, cur, e, hg, hh, r⟩
  · exact .inl h1
  · exact .inr ⟨g, cap, cur, e, hg, (hk g (Array.getElem?_eq_some_iff.1 hh).1 (.inr (by rw [e]; rfl))).trans hh, r⟩
theorem AccG.below {P : Nat → Prop} {w w' : World} {base : Nat} {v : Value} {us : List Value} {xs : List Itm} (h : AccG P w base v us xs) (hb : Below w.heap.size w w') : AccG P w' base v us xs :=
  h.move hb.size (fun _ _ h => h) fun k hk _ => hb.block k hk
theorem AccG.item {P : Nat → Prop} {w : World} {base : Nat} {B : Option Addr} {m cap : Nat} {us : List Value} {xs : List Itm} (h : AccG P w base (.slice B m cap) us xs) :
    IAt (fun _ => True) w (.agg #[.bool true, .slice none 0 0, .slice B m cap]) (.list xs) := by
  have hl := h.1.1
  rcases h.1.2 with ⟨e, h0⟩ | ⟨g, cap', cur, e, hb, hg, hn, hm, hs, ht⟩
  · injection e with e1 e2 e3
    have : xs = [] := List.eq_nil_of_length_eq_zero h0
    subst e1 e2 e3 this
    exact .mk true none 0 none 0 0 0 (fun _ => undef) [] [] (Rd.nil _) Ds.nil (fun h => absurd h (by simp)) (fun h => absurd h (by simp)) (Nat.le_refl _) (fun _ => rfl) (fun j hj => absurd hj (by simp)) (fun j x hj => by simp at hj)
  · injection e with e1 e2 e3
    subst e1 e2 e3
    refine .mk true none 0 (some ⟨g, 0, none⟩) cap g 0 (fun j => us.getD j undef) [] xs (Rd.nil _) Ds.nil (fun h => absurd h (by simp)) (fun _ => ⟨rfl, (Array.getElem?_eq_some_iff.1 hg).1, trivial⟩) hn (fun e => by cases e) (fun j hj => ?_) (fun j x hj => (h.2 j x hj).mono fun _ _ _ => trivial)
    rw [Nat.zero_add, cell_of_row w g j cur _ (0, 0) hg, ← Array.getElem?_toList]
    have h1 : us[j]? = cur.toList[j]? := by rw [← ht, List.getElem?_take_of_lt (by omega)]
    have h2 : us[j]? = some (us.getD j undef) := by
      rw [List.getD_eq_getElem?_getD, List.getElem?_eq_getElem (by omega)]; rfl
    rw [← h1, h2]
/-- One item more. -/
theorem AccG.grow {P : Nat → Prop} {w w' : World} {base : Nat} {v v' : Value} {us : List Value} {xs : List Itm} {x : Itm} {p q r : Value} (h : AccG P w base v us xs) (hx : IAt (fun b => P b ∧ v.ownBlock ≠ some b) w (.agg #[p, q, r]) x)
    (ho : w'.ownsRow base 25 3 v' (xs.length + 1) (us ++ [p, q, r])) (hg : w.grownBy w' v.ownBlock) (hat : v'.ownBlock = v.ownBlock ∨ v'.ownBlock = some w.heap.size) : AccG P w' base v' (us ++ [p, q, r]) (xs ++ [x]) := by
  have hl := h.1.1
  have hmv : ∀ {u : Value} {y : Itm}, IAt (fun b => P b ∧ v.ownBlock ≠ some b) w u y → IAt (fun b => P b ∧ v'.ownBlock ≠ some b) w' u y := fun hy =>
    hy.move hg.size (fun b hb hS => ⟨hS.1, by
      rcases hat with e | e
      · rw [e]; exact hS.2
      · rw [e]; intro e2; injection e2 with e2; omega⟩) fun p hp hlt => World.cell?_of_block (w := w) (hg.block _ hlt (Ne.symm hp.2))
  refine ⟨by simpa using ho, fun j y hj => ?_⟩
  rcases Nat.lt_or_ge j xs.length with hlt | hge
  · rw [List.getElem?_append_left hlt] at hj
    have := hmv (h.2 j y hj)
    simp only [List.getD_eq_getElem?_getD] at this ⊢
    rw [List.getElem?_append_left (by omega), List.getElem?_append_left (by omega), List.getElem?_append_left (by omega)]
    exact this
  · rw [List.getElem?_append_right hge] at hj
    have h0 : j = xs.length := by
      rcases Nat.eq_zero_or_pos (j - xs.length) with h0 | h0
      · omega
      · rw [List.getElem?_eq_none (by simp; omega)] at hj; cases hj
    subst h0
    simp at hj
    subst hj
    have e0 : 3 * xs.length = us.length := by omega
    simp only [List.getD_eq_getElem?_getD, e0]
    rw [List.getElem?_append_right (by omega), List.getElem?_append_right (by omega), List.getElem?_append_right (by omega)]
    simp
    exact hmv hx
theorem Rd.drop' {w : World} {A : Option Addr} {c : Nat} {xs : List Nat} (h : Rd .u8 w A c xs) (m : Nat) (hm : m ≤ xs.length) (h0 : 0 < xs.length) : ∃ b o, A = some ⟨b, o, none⟩ ∧ Rd .u8 w (some ⟨b, o + m, none⟩) (c - m) (xs.drop m) := by
  obtain ⟨b, off, e, hb, hc⟩ := h.at_ h0
  have hle := h.le
  refine ⟨b, off, e, by rw [List.length_drop]; omega, (fun e => by cases e), fun hl => ⟨b, off + m, rfl, hb, fun j hj => ?_⟩⟩
  rw [List.length_drop] at hj
  have := hc (m + j) (by omega)
  rw [← Nat.add_assoc] at this
  rw [this]
  simp [List.getD_eq_getElem?_getD]
end Go.Proofs.Ytchhnalalplggaa
