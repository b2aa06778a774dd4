/- Items in memory; what reading tells. -/
import Derived.Test.YtgjiealcjaojaaaRlFirst2
import Derived.Laws.OwnMore
namespace Go.Proofs.Ytgjiealcjaojaaa
open Go.RowKit

/-- An item: is it a list, its bytes, its items. -/
inductive Itm where
  | mk (l : Bool) (bs : List Nat) (xs : List Itm)
abbrev Itm.text (bs : List Nat) : Itm := .mk false bs []
abbrev Itm.list (xs : List Itm) : Itm := .mk true [] xs

/-- A value that is this item, in memory, in blocks of which S speaks. -/
inductive IAt (S : Nat → Prop) (w : World) : Value → Itm → Prop
  | mk (l : Bool) (A : Option Addr) (c : Nat) (B : Option Addr) (cap b off : Nat) (u : Nat → Value) (bs : List Nat) (xs : List Itm)
      (hA : Rd .u8 w A c bs) (hd : Ds 256 bs) (hAb : 0 < bs.length → ∃ b o, A = some ⟨b, o, none⟩ ∧ S b) (hB : 0 < xs.length → B = some ⟨b, off, none⟩ ∧ b < w.heap.size ∧ S b) (hc : xs.length ≤ cap) (hn : B = none → cap = 0)
      (hu : ∀ j, j < 3 * xs.length → w.cell? ⟨b, off + j, none⟩ = some (u j))
      (hx : ∀ (j : Nat) (x : Itm), xs[j]? = some x → IAt S w (.agg #[u (3 * j), u (3 * j + 1), u (3 * j + 2)]) x) :
      IAt S w (.agg #[.bool l, .slice A bs.length c, .slice B xs.length cap]) (.mk l bs xs)

theorem IAt.move {S S' : Nat → Prop} {w w' : World} {v : Value} {x : Itm} (h : IAt S w v x) (hs : w.heap.size ≤ w'.heap.size) (hS : ∀ b, b < w.heap.size → S b → S' b) (hk : ∀ p : Addr, S p.block → p.block < w.heap.size → w'.cell? p = w.cell? p) : IAt S' w' v x := by
  induction h with
  | mk l A c B cap b off u bs xs hA hd hAb hB hc hn hu hx ih =>
    refine .mk l A c B cap b off u bs xs ⟨hA.le, hA.cap, fun h0 => ?_⟩ hd (fun h0 => ?_) (fun h => ⟨(hB h).1, Nat.lt_of_lt_of_le (hB h).2.1 hs, hS _ (hB h).2.1 (hB h).2.2⟩) hc hn (fun j hj => ?_) ih
    · obtain ⟨b1, o1, e1, hb1, hc1⟩ := hA.at_ h0
      obtain ⟨b2, o2, e2, hb2⟩ := hAb h0
      rw [e1] at e2
      injection e2 with e2; injection e2 with e3 e4
      subst e3
      exact ⟨b1, o1, e1, Nat.lt_of_lt_of_le hb1 hs, fun j hj => (hk ⟨b1, o1 + j, none⟩ hb2 hb1).trans (hc1 j hj)⟩
    · obtain ⟨b1, o1, e1, hb1, _⟩ := hA.at_ h0
      obtain ⟨b2, o2, e2, hb2⟩ := hAb h0
      have e3 := e2
      rw [e1] at e2
      injection e2 with e2; injection e2 with e4 e5
      subst e4
      exact ⟨b1, o2, e3, hS _ hb1 hb2⟩
    · exact (hk ⟨b, off + j, none⟩ (hB (by omega)).2.2 (hB (by omega)).2.1).trans (hu j hj)
theorem IAt.keep {S : Nat → Prop} {w w' : World} {v : Value} {x : Itm} (h : IAt S w v x) (hb : Below w.heap.size w w') : IAt S w' v x := h.move hb.size (fun _ _ h => h) fun _ _ hp => hb.cell hp
theorem IAt.mono {S S' : Nat → Prop} {w : World} {v : Value} {x : Itm} (h : IAt S w v x) (hb : ∀ b, b < w.heap.size → S b → S' b) : IAt S' w v x := h.move (Nat.le_refl _) hb fun _ _ _ => rfl
/-- The parts of an item's value. -/
theorem IAt.parts {S : Nat → Prop} {w : World} {v : Value} {x : Itm} (h : IAt S w v x) : ∃ l A n c B m cap, v = .agg #[.bool l, .slice A n c, .slice B m cap] := by
  cases h with
  | mk l A c B cap b off u bs xs => exact ⟨l, A, _, c, B, _, cap, rfl⟩
theorem IAt.text {B0 : Nat} {w : World} {v : Value} {bs : List Nat} (h : Acc w B0 v bs) (hd : Ds 256 bs) : IAt (fun b => B0 ≤ b) w (.agg #[.bool false, v, .slice none 0 0]) (.text bs) := by
  obtain ⟨A, c, rfl⟩ := h.form
  refine .mk false A c none 0 0 0 (fun _ => undef) bs [] h.rd hd (fun h0 => ?_) (fun h => absurd h (by simp)) (Nat.le_refl _) (fun _ => rfl) (fun j hj => absurd hj (by simp)) (fun j x hj => by simp at hj)
  rcases h.2 with ⟨e, h1⟩ | ⟨g, cap, cur, e, hb, _⟩
  · omega
  · injection e with e1 e2 e3
    exact ⟨g, 0, e1, hb⟩

/-- A slice of items that a call owns: its cells, three an item. -/
def AccI (w : World) (base : Nat) (v : Value) (us : List Value) (xs : List Itm) : Prop :=
  w.ownsRow base 56 3 v xs.length us ∧ ∀ (j : Nat) (x : Itm), xs[j]? = some x → IAt (fun b => base ≤ b ∧ v.ownBlock ≠ some b) w (.agg #[us.getD (3 * j) undef, us.getD (3 * j + 1) undef, us.getD (3 * j + 2) undef]) x
theorem AccI.nil (w : World) (base : Nat) : AccI w base (.slice none 0 0) [] [] := ⟨World.ownsRow_nil _ _ _ _, fun j x h => by simp at h⟩
theorem AccI.form {w : World} {base : Nat} {v : Value} {us : List Value} {xs : List Itm} (h : AccI w base v us xs) : ∃ A c, v = .slice A xs.length c := by
  rcases h.1.2 with ⟨e, h0⟩ | ⟨g, cap, cur, e, _⟩
  · exact ⟨none, 0, by rw [e, h0]⟩
  · exact ⟨_, _, e⟩
theorem AccI.item {w : World} {base : Nat} {B : Option Addr} {m cap : Nat} {us : List Value} {xs : List Itm} (h : AccI w base (.slice B m cap) us xs) :
    IAt (fun b => base ≤ b) w (.agg #[.bool true, .slice none 0 0, .slice B m cap]) (.list xs) := by
  have hl := h.1.1
  rcases h.1.2 with ⟨e, h0⟩ | ⟨g, cap', cur, e, hb, hg, hn, hm, hs, ht⟩
  · injection e with e1 e2 e3
    have : xs = [] := List.eq_nil_of_length_eq_zero h0
    subst e1 e2 e3 this
    exact .mk true none 0 none 0 0 0 (fun _ => undef) [] [] (Rd.nil _) Ds.nil (fun h => absurd h (by simp)) (fun h => absurd h (by simp)) (Nat.le_refl _) (fun _ => rfl) (fun j hj => absurd hj (by simp)) (fun j x hj => by simp at hj)
  · injection e with e1 e2 e3
    subst e1 e2 e3
    refine .mk true none 0 (some ⟨g, 0, none⟩) cap g 0 (fun j => us.getD j undef) [] xs (Rd.nil _) Ds.nil (fun h => absurd h (by simp)) (fun _ => ⟨rfl, (Array.getElem?_eq_some_iff.1 hg).1, hb⟩) hn (fun e => by cases e) (fun j hj => ?_) (fun j x hj => (h.2 j x hj).mono fun _ _ h => h.1)
    rw [Nat.zero_add, cell_of_row w g j cur _ (0, 0) hg, ← Array.getElem?_toList]
    have h1 : us[j]? = cur.toList[j]? := by rw [← ht, List.getElem?_take_of_lt (by omega)]
    have h2 : us[j]? = some (us.getD j undef) := by
      rw [List.getD_eq_getElem?_getD, List.getElem?_eq_getElem (by omega)]; rfl
    rw [← h1, h2]
theorem AccI.own {w : World} {base : Nat} {v : Value} {us : List Value} {xs : List Itm} (h : AccI w base v us xs) : ∀ k, v.ownBlock = some k → base ≤ k := fun k hk => (h.1.lt k hk).1
/-- One item more. -/
theorem AccI.more {w w' : World} {base : Nat} {v v' : Value} {us : List Value} {xs : List Itm} {x : Itm} {p q r : Value} (h : AccI w base v us xs)
    (ho : w'.ownsRow base 56 3 v' (xs.length + 1) (us ++ [p, q, r])) (hi : ∀ (j : Nat) (x : Itm), xs[j]? = some x → IAt (fun b => base ≤ b ∧ v'.ownBlock ≠ some b) w' (.agg #[us.getD (3 * j) undef, us.getD (3 * j + 1) undef, us.getD (3 * j + 2) undef]) x) (hx : IAt (fun b => base ≤ b ∧ v'.ownBlock ≠ some b) w' (.agg #[p, q, r]) x) : AccI w' base v' (us ++ [p, q, r]) (xs ++ [x]) := by
  have hl := h.1.1
  refine ⟨by simpa using ho, fun j y hj => ?_⟩
  rcases Nat.lt_or_ge j xs.length with hlt | hge
  · rw [List.getElem?_append_left hlt] at hj
    have := hi j y hj
    simp only [List.getD_eq_getElem?_getD] at this ⊢
    rw [List.getElem?_append_left (by omega), List.getElem?_append_left (by omega), List.getElem?_append_left (by omega)]
    exact this
  · rw [List.getElem?_append_right hge] at hj
    have h0 : j = xs.length := by
      rcases Nat.eq_zero_or_pos (j - xs.length) with h0 | h0
      · omega
      · rw [List.getElem?_eq_none (by simp; omega)] at hj; cases hj
    subst h0
    simp at hj
    subst hj
    have e0 : 3 * xs.length = us.length := by omega
    simp only [List.getD_eq_getElem?_getD, e0]
    rw [List.getElem?_append_right (by omega), List.getElem?_append_right (by omega), List.getElem?_append_right (by omega)]
    simp
    exact hx

/-! What reading tells, of bytes: an item and what is behind it, or an error. -/
mutual
inductive ReadR : List Nat → Nat → Except Nat (Itm × List Nat) → Prop
  | bad {raw d} : fstS raw = none → ReadR raw d (.error 2)
  | text {raw d u r} : fstS raw = some (false, u, r) → ReadR raw d (.ok (.text u, r))
  | deep {raw u r} : fstS raw = some (true, u, r) → ReadR raw 1024 (.error 7)
  | list {raw d u r l} : fstS raw = some (true, u, r) → d ≠ 1024 → RowR u (d + 1) (.ok l) → ReadR raw d (.ok (.list l, r))
  | wrong {raw d u r e} : fstS raw = some (true, u, r) → d ≠ 1024 → RowR u (d + 1) (.error e) → ReadR raw d (.error e)
inductive RowR : List Nat → Nat → Except Nat (List Itm) → Prop
  | nil {d} : RowR [] d (.ok [])
  | cons {u d x r l} : 0 < u.length → ReadR u d (.ok (x, r)) → RowR r d (.ok l) → RowR u d (.ok (x :: l))
  | here {u d e} : 0 < u.length → ReadR u d (.error e) → RowR u d (.error e)
  | behind {u d x r e} : 0 < u.length → ReadR u d (.ok (x, r)) → RowR r d (.error e) → RowR u d (.error e)
end

theorem fstS_len {raw u r : List Nat} {l : Bool} (h : fstS raw = some (l, u, r)) : r.length < raw.length ∧ (l = true → u.length < raw.length) := by
  unfold fstS at h
  split at h
  · cases h
  · rename_i h0
    split at h
    · cases h
      exact ⟨by rw [List.length_drop]; omega, fun h => by cases h⟩
    · split at h
      · cases h
      · rename_i n u hl
        have h1 : u.length ≤ (raw.drop 1).length := lenS_len hl (Nat.le_refl _)
        rw [List.length_drop] at h1
        split at h
        · cases h
        · split at h
          · cases h
            refine ⟨by rw [List.length_drop]; omega, fun _ => by rw [List.length_take]; omega⟩
          · split at h
            · cases h
            · cases h
              exact ⟨by rw [List.length_drop]; omega, fun h => by cases h⟩

theorem fstS_len2 {raw u r : List Nat} {l : Bool} (h : fstS raw = some (l, u, r)) : u.length ≤ raw.length := by
  unfold fstS at h
  split at h
  · cases h
  · rename_i h0
    split at h
    · cases h
      rw [List.length_take]; omega
    · split at h
      · cases h
      · rename_i n u hl
        have h1 : u.length ≤ (raw.drop 1).length := lenS_len hl (Nat.le_refl _)
        rw [List.length_drop] at h1
        split at h
        · cases h
        · split at h
          · cases h
            rw [List.length_take]; omega
          · split at h
            · cases h
            · cases h
              rw [List.length_take]; omega

mutual
theorem ReadR.det {raw d o o'} (h : ReadR raw d o) (h' : ReadR raw d o') : o = o' := by
  match h, h' with
  | .bad a, .bad _ => rfl
  | .bad a, .text b => rw [a] at b; cases b
  | .bad a, .deep b => rw [a] at b; cases b
  | .bad a, .list b _ _ => rw [a] at b; cases b
  | .bad a, .wrong b _ _ => rw [a] at b; cases b
  | .text a, .bad b => rw [a] at b; cases b
  | .text a, .text b => rw [a] at b; cases b; rfl
  | .text a, .deep b => rw [a] at b; cases b
  | .text a, .list b _ _ => rw [a] at b; cases b
  | .text a, .wrong b _ _ => rw [a] at b; cases b
  | .deep a, .bad b => rw [a] at b; cases b
  | .deep a, .text b => rw [a] at b; cases b
  | .deep a, .deep b => rfl
  | .deep a, .list b n _ => exact absurd rfl n
  | .deep a, .wrong b n _ => exact absurd rfl n
  | .list a _ _, .bad b => rw [a] at b; cases b
  | .list a _ _, .text b => rw [a] at b; cases b
  | .list a n _, .deep b => exact absurd rfl n
  | .list a _ k, .list b _ k' => rw [a] at b; cases b; have := k.det k'; cases this; rfl
  | .list a _ k, .wrong b _ k' => rw [a] at b; cases b; have := k.det k'; cases this
  | .wrong a _ _, .bad b => rw [a] at b; cases b
  | .wrong a _ _, .text b => rw [a] at b; cases b
  | .wrong a n _, .deep b => exact absurd rfl n
  | .wrong a _ k, .list b _ k' => rw [a] at b; cases b; have := k.det k'; cases this
  | .wrong a _ k, .wrong b _ k' => rw [a] at b; cases b; have := k.det k'; cases this; rfl
theorem RowR.det {u d o o'} (h : RowR u d o) (h' : RowR u d o') : o = o' := by
  match h, h' with
  | .nil, .nil => rfl
  | .nil, .cons b _ _ => cases b
  | .nil, .here b _ => cases b
  | .nil, .behind b _ _ => cases b
  | .cons a _ _, .nil => cases a
  | .cons _ a k, .cons _ b k' => have := a.det b; cases this; have := k.det k'; cases this; rfl
  | .cons _ a k, .here _ b => have := a.det b; cases this
  | .cons _ a k, .behind _ b k' => have := a.det b; cases this; have := k.det k'; cases this
  | .here a _, .nil => cases a
  | .here _ a, .cons _ b _ => have := a.det b; cases this
  | .here _ a, .here _ b => have := a.det b; cases this; rfl
  | .here _ a, .behind _ b _ => have := a.det b; cases this
  | .behind a _ _, .nil => cases a
  | .behind _ a k, .cons _ b k' => have := a.det b; cases this; have := k.det k'; cases this
  | .behind _ a k, .here _ b => have := a.det b; cases this
  | .behind _ a k, .behind _ b k' => have := a.det b; cases this; have := k.det k'; cases this; rfl
end
end Go.Proofs.Ytgjiealcjaojaaa
