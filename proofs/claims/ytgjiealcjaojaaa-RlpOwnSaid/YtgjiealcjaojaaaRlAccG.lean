/- A slice of items that a call owns, the items in blocks of which a predicate speaks. -/
import Derived.Test.YtgjiealcjaojaaaRlTwin2
namespace Go.Proofs.Ytgjiealcjaojaaa
open Go.RowKit

def cutI (x : Itm) : Itm := (twI 1100 x 3000).1
theorem Tk.below {K : Nat → Prop} {a b : World} {B : Nat} (h : Tk K a b) (hB : B ≤ a.heap.size) (hK : ∀ k, k < B → ¬ K k) : Below B a b := ⟨h.os, h.tape, h.output, h.size, fun k hk => h.block k (by omega) (hK k hk)⟩

theorem cutI_sz (x : Itm) : fsz (cutI x) ≤ 1227000 ∧ isz (cutI x) ≤ 3000 := by
  have := twI_sz 1100 x 3000 (by omega) (by omega)
  unfold cutI
  omega
end Go.Proofs.Ytgjiealcjaojaaa
namespace Go.Proofs.Ytgjiealcjaojaaa
open Go.RowKit

/-- A slice of items that a call owns; the items lie below block N0 or in new memory. -/
def AccP (N0 : Nat) (w : World) (base : Nat) (v : Value) (us : List Value) (xs : List Itm) : Prop :=
  w.ownsRow base 56 3 v xs.length us ∧ ∀ (j : Nat) (x : Itm), xs[j]? = some x → IAt (fun b => (b < N0 ∨ base ≤ b) ∧ v.ownBlock ≠ some b) w (.agg #[us.getD (3 * j) undef, us.getD (3 * j + 1) undef, us.getD (3 * j + 2) undef]) x
theorem AccP.nil (N0 : Nat) (w : World) (base : Nat) : AccP N0 w base (.slice none 0 0) [] [] := ⟨World.ownsRow_nil _ _ _ _, fun j x h => by simp at h⟩
theorem AccP.form {N0 : Nat} {w : World} {base : Nat} {v : Value} {us : List Value} {xs : List Itm} (h : AccP N0 w base v us xs) : ∃ A c, v = .slice A xs.length c := by
  rcases h.1.2 with ⟨e, h0⟩ | ⟨g, cap, cur, e, _⟩
  · exact ⟨none, 0, by rw [e, h0]⟩
  · exact ⟨_, _, e⟩
theorem AccP.item {N0 : Nat} {w : World} {base : Nat} {B : Option Addr} {m cap : Nat} {us : List Value} {xs : List Itm} (h : AccP N0 w base (.slice B m cap) us xs) :
    IAt (fun b => b < N0 ∨ base ≤ b) w (.agg #[.bool true, .slice none 0 0, .slice B m cap]) (.list xs) := by
  have hl := h.1.1
  rcases h.1.2 with ⟨e, h0⟩ | ⟨g, cap', cur, e, hb, hg, hn, hm, hs, ht⟩
  · injection e with e1 e2 e3
    have : xs = [] := List.eq_nil_of_length_eq_zero h0
    subst e1 e2 e3 this
    exact .mk true none 0 none 0 0 0 (fun _ => undef) [] [] (Rd.nil _) Ds.nil (fun h => absurd h (by simp)) (fun h => absurd h (by simp)) (Nat.le_refl _) (fun _ => rfl) (fun j hj => absurd hj (by simp)) (fun j x hj => by simp at hj)
  · injection e with e1 e2 e3
    subst e1 e2 e3
    refine .mk true none 0 (some ⟨g, 0, none⟩) cap g 0 (fun j => us.getD j undef) [] xs (Rd.nil _) Ds.nil (fun h => absurd h (by simp)) (fun _ => ⟨rfl, (Array.getElem?_eq_some_iff.1 hg).1, .inr hb⟩) hn (fun e => by cases e) (fun j hj => ?_) (fun j x hj => (h.2 j x hj).mono fun _ _ h => h.1)
    rw [Nat.zero_add, cell_of_row w g j cur _ (0, 0) hg, ← Array.getElem?_toList]
    have h1 : us[j]? = cur.toList[j]? := by rw [← ht, List.getElem?_take_of_lt (by omega)]
    have h2 : us[j]? = some (us.getD j undef) := by
      rw [List.getD_eq_getElem?_getD, List.getElem?_eq_getElem (by omega)]; rfl
    rw [← h1, h2]
theorem AccP.own {N0 : Nat} {w : World} {base : Nat} {v : Value} {us : List Value} {xs : List Itm} (h : AccP N0 w base v us xs) : ∀ k, v.ownBlock = some k → base ≤ k := fun k hk => (h.1.lt k hk).1
theorem AccP.below {N0 : Nat} {w w' : World} {base : Nat} {v : Value} {us : List Value} {xs : List Itm} (h : AccP N0 w base v us xs) (hb : Below w.heap.size w w') : AccP N0 w' base v us xs := by
  refine ⟨⟨h.1.1, ?_⟩, fun j x hj => (h.2 j x hj).keep hb⟩
  rcases h.1.2 with h1 | ⟨g, cap, cur, e, hg, hh, r1, r2, r3, r4⟩
  · exact .inl h1
  · exact .inr ⟨g, cap, cur, e, hg, (hb.block g (Array.getElem?_eq_some_iff.1 hh).1).trans hh, r1, r2, r3, r4⟩
theorem AccP.set {N0 : Nat} {w : World} {base : Nat} {v z : Value} {us : List Value} {xs : List Itm} {X i : Nat} (h : AccP N0 w base v us xs) (h0 : N0 ≤ X) (hX : X < base) : AccP N0 (w.setCell ⟨X, i, none⟩ z) base v us xs :=
  ⟨ownsRow_setCell_other h.1 (a := ⟨X, i, none⟩) (fun e => by have := h.own X e; omega) _, fun j x hj => (h.2 j x hj).move (by simp) (fun _ _ h => h) fun p hp _ => World.cell?_of_block (w := w) (Below.heap_setCell _ _ _ _ (fun e => by have h1 := hp.1; have e2 : p.block = X := e; omega))⟩
/-- One item more. -/
theorem AccP.more {N0 : Nat} {w w' : World} {base : Nat} {v v' : Value} {us : List Value} {xs : List Itm} {x : Itm} {p q r : Value} (h : AccP N0 w base v us xs)
    (ho : w'.ownsRow base 56 3 v' (xs.length + 1) (us ++ [p, q, r])) (hi : ∀ (j : Nat) (x : Itm), xs[j]? = some x → IAt (fun b => (b < N0 ∨ base ≤ b) ∧ v'.ownBlock ≠ some b) w' (.agg #[us.getD (3 * j) undef, us.getD (3 * j + 1) undef, us.getD (3 * j + 2) undef]) x) (hx : IAt (fun b => (b < N0 ∨ base ≤ b) ∧ v'.ownBlock ≠ some b) w' (.agg #[p, q, r]) x) : AccP N0 w' base v' (us ++ [p, q, r]) (xs ++ [x]) := by
  have hl := h.1.1
  refine ⟨by simpa using ho, fun j y hj => ?_⟩
  rcases Nat.lt_or_ge j xs.length with hlt | hge
  · rw [List.getElem?_append_left hlt] at hj
    have := hi j y hj
    simp only [List.getD_eq_getElem?_getD] at this ⊢
    rw [List.getElem?_append_left (by omega), List.getElem?_append_left (by omega), List.getElem?_append_left (by omega)]
    exact this
  · rw [List.getElem?_append_right hge] at hj
    have h0 : j = xs.length := by
      rcases Nat.eq_zero_or_pos (j - xs.length) with h0 | h0
      · omega
      · rw [List.getElem?_eq_none (by simp; omega)] at hj; cases hj
    subst h0
    simp at hj
    subst hj
    have e0 : 3 * xs.length = us.length := by omega
    simp only [List.getD_eq_getElem?_getD, e0]
    rw [List.getElem?_append_right (by omega), List.getElem?_append_right (by omega), List.getElem?_append_right (by omega)]
    simp
    exact hx
theorem AccP.grow {N0 : Nat} {w w' : World} {base : Nat} {v v' : Value} {us : List Value} {xs : List Itm} {x : Itm} {p q r : Value} {lo : Nat} (h : AccP N0 w base v us xs) (h0 : N0 ≤ base) (hlo : base ≤ lo) (hv : ∀ k, v.ownBlock = some k → k < lo) (hx : IAt (fun b => b < N0 ∨ lo ≤ b) w (.agg #[p, q, r]) x)
    (ho : w'.ownsRow base 56 3 v' (xs.length + 1) (us ++ [p, q, r])) (hg : w.grownBy w' v.ownBlock) (hat : v'.ownBlock = v.ownBlock ∨ v'.ownBlock = some w.heap.size) : AccP N0 w' base v' (us ++ [p, q, r]) (xs ++ [x]) := by
  refine h.more ho (fun j y hj => (h.2 j y hj).move hg.size (fun b hb hS => ⟨hS.1, ?_⟩) fun p hp hlt => World.cell?_of_block (w := w) (hg.block _ hlt (Ne.symm hp.2))) (hx.move hg.size (fun b hb hS => ⟨hS.imp id (Nat.le_trans hlo), ?_⟩) fun p hp hlt => World.cell?_of_block (w := w) (hg.block _ hlt fun e => ?_))
  · rcases hat with e | e
    · rw [e]; exact hS.2
    · rw [e]; intro e2; injection e2 with e2; omega
  · rcases hat with e | e
    · rw [e]; intro e2; have := hv _ e2; have := h.own _ e2; omega
    · rw [e]; intro e2; injection e2 with e2; omega
  · have := hv _ e.symm
    have := h.own _ e.symm
    omega

theorem IAt.bare {S : Nat → Prop} {w : World} {p q r : Value} {l : Bool} {bs : List Nat} {xs : List Itm} (h : IAt S w (.agg #[p, q, r]) (.mk l bs xs)) : IAt S w (.agg #[p, q, .slice none 0 0]) (.mk l bs []) := by
  generalize hv : Value.agg #[p, q, r] = v at h
  cases h with
  | mk l A c B cap b off u bs xs hA hd hAb hB hc hn hu hx =>
    injection hv with hv
    have h0 : p = .bool l := by have := congrArg (fun z : Array Value => z[0]?) hv; simpa using this
    have h1 : q = .slice A bs.length c := by have := congrArg (fun z : Array Value => z[1]?) hv; simpa using this
    subst h0 h1
    exact .mk l A c none 0 0 0 (fun _ => undef) bs [] hA hd hAb (fun h => absurd h (by simp)) (Nat.le_refl _) (fun _ => rfl) (fun j hj => absurd hj (by simp)) (fun j x hj => by simp at hj)
theorem plainL_take : ∀ {i : Nat} {xs : List Itm} {x : Itm}, xs[i]? = some x → plainL (xs.take (i + 1)) = plainL (xs.take i) ++ [plainI x]
  | i, [], x, h => by simp at h
  | 0, y :: ys, x, h => by simp at h; subst h; simp [plainL]
  | i + 1, y :: ys, x, h => by
    simp only [List.getElem?_cons_succ] at h
    simp only [List.take_succ_cons, plainL, plainL_take h, List.cons_append]
theorem plainL_len : ∀ xs : List Itm, (plainL xs).length = xs.length
  | [] => by simp [plainL]
  | x :: xs => by simp [plainL, plainL_len xs]

/-- A call of a function of one argument, as one step of a region that draws. -/
theorem step_call1 {ops : Array Oper} {o : Oper} {a : Act} {w : World} {K : Act → World → Prop} {Q : Exit → Act → World → Prop} {E : Prop} (hgd : o.guard = none) (f : FuncId) (x : Operand) {tys : Array TypeId}
    (ho : o.op = .call { callee := .value (.func f), args := #[x], argTypes := tys }) (he : ∀ args w, (callFunc f args).run Try.prog w = .ok (.enter f args) w) {R : Ending → World → Prop} (args : Array Value) (ha : #[a.eval x] = args)
    (h : Calls Try.prog f args w R) (hR : ∀ e w', R e w' → ∃ v, e = .returned v ∧ K (a.put o.dst v) w') : if Region.wanted o (yielded ops a.tmps) = true then o.wp Try.prog a w K Q else E := by
  have hw : Region.wanted o (yielded ops a.tmps) = true := by simp [Region.wanted, hgd]
  rw [if_pos hw]
  subst ha
  have e : (execOp a.eval o).run Try.prog w = .ok (.enter f #[a.eval x]) w := by
    have hp : a.eval (.func f) = .func (.func f) #[] #[] := rfl
    have e := he #[a.eval x] w
    clear h hw hR
    generalize a.eval = p at *
    unfold execOp
    rw [ho]
    go_simp
  unfold Oper.wp
  rw [e]
  refine h.mono fun e w' hr => ?_
  obtain ⟨v, rfl, hk⟩ := hR e w' hr
  exact hk
end Go.Proofs.Ytgjiealcjaojaaa
namespace Go.Proofs.Ytgjiealcjaojaaa
open Go.RowKit

def AccG (P : Nat → Prop) (w : World) (base : Nat) (v : Value) (us : List Value) (xs : List Itm) : Prop :=
  w.ownsRow base 56 3 v xs.length us ∧ ∀ (j : Nat) (x : Itm), xs[j]? = some x → IAt (fun b => P b ∧ v.ownBlock ≠ some b) w (.agg #[us.getD (3 * j) undef, us.getD (3 * j + 1) undef, us.getD (3 * j + 2) undef]) x
theorem AccG.nil (P : Nat → Prop) (w : World) (base : Nat) : AccG P w base (.slice none 0 0) [] [] := ⟨World.ownsRow_nil _ _ _ _, fun j x h => by simp at h⟩
theorem AccG.form {P : Nat → Prop} {w : World} {base : Nat} {v : Value} {us : List Value} {xs : List Itm} (h : AccG P w base v us xs) : ∃ A c, v = .slice A xs.length c := by
  rcases h.1.2 with ⟨e, h0⟩ | ⟨g, cap, cur, e, _⟩
  · exact ⟨none, 0, by rw [e, h0]⟩
  · exact ⟨_, _, e⟩
theorem AccG.own {P : Nat → Prop} {w : World} {base : Nat} {v : Value} {us : List Value} {xs : List Itm} (h : AccG P w base v us xs) : ∀ k, v.ownBlock = some k → base ≤ k ∧ k < w.heap.size := fun k hk => h.1.lt k hk
/-- The block that it owns holds items. -/
theorem AccG.is {P : Nat → Prop} {w : World} {base : Nat} {v : Value} {us : List Value} {xs : List Itm} (h : AccG P w base v us xs) {k : Nat} (hk : v.ownBlock = some k) : ∃ c, w.heap[k]? = some (.cells c 56 (0, 0)) := by
  rcases h.1.2 with ⟨e, h0⟩ | ⟨g, cap, cur, e, hb, hg, _⟩
  · rw [e] at hk; simp [Value.ownBlock] at hk
  · rw [e] at hk
    simp [Value.ownBlock] at hk
    subst hk
    exact ⟨_, hg⟩
theorem AccG.no {P : Nat → Prop} {w : World} {base base2 : Nat} {v u : Value} {us : List Value} {xs : List Itm} {bs : List Nat} (h : AccG P w base v us xs) (hb : Acc w base2 u bs) : ∀ k, v.ownBlock = some k → u.ownBlock ≠ some k := fun k hk => by
  obtain ⟨c, hc⟩ := h.is hk
  exact Acc.no hb hc
theorem AccG.move {P P' : Nat → Prop} {w w' : World} {base : Nat} {v : Value} {us : List Value} {xs : List Itm} (h : AccG P w base v us xs) (hs : w.heap.size ≤ w'.heap.size) (hP : ∀ b, b < w.heap.size → P b → P' b)
    (hk : ∀ k, k < w.heap.size → (P k ∨ v.ownBlock = some k) → w'.heap[k]? = w.heap[k]?) : AccG P' w' base v us xs := by
  refine ⟨⟨h.1.1, ?_⟩, fun j x hj => (h.2 j x hj).move hs (fun b hb hS => ⟨hP b hb hS.1, hS.2⟩) fun p hp hlt => World.cell?_of_block (w := w) (hk _ hlt (.inl hp.1))⟩
  rcases h.1.2 with h1 | ⟨g, cap, cur, e, hg, hh, r⟩
  · exact .inl h1
  · exact .inr ⟨g, cap, cur, e, hg, (hk g (Array.getElem?_eq_some_iff.1 hh).1 (.inr (by rw [e]; rfl))).trans hh, r⟩
theorem AccG.below {P : Nat → Prop} {w w' : World} {base : Nat} {v : Value} {us : List Value} {xs : List Itm} (h : AccG P w base v us xs) (hb : Below w.heap.size w w') : AccG P w' base v us xs :=
  h.move hb.size (fun _ _ h => h) fun k hk _ => hb.block k hk
theorem AccG.item {P : Nat → Prop} {w : World} {base : Nat} {B : Option Addr} {m cap : Nat} {us : List Value} {xs : List Itm} (h : AccG P w base (.slice B m cap) us xs) :
    IAt (fun _ => True) w (.agg #[.bool true, .slice none 0 0, .slice B m cap]) (.list xs) := by
  have hl := h.1.1
  rcases h.1.2 with ⟨e, h0⟩ | ⟨g, cap', cur, e, hb, hg, hn, hm, hs, ht⟩
  · injection e with e1 e2 e3
    have : xs = [] := List.eq_nil_of_length_eq_zero h0
    subst e1 e2 e3 this
    exact .mk true none 0 none 0 0 0 (fun _ => undef) [] [] (Rd.nil _) Ds.nil (fun h => absurd h (by simp)) (fun h => absurd h (by simp)) (Nat.le_refl _) (fun _ => rfl) (fun j hj => absurd hj (by simp)) (fun j x hj => by simp at hj)
  · injection e with e1 e2 e3
    subst e1 e2 e3
    refine .mk true none 0 (some ⟨g, 0, none⟩) cap g 0 (fun j => us.getD j undef) [] xs (Rd.nil _) Ds.nil (fun h => absurd h (by simp)) (fun _ => ⟨rfl, (Array.getElem?_eq_some_iff.1 hg).1, trivial⟩) hn (fun e => by cases e) (fun j hj => ?_) (fun j x hj => (h.2 j x hj).mono fun _ _ _ => trivial)
    rw [Nat.zero_add, cell_of_row w g j cur _ (0, 0) hg, ← Array.getElem?_toList]
    have h1 : us[j]? = cur.toList[j]? := by rw [← ht, List.getElem?_take_of_lt (by omega)]
    have h2 : us[j]? = some (us.getD j undef) := by
      rw [List.getD_eq_getElem?_getD, List.getElem?_eq_getElem (by omega)]; rfl
    rw [← h1, h2]
/-- One item more. -/
theorem AccG.grow {P : Nat → Prop} {w w' : World} {base : Nat} {v v' : Value} {us : List Value} {xs : List Itm} {x : Itm} {p q r : Value} (h : AccG P w base v us xs) (hx : IAt (fun b => P b ∧ v.ownBlock ≠ some b) w (.agg #[p, q, r]) x)
    (ho : w'.ownsRow base 56 3 v' (xs.length + 1) (us ++ [p, q, r])) (hg : w.grownBy w' v.ownBlock) (hat : v'.ownBlock = v.ownBlock ∨ v'.ownBlock = some w.heap.size) : AccG P w' base v' (us ++ [p, q, r]) (xs ++ [x]) := by
  have hl := h.1.1
  have hmv : ∀ {u : Value} {y : Itm}, IAt (fun b => P b ∧ v.ownBlock ≠ some b) w u y → IAt (fun b => P b ∧ v'.ownBlock ≠ some b) w' u y := fun hy =>
    hy.move hg.size (fun b hb hS => ⟨hS.1, by
      rcases hat with e | e
      · rw [e]; exact hS.2
      · rw [e]; intro e2; injection e2 with e2; omega⟩) fun p hp hlt => World.cell?_of_block (w := w) (hg.block _ hlt (Ne.symm hp.2))
  refine ⟨by simpa using ho, fun j y hj => ?_⟩
  rcases Nat.lt_or_ge j xs.length with hlt | hge
  · rw [List.getElem?_append_left hlt] at hj
    have := hmv (h.2 j y hj)
    simp only [List.getD_eq_getElem?_getD] at this ⊢
    rw [List.getElem?_append_left (by omega), List.getElem?_append_left (by omega), List.getElem?_append_left (by omega)]
    exact this
  · rw [List.getElem?_append_right hge] at hj
    have h0 : j = xs.length := by
      rcases Nat.eq_zero_or_pos (j - xs.length) with h0 | h0
      · omega
      · rw [List.getElem?_eq_none (by simp; omega)] at hj; cases hj
    subst h0
    simp at hj
    subst hj
    have e0 : 3 * xs.length = us.length := by omega
    simp only [List.getD_eq_getElem?_getD, e0]
    rw [List.getElem?_append_right (by omega), List.getElem?_append_right (by omega), List.getElem?_append_right (by omega)]
    simp
    exact hmv hx
theorem Rd.drop' {w : World} {A : Option Addr} {c : Nat} {xs : List Nat} (h : Rd .u8 w A c xs) (m : Nat) (hm : m ≤ xs.length) (h0 : 0 < xs.length) : ∃ b o, A = some ⟨b, o, none⟩ ∧ Rd .u8 w (some ⟨b, o + m, none⟩) (c - m) (xs.drop m) := by
  obtain ⟨b, off, e, hb, hc⟩ := h.at_ h0
  have hle := h.le
  refine ⟨b, off, e, by rw [List.length_drop]; omega, (fun e => by cases e), fun hl => ⟨b, off + m, rfl, hb, fun j hj => ?_⟩⟩
  rw [List.length_drop] at hj
  have := hc (m + j) (by omega)
  rw [← Nat.add_assoc] at this
  rw [this]
  simp [List.getD_eq_getElem?_getD]
end Go.Proofs.Ytgjiealcjaojaaa
