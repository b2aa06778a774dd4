/- For the law RlpOwn: the law's own item, whole; Encode's answer is the caller's own. -/
import Derived.Test.YtgjiealcjaojaaaOwClose
import Derived.Test.YtgjiealcjaojaaaRlAccG
import Derived.Test.YtgjiealcjaojaaaRlRead
import Derived.Test.YtgjiealcjaojaaaRlWakes
import Derived.Test.YtgjiealcjaojaaaRlEncode
namespace Go.Proofs.Ytgjiealcjaojaaa
open Go.RowKit

/-- Blocks that stand while lists are lent and kept: old ones, and those of a role of their own. -/
def SZ (base : Nat) (role : Role) (b : Nat) : Prop := b < base ∨ ∃ r, role b = some r ∧ 8 ≤ r.1 ∧ r.1 ≤ 25
section
variable {base gb gl : Nat} {role role' : Role} {w w' : World} {k : Nat}
theorem SZ.block {b : Nat} (h : SZ base role b) (hb : Below base w w') (hc : ChgR (fun r => r.1 ≤ 7) role w w') (hlt : b < w.heap.size) : w'.heap[b]? = w.heap[b]? := by
  rcases h with h | ⟨r, h1, h2⟩
  · exact hb.block b h
  · exact hc.block b hlt fun s e hs => by rw [h1] at e; injection e with e; subst e; have : r.1 ≤ 7 := hs; omega
theorem SZ.ext {b : Nat} (h : SZ base role b) (he : Ext role role') : SZ base role' b := h.imp id fun ⟨r, h1, h2⟩ => ⟨r, he b r h1, h2⟩
theorem IAt.lent {v : Value} {x : Itm} (h : IAt (SZ base role) w v x) (hb : Below base w w') (hc : ChgR (fun r => r.1 ≤ 7) role w w') (he : Ext role role') : IAt (SZ base role') w' v x :=
  h.move hc.size (fun _ _ hS => hS.ext he) fun _ hp hlt => World.cell?_of_block (w := w) (hp.block hb hc hlt)
theorem AccG.lent {N : Nat → Prop} {v : Value} {us : List Value} {xs : List Itm} (h : AccG (fun b => SZ base role b ∧ N b) w base v us xs) (hr : ∀ b, v.ownBlock = some b → role b = some (20, 0)) (hb : Below base w w') (hc : ChgR (fun r => r.1 ≤ 7) role w w') (he : Ext role role') : AccG (fun b => SZ base role' b ∧ N b) w' base v us xs :=
  h.move hc.size (fun _ _ hS => ⟨hS.1.ext he, hS.2⟩) fun b hlt hP => by
    rcases hP with hP | hP
    · exact hP.1.block hb hc hlt
    · exact SZ.block (.inr ⟨_, hr b hP, by decide⟩) hb hc hlt
/-- What turns blocks of the role 20, or new ones, alone. -/
theorem Keeps.far (h : Keeps base gb gl role w k) (hc : ChgR (fun r => 20 ≤ r.1) role w w') : Keeps base gb gl role w' k := by
  obtain ⟨us, ws, Ls, n, h1⟩ := h.book
  obtain ⟨us2, ws2, Ks, h2, h3, h4⟩ := h.loan
  exact ⟨h.old.grow hc.size, ⟨us, ws, Ls, n, h1.keep hc (fun c j hcj e => by have : 20 ≤ c := e; omega) (Ext.refl _)⟩, us2, ws2, Ks, h2.keep hc (fun c j _ hcj e => by have : 20 ≤ c := e; omega) (Ext.refl _), h3, h4⟩
/-- A block gets the role 20. -/
def g20 (role : Role) (b : Nat) : Role := upd role (.slice (some ⟨b, 0, none⟩) 0 0) (20, 0)
theorem g20_self (role : Role) (b : Nat) : g20 role b b = some (20, 0) := upd_self _ _ _ rfl
theorem g20_old {b i : Nat} (h : i ≠ b) : g20 role b i = role i := upd_old _ _ _ (by intro e; injection e with e; exact h e.symm)
theorem Keeps.block (h : Keeps base gb gl role w k) {b : Nat} (hb : b < w.heap.size) (hbb : base ≤ b) (hn : role b = none ∨ role b = some (20, 0)) : Keeps base gb gl (g20 role b) w k ∧ Ext role (g20 role b) := by
  have ha : AccO w (.slice (some ⟨b, 0, none⟩) 0 0) [] := ⟨Ds.nil, .inr ⟨b, 0, 0, rfl, by simp, Nat.zero_le _, hb, fun j hj => by omega, fun j hj => by simp at hj⟩⟩
  obtain ⟨h1, h2, _⟩ := h.give (r := (20, 0)) ha (fun i hi => by injection hi with hi; have hi' : b = i := hi; subst hi'; exact ⟨hbb, hn⟩)
  exact ⟨h1, h2⟩
end
/-- An item of the law's own in the block z: its bytes lent, its items v so far. -/
structure ZAt (base : Nat) (X : World) (l : Bool) (n : Nat) (bs : List Nat) (g c z : Nat) (role : Role) (k : Nat) (W : World) (v : Value) (us : List Value) (xs : List Itm) : Prop where
  cell : W.heap[z]? = some (.cells #[.bool l, .slice (some ⟨g, 0, none⟩) n c, v] 56 (0, 0))
  keeps : Keeps base (base + 1) base role W k
  b8 : ∃ j, B8 role (8, j) W (.slice (some ⟨g, 0, none⟩) n c) bs
  zr : role z = some (20, 0)
  zb : base ≤ z
  row : AccG (fun b => SZ base role b ∧ b ≠ z) W base v us xs
  vr : ∀ b, v.ownBlock = some b → role b = some (20, 0) ∧ b ≠ z
  bel : Below base X W
section
variable {base : Nat} {X : World} {l : Bool} {n : Nat} {bs : List Nat} {g c z : Nat} {role role' : Role} {k k' : Nat} {W W' : World} {v : Value} {us : List Value} {xs : List Itm}
theorem ZAt.lent (h : ZAt base X l n bs g c z role k W v us xs) (hk : Keeps base (base + 1) base role' W' k') (he : Ext role role') (hc : ChgR (fun r => r.1 ≤ 7) role W W') (hb : Below base W W') : ZAt base X l n bs g c z role' k' W' v us xs := by
  obtain ⟨j, h8⟩ := h.b8
  exact ⟨(SZ.block (.inr ⟨_, h.zr, by decide⟩ : SZ base role z) hb hc (Array.getElem?_eq_some_iff.1 h.cell).1).trans h.cell, hk, ⟨j, h8.keep hc (by show ¬ 8 ≤ 7; omega) he⟩, he _ _ h.zr, h.zb, h.row.lent (fun b e => (h.vr b e).1) hb hc he, fun b e => ⟨he _ _ (h.vr b e).1, (h.vr b e).2⟩, h.bel.trans hb⟩
theorem ZAt.same (h : ZAt base X l n bs g c z role k W v us xs) (hb : Below W.heap.size W W') : ZAt base X l n bs g c z role k W' v us xs :=
  h.lent (h.keeps.below hb) (Ext.refl _) (ChgR.of _ role hb) (hb.mono h.keeps.old.1)
/-- An item more, and the items are stored. -/
theorem ZAt.grow {w2 : World} {v' : Value} {p q r : Value} {y : Itm} (h : ZAt base X l n bs g c z role k W v us xs) (hboth : IAt (fun b => (SZ base role b ∧ b ≠ z) ∧ v.ownBlock ≠ some b) W (.agg #[p, q, r]) y)
    (ho : w2.ownsRow base 56 3 v' (xs.length + 1) (us ++ [p, q, r])) (hg : W.grownBy w2 v.ownBlock) (hat : v'.ownBlock = v.ownBlock ∨ v'.ownBlock = some W.heap.size) :
    w2.heap[z]? = some (.cells #[.bool l, .slice (some ⟨g, 0, none⟩) n c, v] 56 (0, 0)) ∧ ∃ role', ZAt base X l n bs g c z role' k (w2.setCell ⟨z, 2, none⟩ v') v' (us ++ [p, q, r]) (xs ++ [y]) := by
  have hzl : z < W.heap.size := (Array.getElem?_eq_some_iff.1 h.cell).1
  have hzv : v.ownBlock ≠ some z := fun e => (h.vr z e).2 rfl
  have hcz := (hg.block z hzl (Ne.symm hzv)).trans h.cell
  refine ⟨hcz, ?_⟩
  have hrow := h.row.grow hboth ho hg hat
  -- the worlds
  have hc1 : ChgR (fun r => 20 ≤ r.1) role W w2 := (ChgR.refl _ role W).grown hg fun b e => .inr ⟨_, (h.vr b e).1, by decide⟩
  have hk2 := h.keeps.far hc1
  have hvb : ∀ b, v'.ownBlock = some b → base ≤ b ∧ b < w2.heap.size := fun b e => ho.lt b e
  have hvn : ∀ b, v'.ownBlock = some b → (role b = none ∨ role b = some (20, 0)) ∧ b ≠ z := fun b e => by
    rcases hat with e2 | e2
    · rw [e2] at e; exact ⟨.inr (h.vr b e).1, (h.vr b e).2⟩
    · rw [e2] at e; injection e with e; exact ⟨.inl (h.keeps.old.none (by omega)), by omega⟩
  obtain ⟨role', hk3, he3, hr3⟩ : ∃ role', Keeps base (base + 1) base role' w2 k ∧ Ext role role' ∧ ∀ b, v'.ownBlock = some b → role' b = some (20, 0) := by
    cases hv : v'.ownBlock with
    | none => exact ⟨role, hk2, Ext.refl _, fun b e => by cases e⟩
    | some b =>
      obtain ⟨k1, k2⟩ := hk2.block (b := b) (hvb b hv).2 (hvb b hv).1 (hvn b hv).1
      exact ⟨_, k1, k2, fun b' e => by injection e with e; subst e; exact g20_self _ _⟩
  obtain ⟨j, h8⟩ := h.b8
  have h8' := (h8.keep hc1 (by show ¬ 20 ≤ 8; omega) he3)
  have hc2 : ChgR (fun r => 20 ≤ r.1) role' w2 (w2.setCell ⟨z, 2, none⟩ v') := (ChgR.refl _ role' w2).set _ (he3 _ _ h.zr) (by decide)
  refine ⟨role', by have := heap_setCell_same w2 z 2 _ _ v' hcz; simpa using this, hk3.far hc2, ⟨j, h8'.keep hc2 (by show ¬ 20 ≤ 8; omega) (Ext.refl _)⟩, he3 _ _ h.zr, h.zb, ?_, fun b e => ⟨hr3 b e, (hvn b e).2⟩, (h.bel.grown hg h.keeps.old.1 fun b e => (h.row.own b e).1).setCell (p := ⟨z, 2, none⟩) h.zb _⟩
  refine ⟨⟨hrow.1.1, ?_⟩, fun j x hj => ?_⟩
  · rcases hrow.1.2 with h1 | ⟨g', cap, cur, e, hb', hh, r⟩
    · exact .inl h1
    · exact .inr ⟨g', cap, cur, e, hb', (Below.heap_setCell _ _ _ _ (hvn g' (by rw [e]; rfl)).2).trans hh, r⟩
  · exact (hrow.2 j x hj).move (by simp) (fun b _ hS => ⟨⟨hS.1.1.ext he3, hS.1.2⟩, hS.2⟩) fun p hp hlt => World.cell?_of_block (w := w2) (Below.heap_setCell _ _ _ _ hp.1.2)
end
/-- The same item, its bytes elsewhere. -/
theorem IAt.swap {S : Nat → Prop} {w : World} {p q r : Value} {l : Bool} {bs : List Nat} {xs : List Itm} (h : IAt S w (.agg #[p, q, r]) (.mk l bs xs)) {g c : Nat} (hr : Rd .u8 w (some ⟨g, 0, none⟩) c bs) (hS : S g) :
    IAt S w (.agg #[p, .slice (some ⟨g, 0, none⟩) bs.length c, r]) (.mk l bs xs) := by
  generalize hv : Value.agg #[p, q, r] = v at h
  cases h with
  | mk l A c' B cap b off u bs xs hA hd hAb hB hc hn hu hx =>
    injection hv with hv
    have h1 : p = .bool l := by have := congrArg (fun z : Array Value => z[0]?) hv; simpa using this
    have h2 : r = .slice B xs.length cap := by have := congrArg (fun z : Array Value => z[2]?) hv; simpa using this
    rw [h1, h2]
    exact .mk l _ c B cap b off u bs xs hr hd (fun _ => ⟨g, 0, rfl, hS⟩) hB hc hn hu hx
/-- A child of the law's own item: its bytes lent, the rest old. -/
theorem ZAt.child {base : Nat} {X : World} {l : Bool} {n : Nat} {bs : List Nat} {g c z : Nat} {role : Role} {k : Nat} {W : World} {v : Value} {us : List Value} {xs : List Itm} (h : ZAt base X l n bs g c z role k W v us xs) {p q r : Value} {l' : Bool} {bz : List Nat} {yz : List Itm}
    (hy : IAt (fun b => b < base) X (.agg #[p, q, r]) (.mk l' bz yz)) (hXs : X.heap.size = base) {g' c' n' j : Nat} (h8 : B8 role (8, j) W (.slice (some ⟨g', 0, none⟩) n' c') bz) : n' = bz.length ∧ IAt (fun b => (SZ base role b ∧ b ≠ z) ∧ v.ownBlock ≠ some b) W (.agg #[p, .slice (some ⟨g', 0, none⟩) n' c', r]) (.mk l' bz yz) := by
  have hn := h8.1.len
  refine ⟨hn, ?_⟩
  have hbX : Below X.heap.size X W := by rw [hXs]; exact h.bel
  have hy2 : IAt (fun b => (SZ base role b ∧ b ≠ z) ∧ v.ownBlock ≠ some b) W (.agg #[p, q, r]) (.mk l' bz yz) := (hy.keep hbX).mono fun b _ hb => ⟨⟨.inl hb, fun e => by have := h.zb; omega⟩, fun e => by have := (h.row.own b e).1; omega⟩
  have h8g := h8.2 g' rfl
  have := hy2.swap h8.1.rd ⟨⟨.inr ⟨_, h8g, by simp⟩, fun e => by rw [e, h.zr] at h8g; injection h8g with e2; injection e2 with e3 e4; omega⟩, fun e => by have := (h.vr g' e).1; rw [h8g] at this; injection this with e2; injection e2 with e3 e4; omega⟩
  rw [hn]
  exact this
end Go.Proofs.Ytgjiealcjaojaaa
namespace Go.Proofs.Ytgjiealcjaojaaa
open Go.RowKit

theorem lastB_ds (n k : Nat) : Ds 256 (lastB n k) := fun x hx => by
  unfold lastB at hx
  simp only [List.mem_map] at hx
  obtain ⟨i, _, rfl⟩ := hx
  exact Nat.mod_lt _ (by omega)
theorem hdB_ds {base n : Nat} (hb : base ≤ 192) (h : n ≤ 1099511627776) : Ds 256 (hdB base n) := by
  have := lsz_le h
  unfold hdB
  split
  · exact Ds.mk (by omega) Ds.nil
  · exact Ds.mk (by omega) (lastB_ds _ _)
theorem formL_ds : ∀ {xs : List Itm}, (∀ (j : Nat) (x : Itm), xs[j]? = some x → Ds 256 (form x)) → Ds 256 (formL xs)
  | [], _ => by rw [formL]; exact Ds.nil
  | x :: xs, h => by rw [formL]; exact (h 0 x rfl).append (formL_ds fun j y hj => h (j + 1) y (by simpa using hj))
theorem IAt.form_ds {S : Nat → Prop} {w : World} {v : Value} {x : Itm} (h : IAt S w v x) : fsz x ≤ 1099511627776 → Ds 256 (form x) := by
  induction h with
  | mk l A c B cap b off u bs xs hA hd hAb hB hc hn hu hx ih =>
    intro hs
    rw [fsz] at hs
    rw [form]
    by_cases hl : l = true
    · rw [if_pos hl] at hs ⊢
      exact (hdB_ds (by omega) (by omega)).append (formL_ds fun j x hj => ih j x hj (by have := fsz_le hj; omega))
    · rw [if_neg hl] at hs ⊢
      unfold formT
      split
      · exact hd
      · unfold tsz at hs
        rename_i hb
        rw [if_neg hb] at hs
        exact (hdB_ds (by omega) (by omega)).append hd
end Go.Proofs.Ytgjiealcjaojaaa
namespace Go.Proofs.Ytgjiealcjaojaaa
open Go.RowKit

/-- The item under way, as it stands. -/
theorem ZAt.item {base : Nat} {X : World} {l : Bool} {n : Nat} {bs : List Nat} {g c z : Nat} {role : Role} {k : Nat} {W : World} {B : Option Addr} {m cap : Nat} {us : List Value} {xs : List Itm} (h : ZAt base X l n bs g c z role k W (.slice B m cap) us xs) :
    IAt (SZ base role) W (.agg #[.bool l, .slice (some ⟨g, 0, none⟩) n c, .slice B m cap]) (.mk l bs xs) := by
  obtain ⟨j0, h8⟩ := h.b8
  obtain ⟨A, c', e, hr, hd⟩ := h8.1.byt
  injection e with e1 e2 e3
  subst e1 e2 e3
  have hS : SZ base role g := .inr ⟨_, h8.2 g rfl, by simp⟩
  have hl := h.row.1.1
  rcases h.row.1.2 with ⟨e, h0⟩ | ⟨b, cap', cur, e, hb, hg, hn, hm, hs, ht⟩
  · injection e with e1 e2 e3
    have : xs = [] := List.eq_nil_of_length_eq_zero h0
    subst e1 e2 e3 this
    exact .mk l _ c none 0 0 0 (fun _ => undef) bs [] hr hd (fun _ => ⟨g, 0, rfl, hS⟩) (fun h => absurd h (by simp)) (Nat.le_refl _) (fun _ => rfl) (fun j hj => absurd hj (by simp)) (fun j x hj => by simp at hj)
  · injection e with e1 e2 e3
    subst e1 e2 e3
    refine .mk l _ c (some ⟨b, 0, none⟩) cap b 0 (fun j => us.getD j undef) bs xs hr hd (fun _ => ⟨g, 0, rfl, hS⟩) (fun _ => ⟨rfl, (Array.getElem?_eq_some_iff.1 hg).1, .inr ⟨_, (h.vr b rfl).1, by decide⟩⟩) hn (fun e => by cases e) (fun j hj => ?_) (fun j x hj => (h.row.2 j x hj).mono fun _ _ hh => hh.1.1)
    rw [Nat.zero_add, cell_of_row W b j cur _ (0, 0) hg, ← Array.getElem?_toList]
    have h1 : us[j]? = cur.toList[j]? := by rw [← ht, List.getElem?_take_of_lt (by omega)]
    have h2 : us[j]? = some (us.getD j undef) := by
      rw [List.getD_eq_getElem?_getD, List.getElem?_eq_getElem (by omega)]; rfl
    rw [← h1, h2]

/-- What a call has told is nobody's yet. -/
theorem Keeps.frees {base gb gl k : Nat} {role : Role} {w w2 : World} (h : Keeps base gb gl role w k) {v : Value} {bs : List Nat} (ha : OwnB w.heap.size w2 v bs) : ∀ i, v.ownBlock = some i → base ≤ i ∧ role i = none := fun i hi => by
  have h1 := ha.2 i hi
  exact ⟨Nat.le_trans h.old.1 h1, h.old.none h1⟩

/-- Encode: what it tells is the caller's own, and no longer than the form. -/
theorem encode_o {S : Nat → Prop} (x : Itm) (vx : Value) (w : World) (hx : IAt S w vx x) (hs : fsz x ≤ 16777216) :
    Calls Try.prog 27 #[vx] w (fun e w' => Below w.heap.size w w' ∧ ∃ (v : Value) (c : Nat) (zs : List Nat), e = .returned (.tuple #[v, .int .i64 c]) ∧ OwnB w.heap.size w' v zs ∧ zs.length ≤ fsz x) := by
  refine (encode_c x vx w hx hs).mono fun e w' ⟨hb, h⟩ => ⟨hb, ?_⟩
  rcases h with ⟨_, v, rfl, ha⟩ | ⟨_, rfl⟩
  · exact ⟨v, 0, form x, rfl, OwnB.of ha (hx.form_ds (by omega)), by rw [form_len]; omega⟩
  · exact ⟨_, 7, [], rfl, OwnB.nil _ _, Nat.zero_le _⟩

/-- What a call has told is nobody's still, when another list has been kept. -/
theorem free_still2 {base : Nat} {role role' : Role} {w w' : World} {u v : Value} {bs : List Nat} (hv : AccO w v bs) (hn : ∀ i, v.ownBlock = some i → base ≤ i ∧ role i = none) (hne : ∀ i, u.ownBlock = some i → v.ownBlock ≠ some i) (he : ∀ i, i < w.heap.size → u.ownBlock ≠ some i → role' i = role i) (hc : ChgR (fun r => r.1 ≤ 7) role w w') :
    AccO w' v bs ∧ ∀ i, v.ownBlock = some i → base ≤ i ∧ role' i = none :=
  ⟨hv.move hc.size fun i hi => hc.block i (hv.lt i hi) fun r e => (by rw [(hn i hi).2] at e; cases e), fun i hi => ⟨(hn i hi).1, by rw [he i (hv.lt i hi) (fun h => hne i h hi)]; exact (hn i hi).2⟩⟩
/-! What Decode has told: its row and its own block get the role 30; the bytes of its items are nobody's yet. -/
section
variable {base gb gl : Nat} {role role' : Role} {w w' : World} {k : Nat}
def g30 (role : Role) (b : Nat) : Role := upd role (.slice (some ⟨b, 0, none⟩) 0 0) (30, 0)
theorem g30_self (role : Role) (b : Nat) : g30 role b b = some (30, 0) := upd_self _ _ _ rfl
theorem g30_old {b i : Nat} (h : i ≠ b) : g30 role b i = role i := upd_old _ _ _ (by intro e; injection e with e; exact h e.symm)
theorem Keeps.block30 (h : Keeps base gb gl role w k) {b : Nat} (hb : b < w.heap.size) (hbb : base ≤ b) (hn : role b = none ∨ role b = some (30, 0)) : Keeps base gb gl (g30 role b) w k ∧ Ext role (g30 role b) := by
  have ha : AccO w (.slice (some ⟨b, 0, none⟩) 0 0) [] := ⟨Ds.nil, .inr ⟨b, 0, 0, rfl, by simp, Nat.zero_le _, hb, fun j hj => by omega, fun j hj => by simp at hj⟩⟩
  obtain ⟨h1, h2, _⟩ := h.give (r := (30, 0)) ha (fun i hi => by injection hi with hi; have hi' : b = i := hi; subst hi'; exact ⟨hbb, hn⟩)
  exact ⟨h1, h2⟩
theorem SZ.off {b : Nat} (h : SZ base role b) (hb : Below base w w') (hc : ChgR (fun r => 30 ≤ r.1) role w w') (hlt : b < w.heap.size) : w'.heap[b]? = w.heap[b]? := by
  rcases h with h | ⟨r, h1, h2⟩
  · exact hb.block b h
  · exact hc.block b hlt fun s e hs => by rw [h1] at e; injection e with e; subst e; have : 30 ≤ r.1 := hs; omega
/-- The law's own item stands while blocks of the role 30 are turned. -/
theorem ZAt.off {X : World} {l : Bool} {n : Nat} {bs : List Nat} {g c z : Nat} {W W' : World} {v : Value} {us : List Value} {xs : List Itm} (h : ZAt base X l n bs g c z role k W v us xs) (hc : ChgR (fun r => 30 ≤ r.1) role W W') (hb : Below base W W') : ZAt base X l n bs g c z role k W' v us xs := by
  obtain ⟨j, h8⟩ := h.b8
  refine ⟨(SZ.off (.inr ⟨_, h.zr, by decide⟩ : SZ base role z) hb hc (Array.getElem?_eq_some_iff.1 h.cell).1).trans h.cell, h.keeps.far (hc.mono fun r hr => by have : 30 ≤ r.1 := hr; show 20 ≤ r.1; omega), ⟨j, h8.keep hc (by show ¬ 30 ≤ 8; omega) (Ext.refl _)⟩, h.zr, h.zb, ?_, h.vr, h.bel.trans hb⟩
  refine h.row.move hc.size (fun _ _ hS => hS) fun b hlt hP => ?_
  rcases hP with hP | hP
  · exact hP.1.off hb hc hlt
  · exact SZ.off (.inr ⟨_, (h.vr b hP).1, by decide⟩) hb hc hlt
end
/-- What Decode has told, its items from i on not kept yet. -/
structure WAt (base gw : Nat) (role : Role) (W : World) (l : Bool) (v : Value) (B : Option Addr) (m cap : Nat) (u : Nat → Value) (i : Nat) : Prop where
  cell : W.heap[gw]? = some (.cells #[.bool l, v, .slice B m cap] 56 (0, 0))
  gr : role gw = some (30, 0)
  row : 0 < m → ∃ b, B = some ⟨b, 0, none⟩ ∧ role b = some (30, 0) ∧ b ≠ gw ∧ b < W.heap.size ∧ ∀ j, j < m → (∃ t, W.cell? ⟨b, j * 3, none⟩ = some t) ∧ W.cell? ⟨b, j * 3 + 1, none⟩ = some (u j) ∧ W.frozen? ⟨b, j * 3, none⟩ = false
  kids : ∀ j, i ≤ j → j < m → ∃ bs, AccO W (u j) bs ∧ bs.length ≤ 16777216 ∧ (∀ k, (u j).ownBlock = some k → base ≤ k ∧ role k = none) ∧ ∀ i', i ≤ i' → i' < j → ∀ k, (u i').ownBlock = some k → (u j).ownBlock ≠ some k
section
variable {base gw : Nat} {role role' : Role} {W W' : World} {l : Bool} {v : Value} {B : Option Addr} {m cap : Nat} {u : Nat → Value} {i : Nat}
/-- It stands while a list is kept that is none of its items' from i' on. -/
theorem WAt.kept (h : WAt base gw role W l v B m cap u i) {x : Value} {i' : Nat} (hi : i ≤ i') (hne : ∀ j, i' ≤ j → j < m → ∀ k, x.ownBlock = some k → (u j).ownBlock ≠ some k) (he : Ext role role') (her : ∀ k, k < W.heap.size → x.ownBlock ≠ some k → role' k = role k) (hc : ChgR (fun r => r.1 ≤ 7) role W W') : WAt base gw role' W' l v B m cap u i' := by
  have h30 : ∀ b, role b = some (30, 0) → b < W.heap.size → W'.heap[b]? = W.heap[b]? := fun b hb hlt => hc.block b hlt fun r e hr => by rw [hb] at e; injection e with e; subst e; have : (30 : Nat) ≤ 7 := hr; omega
  refine ⟨(h30 gw h.gr (Array.getElem?_eq_some_iff.1 h.cell).1).trans h.cell, he _ _ h.gr, fun hm => ?_, fun j hj hjm => ?_⟩
  · obtain ⟨b, e, h1, h2, h3, h4⟩ := h.row hm
    have hbl := h30 b h1 h3
    refine ⟨b, e, he _ _ h1, h2, Nat.lt_of_lt_of_le h3 hc.size, fun j hj => ?_⟩
    obtain ⟨⟨t, q1⟩, q2, q3⟩ := h4 j hj
    exact ⟨⟨t, (World.cell?_of_block (w := W) (a := ⟨b, j * 3, none⟩) hbl).trans q1⟩, (World.cell?_of_block (w := W) (a := ⟨b, j * 3 + 1, none⟩) hbl).trans q2, (World.frozen?_of_block (w := W) (a := ⟨b, j * 3, none⟩) hbl).trans q3⟩
  · obtain ⟨bs, h1, h2, h3, h4⟩ := h.kids j (by omega) hjm
    exact ⟨bs, h1.move hc.size fun k hk => hc.block k (h1.lt k hk) fun r e => (by rw [(h3 k hk).2] at e; cases e), h2, fun k hk => ⟨(h3 k hk).1, by rw [her k (h1.lt k hk) (fun e => hne j hj hjm k e hk)]; exact (h3 k hk).2⟩, fun i2 h5 h6 => h4 i2 (by omega) h6⟩
/-- The first cell of an item is turned. -/
theorem WAt.turn (h : WAt base gw role W l v B m cap u i) {j0 : Nat} (hj : j0 < m) {b : Nat} (hB : B = some ⟨b, 0, none⟩) (x : Value) : WAt base gw role (W.setCell ⟨b, j0 * 3, none⟩ x) l v B m cap u i ∧ ChgR (fun r => 30 ≤ r.1) role W (W.setCell ⟨b, j0 * 3, none⟩ x) := by
  obtain ⟨b2, e, h1, h2, h3, h4⟩ := h.row (by omega)
  rw [hB] at e
  injection e with e
  injection e with e
  subst e
  obtain ⟨⟨t0, r1⟩, r2, r3⟩ := h4 j0 hj
  have hc : ChgR (fun r => 30 ≤ r.1) role W (W.setCell ⟨b, j0 * 3, none⟩ x) := (ChgR.refl _ role W).set x h1 (by decide)
  refine ⟨⟨(Below.heap_setCell _ _ _ _ (fun e => h2 (by first | exact e | exact e.symm))).trans h.cell, h.gr, fun hm => ⟨b, hB, h1, h2, by simpa using h3, fun j hj' => ?_⟩, fun j hj' hjm => ?_⟩, hc⟩
  · obtain ⟨⟨t, q1⟩, q2, q3⟩ := h4 j hj'
    refine ⟨?_, ?_, ?_⟩
    · by_cases hjj : j = j0
      · subst hjj
        exact ⟨x, World.cell?_setCell_same' _ _ _ (by rw [q1]; rfl)⟩
      · exact ⟨t, (World.cell?_setCell_other _ _ _ _ (by intro e; injection e with e1 e2; omega)).trans q1⟩
    · exact (World.cell?_setCell_other _ _ _ _ (by intro e; injection e with e1 e2; omega)).trans q2
    · simpa using q3
  · obtain ⟨bs, q1, q2, q3, q4⟩ := h.kids j hj' hjm
    refine ⟨bs, q1.move hc.size fun k hk => hc.block k (q1.lt k hk) fun r e => (by rw [(q3 k hk).2] at e; cases e), q2, q3, q4⟩
end
/-- A row of items is no list of bytes. -/
theorem row_no_acc {w : World} {base base2 : Nat} {v u : Value} {n : Nat} {us : List Value} {bs : List Nat} (h : w.ownsRow base 56 3 v n us) (hb : Acc w base2 u bs) : ∀ k, v.ownBlock = some k → u.ownBlock ≠ some k := fun k hk he => by
  rcases h.2 with ⟨e, _⟩ | ⟨g, c, cur, e, _, hg, _⟩
  · rw [e] at hk; cases hk
  · rcases hb.2 with ⟨e2, _⟩ | ⟨g2, c2, cur2, e2, _, hg2, _⟩
    · rw [e2] at he; cases he
    · rw [e] at hk
      rw [e2] at he
      injection hk with hk
      injection he with he
      subst hk
      have he' : g2 = g := he
      subst he'
      rw [hg] at hg2
      injection hg2 with hg2
      injection hg2 with _ h2
      exact absurd h2 (by decide)
/-- It begins: Decode has told it in w1, and it lies in a block of the law's own. -/
theorem wat_new {base gb gl k : Nat} {role : Role} {w8 w1 : World} (h : Keeps base gb gl role w8 k) (hb : Below w8.heap.size w8 w1) {l : Bool} {v : Value} {B : Option Addr} {m cap : Nat} {us : List Value} (hrow : w1.ownsRow w8.heap.size 56 3 (.slice B m cap) m us) (hkids : Kids w1 w8.heap.size us m) :
    ∃ role' : Role, Keeps base gb gl role' (w1.alloc (.cells #[.bool l, v, .slice B m cap] 56)) k ∧ Ext role role' ∧ (∀ i, role' i ≠ role i → i = w1.heap.size ∨ (0 < m ∧ (Value.slice B m cap).ownBlock = some i)) ∧
      WAt base w1.heap.size role' (w1.alloc (.cells #[.bool l, v, .slice B m cap] 56)) l v B m cap (fun j => us.getD (3 * j + 1) undef) 0 := by
  have hW := (Below.refl w1.heap.size w1).alloc (Nat.le_refl _) (.cells #[.bool l, v, .slice B m cap] 56)
  have hsz : w1.heap.size < (w1.alloc (.cells #[.bool l, v, .slice B m cap] 56)).heap.size := by simp
  have hle := hb.size
  have ho := h.old
  obtain ⟨k1, x1⟩ := ((h.below hb).below hW).block30 (b := w1.heap.size) hsz (by have := ho.1; omega) (.inl (ho.none hle))
  have hkid : ∀ (role' : Role), (∀ i, role' i ≠ role i → i = w1.heap.size ∨ (0 < m ∧ (Value.slice B m cap).ownBlock = some i)) → ∀ j, 0 ≤ j → j < m → ∃ bs, AccO (w1.alloc (.cells #[.bool l, v, .slice B m cap] 56)) (us.getD (3 * j + 1) undef) bs ∧ bs.length ≤ 16777216 ∧ (∀ k, (us.getD (3 * j + 1) undef).ownBlock = some k → base ≤ k ∧ role' k = none) ∧ ∀ i', 0 ≤ i' → i' < j → ∀ k, (us.getD (3 * i' + 1) undef).ownBlock = some k → (us.getD (3 * j + 1) undef).ownBlock ≠ some k := fun role' hr j _ hj => by
    obtain ⟨bs, q1, q2, q3, q4⟩ := hkids j hj
    refine ⟨bs, (AccO.of q1 q2).below hW, q3, fun k hk => ?_, fun i' _ hi' => q4 i' k hi' |> fun _ => fun k hk => q4 i' k hi' hk⟩
    have hk1 := q1.own k hk
    refine ⟨by have := ho.1; omega, ?_⟩
    have hlt := (AccO.of q1 q2).lt k hk
    by_cases e : role' k = role k
    · rw [e]; exact ho.none hk1
    · exfalso
      rcases hr k e with h1 | ⟨_, h1⟩
      · omega
      · exact (row_no_acc hrow q1) k h1 hk
  by_cases hm : 0 < m
  · rcases hrow.2 with ⟨_, h0⟩ | ⟨b, cap', cur, e, hbb, hg, hn, hmm, hs, ht⟩
    · omega
    · injection e with e1 e2 e3
      subst e1 e3
      have hbl : b < w1.heap.size := (Array.getElem?_eq_some_iff.1 hg).1
      have hne : b ≠ w1.heap.size := by omega
      obtain ⟨k2, x2⟩ := k1.block30 (b := b) (by omega) (by have := ho.1; omega) (.inl (by rw [g30_old hne]; exact ho.none hbb))
      have hdiff : ∀ i, g30 (g30 role w1.heap.size) b i ≠ role i → i = w1.heap.size ∨ (0 < m ∧ (Value.slice (some ⟨b, 0, none⟩) m cap).ownBlock = some i) := fun i hi => by
        by_cases h1 : i = w1.heap.size
        · exact .inl h1
        · by_cases h2 : i = b
          · subst h2; exact .inr ⟨hm, rfl⟩
          · rw [g30_old h2, g30_old h1] at hi; exact absurd rfl hi
      refine ⟨_, k2, x1.trans x2, hdiff, ⟨heap_alloc_new _ _, x2 _ _ (g30_self _ _), fun _ => ⟨b, rfl, g30_self _ _, hne, by omega, fun j hj => ?_⟩, hkid _ hdiff⟩⟩
      have hg' := (hW.block b hbl).trans hg
      refine ⟨?_, ?_, ?_⟩
      · exact ⟨cur[j * 3]'(by omega), by rw [cell_of_row _ b (j * 3) cur _ (0, 0) hg', Array.getElem?_eq_getElem]⟩
      · rw [cell_of_row _ b (j * 3 + 1) cur _ (0, 0) hg', ← Array.getElem?_toList]
        have hl := hrow.1
        have h1 : us[j * 3 + 1]? = cur.toList[j * 3 + 1]? := by rw [← ht, List.getElem?_take_of_lt (by omega)]
        rw [← h1, List.getD_eq_getElem?_getD, show 3 * j + 1 = j * 3 + 1 by omega, List.getElem?_eq_getElem (by omega)]
        rfl
      · exact frozen_of_row _ _ _ _ _ hg'
  · have hdiff : ∀ i, g30 role w1.heap.size i ≠ role i → i = w1.heap.size ∨ (0 < m ∧ (Value.slice B m cap).ownBlock = some i) := fun i hi => by
      by_cases h1 : i = w1.heap.size
      · exact .inl h1
      · rw [g30_old h1] at hi; exact absurd rfl hi
    exact ⟨_, k1, x1, hdiff, ⟨heap_alloc_new _ _, g30_self _ _, fun h => absurd h hm, hkid _ hdiff⟩⟩
end Go.Proofs.Ytgjiealcjaojaaa
