/- A Loan of quarrykeep alone, and rows of ints beside it that the law itself turns. -/
import Derived.Test.YtopeahjdglkheaaDoorOwn8
import Derived.Test.YtopeahjdglkheaaDoorTwin
import Derived.ArgAppend
import Derived.Maps.AppendAt
import Derived.Laws.AppendOwnNone
import Derived.Deep.DeepCutAuto
import Derived.Deep.CutBlock
import Derived.RegionTactic
import Derived.BigRegion
import Derived.BigQuiet
import Derived.Deep.RegionLaw
import Derived.Test.YtopeahjdglkheaaDoorOpsS
import Derived.Deep.QuietTactic
import Derived.Deep.Onto
import Derived.Laws.OwnMore
namespace Go.Proofs.YtopeahjdglkheaaDoor
open Go.RowKit

section
variable {w w' : World} {base n c g o : Nat} {A : Option Addr} {v : Value} {bs : List Nat}
theorem size_setCells' (b : Nat) : ∀ (vs : List Value) (o : Nat) (w : World), (w.setCells b o vs).heap.size = w.heap.size
  | [], _, _ => rfl
  | v :: r, o, w => by rw [World.setCells, size_setCells' b r]; simp [World.setCell]
theorem cell_some_set (w : World) (a b : Addr) (x : Value) (h : (w.cell? a).isSome = true) : ((w.setCell b x).cell? a).isSome = true := by
  obtain ⟨u, hu⟩ := Option.isSome_iff_exists.1 h
  obtain ⟨u', hu'⟩ := cell?_setCell_some (p := b) (x := x) hu
  rw [hu']; rfl
theorem cell_some_sets (b : Nat) : ∀ (vs : List Value) (o : Nat) (w : World) (a : Addr), (w.cell? a).isSome = true → ((w.setCells b o vs).cell? a).isSome = true
  | [], _, _, _, h => h
  | v :: r, o, w, a, h => cell_some_sets b r (o + 1) _ a (cell_some_set w a _ v h)
/-- The same cells, some of them turned: what the slice, or one that begins there too, reads then. -/
theorem AccO.put (h : AccO w (.slice (some ⟨g, o, none⟩) n c) bs) (p : Nat) (vs bs' : List Nat) (hd : Ds 256 bs') (hp : p + vs.length ≤ c) (hl : bs'.length ≤ c)
    (hv : ∀ j, j < bs'.length → (p ≤ j ∧ j < p + vs.length ∧ bs'.getD j 0 = vs.getD (j - p) 0) ∨ ((j < p ∨ p + vs.length ≤ j) ∧ j < bs.length ∧ bs'.getD j 0 = bs.getD j 0)) :
    AccO (w.setCells g (o + p) (bv vs)) (.slice (some ⟨g, o, none⟩) bs'.length c) bs' := by
  rcases h.2 with ⟨e, rfl⟩ | ⟨g', o', cap, e, h1, h2, h3, h4, h5⟩
  · cases e
  · injection e with e1 e2 e3
    injection e1 with e1
    injection e1 with e1 e4
    subst e1 e3 e4
    refine ⟨hd, .inr ⟨g, o, c, rfl, hl, h2, by rw [size_setCells']; exact h3, fun j hj => ⟨cell_some_sets _ _ _ _ _ (h4 j hj).1, by rw [World.frozen?_setCells]; exact (h4 j hj).2⟩, fun j hj => ?_⟩⟩
    rcases hv j hj with ⟨q1, q2, q3⟩ | ⟨q1, q2, q3⟩
    · have hin := World.cell?_setCells_in g (bv vs) (o + p) w (fun i hi => by rw [bv_length] at hi; rw [Nat.add_assoc]; exact (h4 (p + i) (by omega)).1) (j - p) (by rw [bv_length]; omega)
      rw [show o + p + (j - p) = o + j by omega] at hin
      rw [hin, q3, ← List.getElem?_eq_getElem, bv_get vs (j - p) (by omega)]
    · rw [World.cell?_setCells_out g (bv vs) (o + p) w ⟨g, o + j, none⟩ (fun _ _ => by rw [bv_length]; simp only; omega), h5 j q2, q3]
theorem AccO.room (h : AccO w (.slice (some ⟨g, o, none⟩) bs.length c) bs) (vs : List Nat) (hd : Ds 256 vs) (hp : bs.length + vs.length ≤ c) :
    AccO (w.setCells g (o + bs.length) (bv vs)) (.slice (some ⟨g, o, none⟩) (bs.length + vs.length) c) (bs ++ vs) := by
  have := h.put bs.length vs (bs ++ vs) (h.1.append hd) hp (by rw [List.length_append]; exact hp) (fun j hj => by
    rw [List.length_append] at hj
    rcases Nat.lt_or_ge j bs.length with hlt | hge
    · right; exact ⟨.inl hlt, hlt, by rw [List.getD_eq_getElem?_getD, List.getD_eq_getElem?_getD, List.getElem?_append_left hlt]⟩
    · left; exact ⟨hge, hj, by rw [List.getD_eq_getElem?_getD, List.getD_eq_getElem?_getD, List.getElem?_append_right hge]⟩)
  rwa [List.length_append] at this
theorem AccO.over (h : AccO w (.slice (some ⟨g, o, none⟩) bs.length c) bs) (p : Nat) (vs : List Nat) (hb : bs.length ≤ p) (hp : p + vs.length ≤ c) :
    AccO (w.setCells g (o + p) (bv vs)) (.slice (some ⟨g, o, none⟩) bs.length c) bs :=
  h.put p vs bs h.1 hp (by omega) (fun j hj => .inr ⟨.inl (by omega), hj, rfl⟩)
theorem AccO.set (h : AccO w (.slice (some ⟨g, o, none⟩) n c) bs) (j y : Nat) (hj : j < bs.length) (hy : y < 256) : AccO (w.setCell ⟨g, o + j, none⟩ (.int .u8 (y : Int))) (.slice (some ⟨g, o, none⟩) n c) (bs.set j y) := by
  have hn : n = bs.length ∧ bs.length ≤ c := by
    rcases h.2 with ⟨e, _⟩ | ⟨_, _, _, e, h1, _⟩
    · cases e
    · injection e with e1 e2 e3; subst e2 e3; exact ⟨rfl, h1⟩
  have := h.put j [y] (bs.set j y) (h.1.set j y hy) (by simp; omega) (by rw [List.length_set]; omega) (fun i hi => by
    rw [List.length_set] at hi
    by_cases e : i = j
    · left; subst e; exact ⟨Nat.le_refl _, by simp, by simp [List.getD_eq_getElem?_getD, hi]⟩
    · right; exact ⟨by simp; omega, hi, by simp [List.getD_eq_getElem?_getD, Ne.symm e]⟩)
  rw [List.length_set, ← hn.1] at this
  exact this
end

/-- A piece from the start. -/
theorem AccO.take {w : World} {g o n c m : Nat} {bs : List Nat} (h : AccO w (.slice (some ⟨g, o, none⟩) n c) bs) (hm : m ≤ bs.length) : AccO w (.slice (some ⟨g, o, none⟩) m c) (bs.take m) := by
  have hl : (bs.take m).length = m := by rw [List.length_take]; omega
  rcases h.2 with ⟨e, _⟩ | ⟨g', o', cap, e, h1, h2, h3, h4, h5⟩
  · cases e
  · injection e with e1 e2 e3
    injection e1 with e1
    injection e1 with e1 e4
    subst e1 e3 e4
    refine ⟨h.1.take m, .inr ⟨g, o, c, by rw [hl], by omega, h2, h3, h4, fun j hj => ?_⟩⟩
    rw [hl] at hj
    rw [h5 j (by omega)]
    congr 3
    rw [List.getD_eq_getElem?_getD, List.getD_eq_getElem?_getD, List.getElem?_take, if_pos hj]

/-! ## Roles -/
abbrev Role := Nat → Option (Nat × Nat)
/-- Blocks that bear a role are there, from base on. -/
def Old (role : Role) (base : Nat) (w : World) : Prop := base ≤ w.heap.size ∧ ∀ k r, role k = some r → base ≤ k ∧ k < w.heap.size
def Ext (role role' : Role) : Prop := ∀ k r, role k = some r → role' k = some r
theorem Ext.refl (role : Role) : Ext role role := fun _ _ h => h
theorem Ext.trans {a b c : Role} (h : Ext a b) (k : Ext b c) : Ext a c := fun i r hi => k i r (h i r hi)
/-- Of what was there, blocks of the roles P alone have changed. -/
structure ChgR (P : Nat × Nat → Prop) (role : Role) (w w' : World) : Prop where
  os : w'.os = w.os
  tape : w'.tape = w.tape
  output : w'.output = w.output
  size : w.heap.size ≤ w'.heap.size
  block : ∀ k, k < w.heap.size → (∀ r, role k = some r → ¬ P r) → w'.heap[k]? = w.heap[k]?
section
variable {P P' : Nat × Nat → Prop} {role role' : Role} {w w' w2 : World} {base : Nat}
theorem ChgR.refl (P : Nat × Nat → Prop) (role : Role) (w : World) : ChgR P role w w := ⟨rfl, rfl, rfl, Nat.le_refl _, fun _ _ _ => rfl⟩
theorem ChgR.of (P : Nat × Nat → Prop) (role : Role) (h : Below w.heap.size w w') : ChgR P role w w' := ⟨h.os, h.tape, h.output, h.size, fun k hk _ => h.block k hk⟩
theorem ChgR.mono (h : ChgR P role w w') (hP : ∀ r, P r → P' r) : ChgR P' role w w' := ⟨h.os, h.tape, h.output, h.size, fun k hk hr => h.block k hk fun r e hp => hr r e (hP r hp)⟩
/-- Two changes, behind the first of which blocks have got roles: new ones, or ones that P' speaks of. -/
theorem ChgR.trans (h : ChgR P role w w') (k : ChgR P role' w' w2) (he : ∀ i r, i < w.heap.size → role' i = some r → P r → ∃ r', role i = some r' ∧ P r') : ChgR P role w w2 :=
  ⟨k.os.trans h.os, k.tape.trans h.tape, k.output.trans h.output, Nat.le_trans h.size k.size, fun i hi hr => (k.block i (Nat.lt_of_lt_of_le hi h.size) fun r e hp => by
    obtain ⟨r', e', hp'⟩ := he i r hi e hp
    exact hr r' e' hp').trans (h.block i hi hr)⟩
theorem ChgR.same (h : ChgR P role w w') (k : ChgR P role w' w2) : ChgR P role w w2 := h.trans k fun _ r _ e hp => ⟨r, e, hp⟩
theorem ChgR.below (h : ChgR P role w w') (ho : Old role base w) : Below base w w' := ⟨h.os, h.tape, h.output, h.size, fun k hk => h.block k (by have := ho.1; omega) fun r e _ => by have := (ho.2 k r e).1; omega⟩
theorem ChgR.set (h : ChgR P role w w') {g j : Nat} {r : Nat × Nat} (v : Value) (hg : role g = some r) (hp : P r) : ChgR P role w (w'.setCell ⟨g, j, none⟩ v) :=
  ⟨h.os, h.tape, h.output, by simpa using h.size, fun i hi hr => (Below.heap_setCell _ _ _ _ (fun e => by subst e; exact hr r hg hp)).trans (h.block i hi hr)⟩
theorem ChgR.new (h : ChgR P role w w') {g j : Nat} (v : Value) (hg : w.heap.size ≤ g) : ChgR P role w (w'.setCell ⟨g, j, none⟩ v) :=
  ⟨h.os, h.tape, h.output, by simpa using h.size, fun i hi hr => (Below.heap_setCell _ _ _ _ (fun e => by have e' : i = g := e; omega)).trans (h.block i hi hr)⟩
theorem ChgR.grown {row : Option Nat} (h : ChgR P role w w') (hg : w'.grownBy w2 row) (hr : ∀ k, row = some k → w.heap.size ≤ k ∨ ∃ r, role k = some r ∧ P r) : ChgR P role w w2 :=
  ⟨hg.os.trans h.os, hg.tape.trans h.tape, hg.output.trans h.output, Nat.le_trans h.size hg.size, fun i hi hq => (hg.block i (Nat.lt_of_lt_of_le hi h.size) fun e => by
    rcases hr i e.symm with h1 | ⟨r, h1, h2⟩
    · omega
    · exact hq r h1 h2).trans (h.block i hi hq)⟩
theorem ChgR.alloc (h : ChgR P role w w') (ob : Obj) : ChgR P role w (w'.alloc ob) := h.grown (World.grownBy_alloc w' ob none) (fun _ e => by cases e)
theorem ChgR.drew (h : ChgR P role w w') : ChgR P role w w'.drew := ⟨h.os, h.tape, h.output, h.size, h.block⟩
theorem ChgR.drewN (h : ChgR P role w w') (n : Nat) : ChgR P role w (w'.drewN n) := ⟨h.os, h.tape, h.output, h.size, h.block⟩
theorem Old.grow (h : Old role base w) (hs : w.heap.size ≤ w'.heap.size) : Old role base w' := ⟨Nat.le_trans h.1 hs, fun k r e => ⟨(h.2 k r e).1, Nat.lt_of_lt_of_le (h.2 k r e).2 hs⟩⟩
end
/-- A slice of bytes in a block of the role r. -/
def B8 (role : Role) (r : Nat × Nat) (w : World) (v : Value) (bs : List Nat) : Prop := AccO w v bs ∧ ∀ k, v.ownBlock = some k → role k = some r
/-- A slice of slices, in a block of the role r. -/
def SS (role : Role) (r : Nat × Nat) (w : World) (v : Value) (us : List Value) : Prop := w.ownsRow 0 31 1 v us.length us ∧ ∀ k, v.ownBlock = some k → role k = some r
section
variable {P : Nat × Nat → Prop} {role role' : Role} {r : Nat × Nat} {w w' : World} {v : Value} {bs : List Nat} {us : List Value}
theorem B8.keep (h : B8 role r w v bs) (hc : ChgR P role w w') (hp : ¬ P r) (he : Ext role role') : B8 role' r w' v bs :=
  ⟨h.1.move hc.size fun k hk => hc.block k (h.1.lt k hk) fun r' e hp' => by rw [h.2 k hk] at e; injection e with e; subst e; exact hp hp', fun k hk => he k r (h.2 k hk)⟩
theorem SS.keep (h : SS role r w v us) (hc : ChgR P role w w') (hp : ¬ P r) (he : Ext role role') : SS role' r w' v us := by
  refine ⟨⟨h.1.1, ?_⟩, fun k hk => he k r (h.2 k hk)⟩
  rcases h.1.2 with h1 | ⟨g, cap, cur, e, hb, hg, rest⟩
  · exact .inl h1
  · exact .inr ⟨g, cap, cur, e, hb, (hc.block g (Array.getElem?_eq_some_iff.1 hg).1 fun r' e' hp' => by rw [h.2 g (by rw [e]; rfl)] at e'; injection e' with e'; subst e'; exact hp hp').trans hg, rest⟩
theorem SS.nil (role : Role) (r : Nat × Nat) (w : World) : SS role r w (.slice none 0 0) [] := ⟨World.ownsRow_nil _ _ _ _, fun k h => by cases h⟩
theorem SS.form (h : SS role r w v us) : ∃ A c, v = .slice A us.length c := by
  rcases h.1.2 with ⟨e, h0⟩ | ⟨g, cap, cur, e, _⟩
  · exact ⟨none, 0, by rw [e, h0]⟩
  · exact ⟨_, _, e⟩
/-- The slices of a slice of slices: where they lie. -/
theorem SS.at_ (h : SS role r w v us) {j : Nat} (hj : j < us.length) : ∃ g c, v = .slice (some ⟨g, 0, none⟩) us.length c ∧ us.length ≤ c ∧ ∀ i u, us[i]? = some u → w.cell? ⟨g, i, none⟩ = some u := by
  rcases h.1.2 with ⟨e, h0⟩ | ⟨g, cap, cur, e, hb, hg, hn, hm, hs, ht⟩
  · omega
  · refine ⟨g, cap, e, hn, fun i u hu => ?_⟩
    have hi : i < us.length := (List.getElem?_eq_some_iff.1 hu).1
    rw [cell_of_row w g i cur _ (0, 0) hg, ← Array.getElem?_toList, ← hu, ← ht, List.getElem?_take, if_pos (by omega)]
end
/-- Slices of bytes, each in blocks of a role of its own. -/
def Fam (role : Role) (c : Nat) (w : World) (us : List Value) (Ls : List (List Nat)) : Prop := us.length = Ls.length ∧ ∀ j v bs, us[j]? = some v → Ls[j]? = some bs → B8 role (c, j) w v bs
section
variable {P : Nat × Nat → Prop} {role role' : Role} {c : Nat} {w w' : World} {v : Value} {bs : List Nat} {us : List Value} {Ls : List (List Nat)}
theorem Fam.nil (role : Role) (c : Nat) (w : World) : Fam role c w [] [] := ⟨rfl, fun j v bs h => by simp at h⟩
theorem Fam.keep (h : Fam role c w us Ls) (hc : ChgR P role w w') (hp : ∀ j, ¬ P (c, j)) (he : Ext role role') : Fam role' c w' us Ls :=
  ⟨h.1, fun j v bs h1 h2 => (h.2 j v bs h1 h2).keep hc (hp j) he⟩
theorem Fam.grow (h : Fam role c w us Ls) (hb : B8 role (c, Ls.length) w v bs) : Fam role c w (us ++ [v]) (Ls ++ [bs]) := by
  refine ⟨by simp [h.1], fun j u ys h1 h2 => ?_⟩
  rcases Nat.lt_or_ge j us.length with hlt | hge
  · rw [List.getElem?_append_left hlt] at h1
    rw [List.getElem?_append_left (by rw [← h.1]; exact hlt)] at h2
    exact h.2 j u ys h1 h2
  · rw [List.getElem?_append_right hge] at h1
    rw [List.getElem?_append_right (by rw [← h.1]; exact hge)] at h2
    have h0 : j - us.length = 0 := by
      rcases Nat.eq_zero_or_pos (j - us.length) with h0 | h0
      · exact h0
      · rw [List.getElem?_eq_none (by simp; omega)] at h1; cases h1
    rw [h0] at h1
    rw [← h.1, h0] at h2
    simp at h1 h2
    subst h1 h2
    have : j = Ls.length := by rw [← h.1]; omega
    rw [this]
    exact hb
theorem Fam.at_ (h : Fam role c w us Ls) {j : Nat} (hj : j < us.length) : ∃ v bs, us[j]? = some v ∧ Ls[j]? = some bs ∧ B8 role (c, j) w v bs := by
  obtain ⟨v, hv⟩ : ∃ v, us[j]? = some v := ⟨_, List.getElem?_eq_getElem hj⟩
  obtain ⟨b, hb⟩ : ∃ b, Ls[j]? = some b := ⟨_, List.getElem?_eq_getElem (by rw [← h.1]; exact hj)⟩
  exact ⟨v, b, hv, hb, h.2 j v b hv hb⟩
end
theorem infoSl : (Tryd.prog.info? 31).map (fun i => (i.zero, i.size, i.bytes)) = some (some (.slice none 0 0), 1, 24) := by kernel_rfl
end Go.Proofs.YtopeahjdglkheaaDoor
/- append, told with all that is kept: of bytes read anywhere onto a slice that is owned, and onto a slice with its spare room. -/
namespace Go.Proofs.YtopeahjdglkheaaDoor
open Go.RowKit

section
variable {w : World} {base : Nat} {v : Value} {xs : List Value} {n : Nat}
theorem rd_nil_empty {k : IntKind} {c : Nat} {bs : List Nat} (h : Rd k w none c bs) : bs = [] ∧ c = 0 := by
  refine ⟨?_, h.cap rfl⟩
  rcases Nat.eq_zero_or_pos bs.length with h0 | h0
  · exact List.eq_nil_of_length_eq_zero h0
  · obtain ⟨_, _, e, _⟩ := h.at_ h0; cases e
/-- Bytes that are read anywhere, appended to bytes of one's own. -/
theorem run_append_rd (t' : TypeId) {bs : List Nat} (hown : Acc w base v bs) {A : Option Addr} {c : Nat} {news : List Nat} (hr : Rd .u8 w A c news) (hn : bs.length + news.length ≤ 140737488355328) (hb : base ≤ w.heap.size) :
    ∃ v' w', (Builtin.append_ #[31, 31] t' #[v, .slice A news.length c]).run Tryd.prog w = .ok v' w' ∧ Acc w' base v' (bs ++ news) ∧ w.grownBy w' v.ownBlock ∧ (v'.ownBlock = v.ownBlock ∨ v'.ownBlock = some w.heap.size) := by
  obtain ⟨i0, hi, hz0, hz1, hz2⟩ := info_parts info8
  rcases A with _ | ad
  · obtain ⟨rfl, rfl⟩ := rd_nil_empty hr
    exact ⟨v, w, run_append_owned_none (P := Tryd.prog) (w := w) base 31 t' 5 i0 1 Tryd.underlying31 hi v _ _ hown, by simpa using hown, ⟨rfl, rfl, rfl, Nat.le_refl _, fun _ _ _ => rfl⟩, .inl rfl⟩
  · obtain ⟨v', w', h1, h2, h3, _, h5⟩ := run_append_own_at (P := Tryd.prog) w base 31 t' 5 i0 (.int .u8 0) 1 1 Tryd.underlying31 hi hz0 hz1 hz2 rfl (by decide) v _ _ hown ad news.length c (bv news) (by rw [bv_length, Nat.mul_one]) (Rd.news hr) (bv_one _) (by unfold maxLen; omega) (by omega) hb
    refine ⟨v', w', h1, ?_, h3, h5⟩
    unfold Acc
    rw [List.length_append, bv_append]
    exact h2
/-- Bytes of one's own, appended to a slice with its spare room: there, where there is room, else all in new memory. -/
theorem run_append_keep (t' : TypeId) {bs : List Nat} (h : AccO w v bs) {ad : Addr} {c : Nat} {news : List Nat} (hr : Rd .u8 w (some ad) c news) (hd : Ds 256 news) (hn : bs.length + news.length ≤ 140737488355328) :
    ∃ v' w', (Builtin.append_ #[31, 31] t' #[v, .slice (some ad) news.length c]).run Tryd.prog w = .ok v' w' ∧ AccO w' v' (bs ++ news) ∧
      ((∃ g o cap, v = .slice (some ⟨g, o, none⟩) bs.length cap ∧ v' = .slice (some ⟨g, o, none⟩) (bs.length + news.length) cap ∧ bs.length + news.length ≤ cap ∧ w' = w.setCells g (o + bs.length) (bv news)) ∨
       (w.grownBy w' none ∧ ∀ k, v'.ownBlock = some k → w.heap.size ≤ k)) := by
  obtain ⟨i0, hi, hz0, hz1, hz2⟩ := info_parts info8
  have hnews := Rd.news hr
  rcases h.2 with ⟨rfl, rfl⟩ | ⟨g, o, cap, rfl, h1, h2, h3, h4, h5⟩
  · obtain ⟨v', w', k1, k2, k3, _, k5⟩ := run_append_own_at (P := Tryd.prog) w w.heap.size 31 t' 5 i0 (.int .u8 0) 1 1 Tryd.underlying31 hi hz0 hz1 hz2 rfl (by decide) (.slice none 0 0) 0 [] (World.ownsRow_nil w w.heap.size _ 1) ad news.length c (bv news) (by rw [bv_length, Nat.mul_one]) hnews (bv_one _) (by unfold maxLen; simp at hn; omega) (by simp at hn; omega) (Nat.le_refl _)
    have ha : Acc w' w.heap.size v' news := by
      unfold Acc
      simpa using k2
    exact ⟨v', w', k1, AccO.of (base := w.heap.size) (by simpa using ha) hd, .inr ⟨k3, fun k hk => ha.own k hk⟩⟩
  · by_cases hroom : bs.length + news.length ≤ cap
    · have hrun := run_append_room_cells (P := Tryd.prog) w 31 t' 5 i0 Tryd.underlying31 hi g o bs.length cap ad news.length c (bv news) (by rw [bv_length, hz1, Nat.mul_one]) hnews (bv_one _) hroom
        (fun j hj => by rw [bv_length] at hj; rw [hz1, Nat.mul_one, Nat.add_assoc]; exact (h4 _ (by omega)).1) (fun j hj => by rw [bv_length] at hj; rw [hz1, Nat.mul_one, Nat.add_assoc]; exact (h4 _ (by omega)).2)
      rw [hz1, Nat.mul_one] at hrun
      exact ⟨_, _, hrun, h.room news hd hroom, .inl ⟨g, o, cap, rfl, rfl, hroom, rfl⟩⟩
    · obtain ⟨v', w', k1, k2, k3⟩ := run_append_arg_grows (P := Tryd.prog) w 31 t' 5 i0 (.int .u8 0) 1 1 Tryd.underlying31 hi hz0 hz1 hz2 rfl (by decide) ⟨g, o, none⟩ bs.length cap (bv bs) (by rw [bv_length, Nat.mul_one])
        (Rd.news h.rd) ad news.length c (bv news) (by rw [bv_length, Nat.mul_one]) hnews (by omega) (by unfold maxLen; omega) (by omega)
      have ha : Acc w' w.heap.size v' (bs ++ news) := by
        unfold Acc
        rw [List.length_append, bv_append]
        exact k2
      exact ⟨v', w', k1, AccO.of ha (h.1.append hd), .inr ⟨k3, fun k hk => ha.own k hk⟩⟩
/-- One slice more in a slice of slices. -/
theorem run_append_ss (t' : TypeId) {us : List Value} (hown : w.ownsRow base 31 1 v us.length us) {ad : Addr} {c : Nat} {A : Option Addr} {m k : Nat} (hx : w.cell? ad = some (.slice A m k)) (ha : ad.add 0 = ad) (hn : us.length ≤ 2147483648) (hb : base ≤ w.heap.size) :
    ∃ v' w', (Builtin.append_ #[48, 48] t' #[v, .slice (some ad) 1 c]).run Tryd.prog w = .ok v' w' ∧ w'.ownsRow base 31 1 v' (us ++ [Value.slice A m k]).length (us ++ [Value.slice A m k]) ∧ w.grownBy w' v.ownBlock ∧ (v'.ownBlock = v.ownBlock ∨ v'.ownBlock = some w.heap.size) := by
  obtain ⟨i0, hi, hz0, hz1, hz2⟩ : ∃ i, Tryd.prog.info? 31 = some i ∧ i.zero = some (.slice none 0 0) ∧ i.size = 1 ∧ i.bytes = 24 := by
    obtain ⟨i, hi, he⟩ := Option.map_eq_some_iff.1 infoSl
    injection he with h1 h2
    injection h2 with h2 h3
    exact ⟨i, hi, h1, h2, h3⟩
  obtain ⟨v', w', h1, h2, h3, _, h5⟩ := run_append_own_at (P := Tryd.prog) w base 48 t' 31 i0 (.slice none 0 0) 1 24 Tryd.underlying48 hi hz0 hz1 hz2 rfl (by decide) v _ _ hown ad 1 c [.slice A m k] (by simp)
    (by
      intro j u hj
      match j, hj with
      | 0, hj => simp at hj; subst hj; rw [ha]; exact hx) (by intro u hu; simp at hu; subst hu; rfl) (by unfold maxLen; omega) (by omega) hb
  exact ⟨v', w', h1, by rw [List.length_append]; exact h2, h3, h5⟩
end
section
variable {ops : Array Oper} {rest : List Oper} {o : Oper} {a : Act} {w : World} {Q : Exit → Act → World → Prop} {K : Act → World → Prop} {E : Prop}
/-- The operation of append, whatever its run is. -/
theorem wpList_append_run (hgd : o.guard = none) (s x : Operand) (t : TypeId) (ho : o.op = .call { callee := .builtin .append, args := #[s, x], argTypes := #[t, t] }) {v' : Value} {w' : World}
    (hr : (Builtin.append_ #[t, t] o.type #[a.eval s, a.eval x]).run Tryd.prog w = .ok v' w') (h : wpList Tryd.prog ops Q rest (a.put o.dst v') w') : wpList Tryd.prog ops Q (o :: rest) a w := by
  refine wpList_plain hgd fun K hK => ?_
  unfold Oper.wp execOp
  simp only [ho, resolve, invoke, builtin, Sem.run_bind, Sem.run_pure, Result.andThen_ok, List.map_toArray, List.map_cons, List.map_nil, hr]
  exact hK _ _ h
theorem step_append_run (hgd : o.guard = none) (s x : Operand) (t : TypeId) (ho : o.op = .call { callee := .builtin .append, args := #[s, x], argTypes := #[t, t] }) {v' : Value} {w' : World}
    (hr : (Builtin.append_ #[t, t] o.type #[a.eval s, a.eval x]).run Tryd.prog w = .ok v' w') (h : K (a.put o.dst v') w') : if Region.wanted o (yielded ops a.tmps) = true then o.wp Tryd.prog a w K Q else E := by
  have hw : Region.wanted o (yielded ops a.tmps) = true := by simp [Region.wanted, hgd]
  rw [if_pos hw]
  unfold Oper.wp execOp
  simp only [ho, resolve, invoke, builtin, Sem.run_bind, Sem.run_pure, Result.andThen_ok, List.map_toArray, List.map_cons, List.map_nil, hr]
  exact h
end
end Go.Proofs.YtopeahjdglkheaaDoor
/- Lists that are lent: what quarrykeep's Loan hands in, and whether it comes back. -/
namespace Go.Proofs.YtopeahjdglkheaaDoor
open Go.RowKit

/-- A role more. -/
def upd (role : Role) (v : Value) (r : Nat × Nat) : Role := fun k => if v.ownBlock = some k then some r else role k
section
variable {P : Nat × Nat → Prop} {role : Role} {r : Nat × Nat} {w w' : World} {base : Nat} {v v' : Value} {bs : List Nat} {us : List Value}
theorem upd_old (role : Role) (v : Value) (r : Nat × Nat) {k : Nat} (h : v.ownBlock ≠ some k) : upd role v r k = role k := if_neg h
theorem upd_self (role : Role) (v : Value) (r : Nat × Nat) {k : Nat} (h : v.ownBlock = some k) : upd role v r k = some r := if_pos h
theorem Ext.upd (h : ∀ k, v.ownBlock = some k → role k = none ∨ role k = some r) : Ext role (upd role v r) := fun k s hs => by
  by_cases e : v.ownBlock = some k
  · rw [upd_self role v r e]
    rcases h k e with h | h
    · rw [h] at hs; cases hs
    · rw [h] at hs; exact hs
  · rw [upd_old role v r e]; exact hs
theorem Old.none (h : Old role base w) {k : Nat} (hk : w.heap.size ≤ k) : role k = none := by
  cases e : role k with
  | none => rfl
  | some r => have := (h.2 k r e).2; omega
theorem Old.upd (h : Old role base w) (hs : w.heap.size ≤ w'.heap.size) (hv : ∀ k, v.ownBlock = some k → base ≤ k ∧ k < w'.heap.size) : Old (upd role v r) base w' :=
  ⟨Nat.le_trans h.1 hs, fun k s e => by
    by_cases e2 : v.ownBlock = some k
    · exact hv k e2
    · rw [upd_old role v r e2] at e
      exact ⟨(h.2 k s e).1, Nat.lt_of_lt_of_le (h.2 k s e).2 hs⟩⟩
theorem SS.chg (h : SS role r w v us) (hg : w.grownBy w' v.ownBlock) : ChgR (fun s => s = r) role w w' := (ChgR.refl _ role w).grown hg fun k hk => .inr ⟨r, h.2 k hk, rfl⟩
theorem SS.ext (h : SS role r w v us) (ho : Old role base w) (hat : v'.ownBlock = v.ownBlock ∨ v'.ownBlock = some w.heap.size) : Ext role (Go.Proofs.YtopeahjdglkheaaDoor.upd role v' r) := Ext.upd fun k hk => by
  rcases hat with e | e
  · exact .inr (h.2 k (e ▸ hk))
  · rw [e] at hk; injection hk with hk; exact .inl (ho.none (by omega))
theorem SS.lt (h : SS role r w v us) : ∀ k, v.ownBlock = some k → k < w.heap.size := fun k hk => (h.1.lt k hk).2
end
theorem two_of {w : World} {g : Nat} {a b : Value} {t : TypeId} (h : w.heap[g]? = some (.cells #[a, b] t (0, 0))) :
    w.cell? ⟨g, 0, none⟩ = some a ∧ w.cell? ⟨g, 1, none⟩ = some b ∧ w.frozen? ⟨g, 0, none⟩ = false ∧ w.frozen? ⟨g, 1, none⟩ = false := by
  refine ⟨?_, ?_, frozen_of_row _ _ _ _ t h, frozen_of_row _ _ _ _ t h⟩
  · rw [cell_of_row w g 0 _ _ (0, 0) h]; rfl
  · rw [cell_of_row w g 1 _ _ (0, 0) h]; rfl
theorem heap_lt' {w : World} {g : Nat} {o : Obj} (h : w.heap[g]? = some o) : g < w.heap.size := (Array.getElem?_eq_some_iff.1 h).1


set_option maxRecDepth 100000 in
theorem ss_step {role : Role} {r : Nat × Nat} {w : World} {base : Nat} {v : Value} {us : List Value} (h : SS role r w v us) (ho : Old role base w) (hn : us.length ≤ 2147483648) (A : Option Addr) (m k : Nat) :
    ∃ A' c' w', (Builtin.append_ #[48, 48] 48 #[v, .slice (some ⟨w.heap.size, 0, none⟩) 1 1]).run Tryd.prog (w.alloc (.cells #[.slice A m k] 31)) = .ok (.slice A' (us.length + 1) c') w' ∧
      SS (upd role (.slice A' (us.length + 1) c') r) r w' (.slice A' (us.length + 1) c') (us ++ [.slice A m k]) ∧ ChgR (fun s => s = r) role w w' ∧ Ext role (upd role (.slice A' (us.length + 1) c') r) ∧ Old (upd role (.slice A' (us.length + 1) c') r) base w' ∧
      ∀ i, i < w.heap.size → upd role (.slice A' (us.length + 1) c') r i = role i := by
  have hc2 := heap_alloc_new w (.cells #[.slice A m k] 31)
  obtain ⟨v', w', hr3, ho3, hg3, hat3⟩ := run_append_ss 48 (World.ownsRow.alloc h.1 (.cells #[.slice A m k] 31)) (c := 1) (ad := ⟨w.heap.size, 0, none⟩) (A := A) (m := m) (k := k) (by rw [cell_of_row _ _ 0 _ _ (0, 0) hc2]; rfl) (by simp [Addr.add]) hn (Nat.zero_le _)
  have hsz : (w.alloc (.cells #[.slice A m k] 31)).heap.size = w.heap.size + 1 := by simp
  have hgs := hg3.size
  obtain ⟨A', c', rfl⟩ : ∃ A' c', v' = .slice A' (us.length + 1) c' := by
    rcases ho3.2 with ⟨e, h0⟩ | ⟨g, cap, cur, e, _⟩
    · simp at h0
    · exact ⟨some ⟨g, 0, none⟩, cap, by rw [e, List.length_append, List.length_singleton]⟩
  refine ⟨A', c', w', hr3, ⟨ho3, fun k hk => upd_self _ _ _ hk⟩, ((ChgR.refl _ role w).alloc _).grown hg3 (fun k hk => .inr ⟨r, h.2 k hk, rfl⟩), Ext.upd fun k hk => ?_, ho.upd (by omega) (fun k hk => ?_), fun i hi => ?_⟩
  · rcases hat3 with e | e
    · exact .inr (h.2 k (e ▸ hk))
    · rw [e] at hk; injection hk with hk; exact .inl (ho.none (by omega))
  · rcases hat3 with e | e
    · exact ⟨(ho.2 k r (h.2 k (e ▸ hk))).1, by have := h.lt k (e ▸ hk); omega⟩
    · rw [e] at hk
      injection hk with hk
      have := ho.1
      have h2 := (ho3.lt k (by rw [e, hk])).2
      exact ⟨by omega, h2⟩
  · by_cases e : (Value.slice A' (us.length + 1) c').ownBlock = some i
    · rw [upd_self _ _ _ e]
      rcases hat3 with e2 | e2
      · exact (h.2 i (e2 ▸ e)).symm
      · rw [e2] at e; injection e with e; omega
    · exact upd_old _ _ _ e
/-- The same, and the slice of slices is stored where it was, cell i of the block gs. -/
theorem ss_put {role : Role} {r rs : Nat × Nat} {w : World} {base : Nat} {v : Value} {us : List Value} (h : SS role r w v us) (ho : Old role base w) (hn : us.length ≤ 2147483648) (A : Option Addr) (m k : Nat) {gs : Nat} {cs : Array Value} {t : TypeId}
    (hg : w.heap[gs]? = some (.cells cs t (0, 0))) (hgs : role gs = some rs) (hne : rs ≠ r) (i : Nat) :
    ∃ A' c' w' role', (Builtin.append_ #[48, 48] 48 #[v, .slice (some ⟨w.heap.size, 0, none⟩) 1 1]).run Tryd.prog (w.alloc (.cells #[.slice A m k] 31)) = .ok (.slice A' (us.length + 1) c') w' ∧
      w'.heap[gs]? = some (.cells cs t (0, 0)) ∧ SS role' r (w'.setCell ⟨gs, i, none⟩ (.slice A' (us.length + 1) c')) (.slice A' (us.length + 1) c') (us ++ [.slice A m k]) ∧
      (w'.setCell ⟨gs, i, none⟩ (.slice A' (us.length + 1) c')).heap[gs]? = some (.cells (cs.setIfInBounds i (.slice A' (us.length + 1) c')) t (0, 0)) ∧
      ChgR (fun s => s = r ∨ s = rs) role w (w'.setCell ⟨gs, i, none⟩ (.slice A' (us.length + 1) c')) ∧ Ext role role' ∧ Old role' base (w'.setCell ⟨gs, i, none⟩ (.slice A' (us.length + 1) c')) ∧ ∀ j, j < w.heap.size → role' j = role j := by
  obtain ⟨A', c', w', h1, h2, h3, h4, h5, h6⟩ := ss_step h ho hn A m k
  have hg' := (h3.block gs (heap_lt' hg) (fun s e hs => by rw [hgs] at e; injection e with e; subst e; exact hne hs)).trans hg
  refine ⟨A', c', w', _, h1, hg', h2.keep ((ChgR.refl (fun s => s = rs) _ w').set _ (h4 _ _ hgs) rfl) (fun e => hne e.symm) (Ext.refl _), heap_setCell_same w' gs i _ _ _ hg', (h3.mono fun _ e => .inl e).set _ hgs (.inr rfl), h4, h5.grow (by simp), h6⟩
/-- The lists that were lent, us, and their copies, ws. -/
structure LoanAt (role : Role) (w : World) (gl : Nat) (us ws : List Value) (Ls : List (List Nat)) : Prop where
  cell : ∃ v1 v2, w.heap[gl]? = some (.cells #[v1, v2] 50 (0, 0)) ∧ SS role (6, 0) w v1 us ∧ SS role (7, 0) w v2 ws
  self : role gl = some (5, 0)
  fam : Fam role 8 w us Ls
  famw : Fam role 9 w ws Ls
def LoanR (r : Nat × Nat) : Prop := r.1 = 5 ∨ r.1 = 6 ∨ r.1 = 7
instance (r : Nat × Nat) : Decidable (LoanR r) := by unfold LoanR; infer_instance
theorem LoanAt.keep {P : Nat × Nat → Prop} {role role' : Role} {w w' : World} {gl : Nat} {us ws : List Value} {Ls : List (List Nat)} (h : LoanAt role w gl us ws Ls) (hc : ChgR P role w w') (hp : ∀ c j, 5 ≤ c → c ≤ 9 → ¬ P (c, j)) (he : Ext role role') : LoanAt role' w' gl us ws Ls := by
  obtain ⟨⟨v1, v2, h1, h2, h3⟩, h4, h5, h6⟩ := h
  exact ⟨⟨v1, v2, (hc.block gl (heap_lt' h1) fun r e hr => by rw [h4] at e; injection e with e; subst e; exact hp 5 0 (by omega) (by omega) hr).trans h1, h2.keep hc (hp 6 0 (by omega) (by omega)) he, h3.keep hc (hp 7 0 (by omega) (by omega)) he⟩, he _ _ h4, h5.keep hc (fun j => hp 8 j (by omega) (by omega)) he, h6.keep hc (fun j => hp 9 j (by omega) (by omega)) he⟩

/-- A list of bytes is laid beside the others, in a new block with roles for it: what Loan.Bytes and Book.Bytes do at their lists. -/
theorem marks_ds : Ds 256 [77, 78, 79, 80, 81] := fun x hx => by simp at hx; omega

set_option maxRecDepth 100000 in
set_option maxHeartbeats 6400000 in
theorem loan_bytes_c {role : Role} {base : Nat} {w : World} {gl : Nat} {us ws : List Value} {Ls : List (List Nat)} {A : Option Addr} {c : Nat} {bs : List Nat} (hL : LoanAt role w gl us ws Ls) (ho : Old role base w) (hr : Rd .u8 w A c bs) (hd : Ds 256 bs)
    (hl : bs.length ≤ 70368744177665) (hn : Ls.length ≤ 1000000) :
    Calls Tryd.prog 23 #[.pointer (some ⟨gl, 0, none⟩), .slice A bs.length c] w fun e w' => ∃ (role' : Role) (us' ws' : List Value) (g c' : Nat), e = .returned (.slice (some ⟨g, 0, none⟩) bs.length c') ∧ B8 role' (8, Ls.length) w' (.slice (some ⟨g, 0, none⟩) bs.length c') bs ∧ w.heap.size ≤ g ∧
      LoanAt role' w' gl us' ws' (Ls ++ [bs ++ [77, 78, 79, 80, 81]]) ∧ Old role' base w' ∧ (∀ k, k < w.heap.size → role' k = role k) ∧ ChgR LoanR role w w' := by
  obtain ⟨⟨v1, v2, hg, hs1, hs2⟩, hself, hf1, hf2⟩ := hL
  have hglt := heap_lt' hg
  -- the list with its marks
  have hal : Below w.heap.size w (w.alloc (.cells #[] 5)) := (Below.refl _ _).alloc (Nat.le_refl _) _
  have ha0 : Acc (w.alloc (.cells #[] 5)) w.heap.size (.slice (some ⟨w.heap.size, 0, none⟩) 0 0) [] := Acc.of_row (Row.new (k := .u8) w 5 []) (Nat.le_refl _) (by simp)
  obtain ⟨u1, w1, hr1, ha1, hg1, hat1⟩ := run_append_rd 31 ha0 (hr.below hal) (by simp; omega) (by simp)
  rw [List.nil_append] at ha1
  obtain ⟨A1, c1, rfl⟩ := ha1.form
  have hb1 : Below w.heap.size w w1 := hal.grown hg1 (by simp) (fun k hk => Acc.own ha0 k hk)
  have hal2 : Below w1.heap.size w1 (w1.alloc (.cells #[.int .u8 77, .int .u8 78, .int .u8 79, .int .u8 80, .int .u8 81] 5)) := (Below.refl _ _).alloc (Nat.le_refl _) _
  have hrow : Row .u8 (w1.alloc (.cells #[.int .u8 77, .int .u8 78, .int .u8 79, .int .u8 80, .int .u8 81] 5)) w1.heap.size 5 [77, 78, 79, 80, 81] := Row.new (k := .u8) w1 5 [77, 78, 79, 80, 81]
  obtain ⟨u2, w2, hr2, ha2, hg2, hat2⟩ := run_append_rd 31 (World.ownsRow.alloc ha1 (.cells #[.int .u8 77, .int .u8 78, .int .u8 79, .int .u8 80, .int .u8 81] 5)) hrow.rd0 (by simp; omega) (by have := hb1.size; simp; omega)
  obtain ⟨A2, c2, rfl⟩ := ha2.form
  have hb2 : Below w.heap.size w w2 := (hb1.alloc (by have := hb1.size; omega) _).grown hg2 (by have := hb1.size; simp; omega) (fun k hk => Acc.own ha1 k hk)
  have hgl2 := (hb2.block gl hglt).trans hg
  obtain ⟨xs, hxs⟩ : ∃ xs, xs = bs ++ [77, 78, 79, 80, 81] := ⟨_, rfl⟩
  have hxd : Ds 256 xs := by rw [hxs]; exact hd.append marks_ds
  have hxl : xs.length = bs.length + 5 := by rw [hxs]; simp
  obtain ⟨V1, C1, rfl⟩ := hs1.form
  obtain ⟨V2, C2, rfl⟩ := hs2.form
  obtain ⟨g, rfl, hgg⟩ : ∃ g, A2 = some ⟨g, 0, none⟩ ∧ w.heap.size ≤ g := by
    rcases ha2.2 with ⟨e, h0⟩ | ⟨g, cap, cur, e, hb, _⟩
    · simp at h0
    · injection e with e1 e2 e3; exact ⟨g, e1, hb⟩
  have hgw : g < w2.heap.size := (World.ownsRow.lt ha2 g rfl).2
  rw [← hxs] at ha2 hr2
  obtain ⟨L, hL⟩ : ∃ L, L = xs.length := ⟨_, rfl⟩
  have hxo : AccO w2 (.slice (some ⟨g, 0, none⟩) xs.length c2) xs := AccO.of ha2 hxd
  rw [← hL] at ha2 hr2 hxo
  -- the first list
  have hs1a := hs1.keep (P := fun _ => False) (ChgR.of _ role hb2) id (Ext.refl _)
  have hs2a := hs2.keep (P := fun _ => False) (ChgR.of _ role hb2) id (Ext.refl _)
  have ho2 := ho.grow hb2.size
  have hr1a : ∀ k, k < w.heap.size → upd role (.slice (some ⟨g, 0, none⟩) L c2) (8, Ls.length) k = role k := fun k hk => upd_old _ _ _ (by intro e; injection e with e; have e' : g = k := e; omega)
  have he1 : Ext role (upd role (.slice (some ⟨g, 0, none⟩) L c2) (8, Ls.length)) := Ext.upd fun k hk => by injection hk with hk; have hk' : g = k := hk; exact .inl (ho.none (by omega))
  have ho3 := ho.upd (r := (8, Ls.length)) (v := .slice (some ⟨g, 0, none⟩) L c2) hb2.size (fun k hk => by injection hk with hk; have hk' : g = k := hk; have := ho.1; exact ⟨by omega, by omega⟩)
  have hC0 : ChgR (fun _ => False) role w w2 := ChgR.of _ role hb2
  have hf1a := (hf1.keep hC0 (fun _ => id) he1).grow (v := .slice (some ⟨g, 0, none⟩) L c2) (bs := xs) ⟨hxo, fun k hk => upd_self _ _ _ hk⟩
  have hf2a := hf2.keep hC0 (fun _ => id) he1
  have hself1 := he1 _ _ hself
  have hs1a := hs1.keep hC0 id he1
  have hs2a := hs2.keep hC0 id he1
  have hrg : upd role (.slice (some ⟨g, 0, none⟩) L c2) (8, Ls.length) g = some (8, Ls.length) := upd_self _ _ _ rfl
  generalize upd role (.slice (some ⟨g, 0, none⟩) L c2) (8, Ls.length) = role1 at *
  obtain ⟨D1, E1, w3, role2, hr3, hg3, hs1b, hg4, hC4, he4, ho4, hr4⟩ := ss_put hs1a ho3 (by rw [hf1.1]; omega) (some ⟨g, 0, none⟩) L c2 hgl2 hself1 (by decide) 0
  have hC4n : ∀ c j, 7 ≤ c → ¬ ((fun s : Nat × Nat => s = (6, 0) ∨ s = (5, 0)) (c, j)) := fun c j hc h => by
    rcases h with h | h <;> (injection h with h1 h2; omega)
  have hs2b := hs2a.keep hC4 (hC4n 7 0 (by omega)) he4
  have hf1b := hf1a.keep hC4 (fun j => hC4n 8 j (by omega)) he4
  have hf2b := hf2a.keep hC4 (fun j => hC4n 9 j (by omega)) he4
  have hself2 := he4 _ _ hself1
  have hxo4 := (B8.keep (r := (8, Ls.length)) (role := role1) (w := w2) (v := .slice (some ⟨g, 0, none⟩) L c2) (bs := xs) ⟨hxo, fun k hk => by injection hk with hk; have hk' : g = k := hk; subst hk'; exact hrg⟩ hC4 (hC4n 8 _ (by omega)) he4).1
  have hs4 : w2.heap.size ≤ (w3.setCell ⟨gl, 0, none⟩ (.slice D1 (us.length + 1) E1)).heap.size := hC4.size
  have hCC : ChgR LoanR role w (w3.setCell ⟨gl, 0, none⟩ (.slice D1 (us.length + 1) E1)) := (hC0.mono (fun _ e => e.elim)).trans (hC4.mono fun s e => by rcases e with e | e <;> (subst e; decide)) (fun i s hi e hs => ⟨s, by rw [← hr1a i hi]; exact e, hs⟩)
  have hr4a : ∀ k, k < w.heap.size → role2 k = role k := fun k hk => by rw [hr4 k (by omega), hr1a k hk]
  obtain ⟨a0, a1, b0, b1⟩ := two_of hgl2
  obtain ⟨d0, d1, e0, e1⟩ := two_of hg3
  obtain ⟨W, hW⟩ : ∃ W, W = w3.setCell ⟨gl, 0, none⟩ (.slice D1 (us.length + 1) E1) := ⟨_, rfl⟩
  have hg4 : (w3.setCell ⟨gl, 0, none⟩ (.slice D1 (us.length + 1) E1)).heap[gl]? = some (.cells #[.slice D1 (us.length + 1) E1, .slice V2 ws.length C2] 50 (0, 0)) := by simpa using hg4
  rw [← hW] at hg4 hs1b hs2b hf1b hf2b hxo4 hs4 hCC ho4
  -- the copy
  have hal5 : Below W.heap.size W (W.drew.alloc (.cells #[] 5)) := (Below.refl _ _).drew.alloc (Nat.le_refl _) _
  have ha5 : Acc (W.drew.alloc (.cells #[] 5)) W.heap.size (.slice (some ⟨W.heap.size, 0, none⟩) 0 0) [] := Acc.of_row (Row.new (k := .u8) W.drew 5 []) (Nat.le_refl _) (by simp)
  obtain ⟨u5, w5, hr5, hb5, hg5, _⟩ := run_append_rd 31 ha5 (hxo4.rd.below hal5) (by simp; omega) (by simp)
  rw [List.nil_append] at hb5
  obtain ⟨A5, c5, rfl⟩ := hb5.form
  rw [← hL] at hr5 hb5
  have hbw5 : Below W.heap.size W w5 := hal5.grown hg5 (by simp) (fun k hk => Acc.own ha5 k hk)
  have hB5 : AccO w5 (.slice A5 L c5) xs := AccO.of hb5 hxd
  have hr5a : ∀ k, k < W.heap.size → upd role2 (.slice A5 L c5) (9, Ls.length) k = role2 k := fun k hk => upd_old _ _ _ (by intro e; have := hb5.own k e; omega)
  have he5 : Ext role2 (upd role2 (.slice A5 L c5) (9, Ls.length)) := Ext.upd fun k hk => .inl (ho4.none (hb5.own k hk))
  have ho5 := ho4.upd (r := (9, Ls.length)) (v := .slice A5 L c5) hbw5.size (fun k hk => by have h1 := hb5.own k hk; have h2 := hB5.lt k hk; have := ho4.1; exact ⟨by omega, h2⟩)
  have hC5 : ChgR (fun _ => False) role2 W w5 := ChgR.of _ role2 hbw5
  have hf2c := (hf2b.keep hC5 (fun _ => id) he5).grow (v := .slice A5 L c5) (bs := xs) ⟨hB5, fun k hk => upd_self _ _ _ hk⟩
  have hf1c := hf1b.keep hC5 (fun _ => id) he5
  have hself3 := he5 _ _ hself2
  have hs1c := hs1b.keep hC5 id he5
  have hs2c := hs2b.keep hC5 id he5
  have hg5' := (hbw5.block gl (heap_lt' hg4)).trans hg4
  generalize upd role2 (.slice A5 L c5) (9, Ls.length) = role3 at *
  obtain ⟨D2, E2, w6, role4, hr6, hg6, hs2d, hg7, hC7, he7, ho7, hr7⟩ := ss_put hs2c ho5 (by rw [hf2.1]; omega) A5 L c5 hg5' hself3 (by decide) 1
  have hC7n : ∀ c j, (c = 6 ∨ 8 ≤ c) → ¬ ((fun s : Nat × Nat => s = (7, 0) ∨ s = (5, 0)) (c, j)) := fun c j hc h => by
    rcases h with h | h <;> (injection h with h1 h2; omega)
  have hs1d := hs1c.keep hC7 (hC7n 6 0 (by omega)) he7
  have hf1d := hf1c.keep hC7 (fun j => hC7n 8 j (by omega)) he7
  have hf2d := hf2c.keep hC7 (fun j => hC7n 9 j (by omega)) he7
  have hxo7 := hf1d.2 Ls.length (.slice (some ⟨g, 0, none⟩) L c2) xs (by rw [← hf1.1]; simp) (by simp)
  have hCC7 : ChgR LoanR role w (w6.setCell ⟨gl, 1, none⟩ (.slice D2 (ws.length + 1) E2)) := (hCC.same (ChgR.of _ role hbw5)).trans (hC7.mono fun s e => by rcases e with e | e <;> (subst e; decide)) (fun i s hi e hs => ⟨s, by rw [← hr4a i hi, ← hr5a i (by omega)]; exact e, hs⟩)
  have hW5 := (Below.heap_alloc W (.cells #[] 5) gl (heap_lt' hg4)).trans hg4
  have hW6 := (Below.heap_alloc w5 (.cells #[.slice A5 L c5] 31) gl (heap_lt' hg5')).trans hg5'
  obtain ⟨a0, a1, b0, b1⟩ := two_of hgl2
  obtain ⟨d0, d1, e0, e1⟩ := two_of hg3
  obtain ⟨f0, f1, -, -⟩ := two_of (w := W) hg4
  obtain ⟨i0, i1, -, -⟩ := two_of hW5
  obtain ⟨j0, j1, -, -⟩ := two_of hg5'
  obtain ⟨k0, k1, -, -⟩ := two_of hW6
  obtain ⟨m0, m1, n0, n1⟩ := two_of hg6
  have HR1 := Lib.hid hr1
  have HR2 := Lib.hid hr2
  have HR3 := Lib.hid hr3
  have HR5 := Lib.hid hr5
  have HR6 := Lib.hid hr6
  have HWW := Lib.hid hW
  have hss1 := hb2.size
  have hss2 := hbw5.size
  have fin : ∃ (role' : Role) (us' ws' : List Value) (g' c' : Nat), Ending.returned (.slice (some ⟨g, 0, none⟩) bs.length c2) = .returned (.slice (some ⟨g', 0, none⟩) bs.length c') ∧ B8 role' (8, Ls.length) (w6.setCell ⟨gl, 1, none⟩ (.slice D2 (ws.length + 1) E2)) (.slice (some ⟨g', 0, none⟩) bs.length c') bs ∧ w.heap.size ≤ g' ∧
      LoanAt role' (w6.setCell ⟨gl, 1, none⟩ (.slice D2 (ws.length + 1) E2)) gl us' ws' (Ls ++ [bs ++ [77, 78, 79, 80, 81]]) ∧ Old role' base (w6.setCell ⟨gl, 1, none⟩ (.slice D2 (ws.length + 1) E2)) ∧ (∀ k, k < w.heap.size → role' k = role k) ∧ ChgR LoanR role w (w6.setCell ⟨gl, 1, none⟩ (.slice D2 (ws.length + 1) E2)) := by
    refine ⟨role4, _, _, g, c2, rfl, ?_, hgg, ⟨⟨_, _, by simpa using hg7, hs1d, hs2d⟩, he7 _ _ hself3, by rw [← hxs]; exact hf1d, by rw [← hxs]; exact hf2d⟩, ho7, fun k hk => by rw [hr7 k (by omega), hr5a k (by omega), hr4a k hk], hCC7⟩
    have := hxo7.1.take (m := bs.length) (by omega)
    rw [hxs, List.take_left] at this
    exact ⟨this, hxo7.2⟩
  have FIN := Lib.hid fin
  have hl5 : (bs.length : Int) ≤ (c2 : Int) := by have := hxo.rd.le; omega
  have hU : us.length ≤ 1000000 := by rw [hf1.1]; exact hn
  clear hss1 hss2 hs1d hs2d hf1d hf2d hxo7 hCC7 hC7n hC7 he7 ho7 hr7 hg7 hs1c hs2c hself3 hf1c hf2c hC5 ho5 he5 hr5a hB5 hbw5 hg5 hb5 ha5 hal5 hr4a hCC hs4 hxo4 hself2 hf1b hf2b hs2b hC4n hg4 hg5' hg6 hW5 hW6 hr4 he4 hC4 ho4 hs1b hg3 hrg fin hr1 hr2 hr3 hr5 hr6 hW hgl2 hxd hxs hs1 hs2 hself hf1 hf2 hglt hal ha0 hg1 ha1 hat1 hb1 hal2 hrow hg2 hat2 hb2 hxo ha2 hL hxl ho2 ho3 hs1a hs2a hf1a hf2a he1 hr1a hC0 hself1 hg hr hd ho
  go_enter Tryd.func23, Tryd.ntmps23
  go_wp2_with (at_builtin; (first | refine wpList_append_run rfl (.tmp 6) (.tmp 7) 31 rfl HR1.out ?_ | refine wpList_append_run rfl (.tmp 8) (.tmp 9) 31 rfl HR2.out ?_ | refine wpList_append_run rfl (.tmp 15) (.tmp 17) 48 rfl HR3.out ?_))
  rw [← HWW.out]
  clear a0 a1 b0 b1 d0 d1 e0 e1 HR1 HR2 HR3
  go_region_law (first
    | (refine step_append_run rfl (.tmp 26) (.tmp 27) 31 rfl HR5.out ?_)
    | (refine step_append_run rfl (.tmp 25) (.tmp 29) 48 rfl HR6.out ?_))
  all_goals
    clear f0 f1 i0 i1 j0 j1 k0 k1 HR5 HR6 HWW
    go_simp
    go_wp2_with fail
    go_ret
    exact FIN.out
end Go.Proofs.YtopeahjdglkheaaDoor
/- Lists that are kept: what quarrykeep's Book takes in. -/
namespace Go.Proofs.YtopeahjdglkheaaDoor
open Go.RowKit

theorem cells_of {w : World} {g : Nat} {cs : Array Value} {t : TypeId} (h : w.heap[g]? = some (.cells cs t (0, 0))) (j : Nat) : w.cell? ⟨g, j, none⟩ = cs[j]? ∧ w.frozen? ⟨g, j, none⟩ = false :=
  ⟨cell_of_row w g j _ _ (0, 0) h, frozen_of_row _ _ _ _ t h⟩
theorem five_of {w : World} {g : Nat} {a b c d e : Value} {t : TypeId} (h : w.heap[g]? = some (.cells #[a, b, c, d, e] t (0, 0))) :
    w.cell? ⟨g, 0, none⟩ = some a ∧ w.cell? ⟨g, 1, none⟩ = some b ∧ w.cell? ⟨g, 2, none⟩ = some c ∧ w.cell? ⟨g, 3, none⟩ = some d ∧ w.cell? ⟨g, 4, none⟩ = some e ∧
    w.frozen? ⟨g, 0, none⟩ = false ∧ w.frozen? ⟨g, 1, none⟩ = false ∧ w.frozen? ⟨g, 2, none⟩ = false ∧ w.frozen? ⟨g, 3, none⟩ = false ∧ w.frozen? ⟨g, 4, none⟩ = false :=
  ⟨(cells_of h 0).1, (cells_of h 1).1, (cells_of h 2).1, (cells_of h 3).1, (cells_of h 4).1, (cells_of h 0).2, (cells_of h 1).2, (cells_of h 2).2, (cells_of h 3).2, (cells_of h 4).2⟩

def BookR (r : Nat × Nat) : Prop := r.1 ≤ 2
instance (r : Nat × Nat) : Decidable (BookR r) := by unfold BookR; infer_instance
end Go.Proofs.YtopeahjdglkheaaDoor
namespace Go.Proofs.YtopeahjdglkheaaDoor
open Go.RowKit

theorem bel_drewN (w : World) (m : Nat) : Below w.heap.size w (w.drewN m) := Below.drewN_ _ _ m

end Go.Proofs.YtopeahjdglkheaaDoor
/- Whether what was lent is as it was: quarrykeep's Loan.Back. -/
namespace Go.Proofs.YtopeahjdglkheaaDoor
open Go.RowKit

theorem AccO.at_ {w : World} {A : Option Addr} {n c : Nat} {bs : List Nat} (h : AccO w (.slice A n c) bs) {q : Nat} (hq : q < n) : ∃ g o, A = some ⟨g, o, none⟩ ∧ g < w.heap.size ∧ n = bs.length ∧ n ≤ c ∧ ∀ i, i < n → w.cell? ⟨g, o + i, none⟩ = some (.int .u8 (bs.getD i 0 : Nat)) ∧ w.frozen? ⟨g, o + i, none⟩ = false := by
  rcases h.2 with ⟨e, rfl⟩ | ⟨g, o, cap, e, h1, h2, h3, h4, h5⟩
  · injection e with e1 e2 e3; omega
  · injection e with e1 e2 e3
    subst e1 e2 e3
    exact ⟨g, o, rfl, h3, rfl, h1, fun i hi => ⟨h5 i hi, (h4 i (by omega)).2⟩⟩

set_option maxRecDepth 100000 in
set_option maxHeartbeats 6400000 in
theorem lback_c {role : Role} {w : World} {gl : Nat} {us ws : List Value} {Ls : List (List Nat)} (hL : LoanAt role w gl us ws Ls) (hn : Ls.length ≤ 1000000) (hlen : ∀ bs ∈ Ls, bs.length ≤ 140737488355328) :
    Calls Tryd.prog 24 #[.pointer (some ⟨gl, 0, none⟩)] w fun e w' => e = .returned (.bool true) ∧ ChgR (fun r => r.1 = 8) role w w' := by
  have HL := Lib.hid hL
  have HLEN := Lib.hid hlen
  have HCR := Lib.hid (ChgR.refl (fun r : Nat × Nat => r.1 = 8 ∧ r.2 < 0) role w)
  clear hL hlen
  go_enter Tryd.func24, Tryd.ntmps24
  go_upto_region 3 with (fail)
  go_loopw [3, 4] (fun k i wr => ∃ j : Nat, j ≤ Ls.length ∧ k = .bool true ∧ i = .int .i64 (j : Int) ∧ Hid (ChgR (fun r => r.1 = 8 ∧ r.2 < j) role w wr))
    (fun _ i _ => Ls.length - (intOf i).toNat)
  case atStart => exact ⟨0, by omega, rfl, rfl, HCR.out⟩
  case round =>
    obtain ⟨j, hj, rfl, rfl, hc⟩ := hrel
    obtain ⟨⟨v1, v2, hg, hs1, hs2⟩, hself, hf1, hf2⟩ := HL.out
    have hg := (hc.out.block gl (heap_lt' hg) (fun s e hs => by rw [hself] at e; injection e with e; subst e; simp at hs)).trans hg
    have hs1 := hs1.keep hc.out (by simp) (Ext.refl _)
    have hs2 := hs2.keep hc.out (by simp) (Ext.refl _)
    obtain ⟨V1, C1, rfl⟩ := hs1.form
    obtain ⟨V2, C2, rfl⟩ := hs2.form
    obtain ⟨a0, a1, -⟩ := two_of hg
    obtain ⟨U, hU⟩ : ∃ U, U = us.length := ⟨_, rfl⟩
    have hU2 : ws.length = U := by rw [hU, hf1.1, hf2.1]
    have hU3 : Ls.length = U := by rw [hU, hf1.1]
    by_cases hlt : j < Ls.length
    · obtain ⟨x, bs, hx, hbs, hb8⟩ := hf1.at_ (j := j) (by omega)
      obtain ⟨y, bs', hy, hbs', hb8'⟩ := hf2.at_ (j := j) (by omega)
      rw [hbs] at hbs'
      injection hbs' with hbs'
      subst hbs'
      have hb8 := hb8.keep hc.out (by simp) (Ext.refl _)
      have hb8' := hb8'.keep hc.out (by simp) (Ext.refl _)
      have hbl := HLEN.out bs (List.mem_of_getElem? hbs)
      obtain ⟨g1, c1, e1, hc1, hcl1⟩ := hs1.at_ (j := j) (by omega)
      obtain ⟨g2, c2, e2, hc2, hcl2⟩ := hs2.at_ (j := j) (by omega)
      injection e1 with e1 e3 e4
      injection e2 with e2 e5 e6
      subst e1 e4 e2 e6
      have x0 := hcl1 j x hx
      have y0 := hcl2 j y hy
      obtain ⟨X, cx, rfl⟩ := hb8.1.form
      obtain ⟨Y, cy, rfl⟩ := hb8'.1.form
      have k1 : ∀ q, (convert 31 9 (.slice X bs.length cx)).run Tryd.prog (wr.drewN q) = .ok (.string (sOf bs)) (wr.drewN q) := fun q => run_sOf (hb8.1.byt.below (Below.drewN_ _ _ q))
      have k2 : ∀ q, (convert 31 9 (.slice Y bs.length cy)).run Tryd.prog (wr.drewN q) = .ok (.string (sOf bs)) (wr.drewN q) := fun q => run_sOf (hb8'.1.byt.below (Below.drewN_ _ _ q))
      have k3 := k1 0
      have k4 := k2 0
      rw [World.drewN_zero] at k3 k4
      generalize sOf bs = S at *
      rw [← hU] at a0
      rw [hU2] at a1
      have hjU : (j : Int) < (U : Int) := by omega
      have ej : IntKind.i64.wrap ((j : Int) + 1) = (j : Int) + 1 := IntWalk.i64_in _ (by omega)
      obtain ⟨L, hL⟩ : ∃ L, L = bs.length := ⟨_, rfl⟩
      rw [← hL] at hb8 x0 k1 k3 y0 k2 k4 hbl hx
      have hrj := hb8.2
      have HJ : Hid (j < Ls.length ∧ Ls.length = U ∧ us.length = U ∧ U ≤ 1000000 ∧ L ≤ 140737488355328) := ⟨hlt, hU3, hU.symm, by omega, hbl⟩
      have HX := Lib.hid hx
      have HS1 := Lib.hid hs1
      have HG := Lib.hid hg
      have HB8 := Lib.hid hb8
      have HLB := Lib.hid hL
      have HC := Lib.hid hc.out
      have HSELF := Lib.hid hself
      have hU9 : us.length = U := hU.symm
      rw [hU9] at HS1 HG
      clear hU9
      clear hc hg hs1 hs2 hf1 hf2 hself hU hU2 hU3 hb8 hb8' hcl1 hcl2 hx hy hbs e3 e5 hlt hj hc1 hc2 hbl hL hrj hn HL HCR
      go_wp2_with fail
      go_quiet (fail)
      clear k1 k2 k3 k4 y0 a1
      go_upto_region 7 with (fail)
      have HC2 := Lib.hid (HC.out.drewN nq)
      have HG2 : Hid ((wr.drewN nq).heap[gl]? = _) := HG.out
      have HS2 : Hid (SS role (6, 0) (wr.drewN nq) _ us) := HS1.out.keep (P := fun _ => False) (ChgR.of _ role (Below.drewN_ _ _ nq)) id (Ext.refl _)
      have HB2 : Hid (B8 role (8, j) (wr.drewN nq) _ bs) := HB8.out.keep (P := fun _ => False) (ChgR.of _ role (Below.drewN_ _ _ nq)) id (Ext.refl _)
      generalize wr.drewN nq = W1 at *
      clear HC HG HS1 HB8 a0 x0 hjU
      have HC0 := Lib.hid (ChgR.refl (fun r : Nat × Nat => r = (8, j)) role W1)
      go_loopw [5] (fun k w2 => ∃ (q : Nat) (ys : List Nat), q ≤ L ∧ k = .int .i64 (q : Int) ∧ Hid (AccO w2 (.slice X L cx) ys) ∧ Hid (ChgR (fun r => r = (8, j)) role W1 w2))
        (fun k _ => L - (intOf k).toNat)
      case atStart => exact ⟨0, bs, by omega, rfl, HB2.out.1, HC0.out⟩
      case round =>
        obtain ⟨q, ys, hq, rfl, hacc, hch⟩ := hrel
        have hg := (hch.out.block gl (heap_lt' HG2.out) (fun s e hs => by rw [HSELF.out] at e; injection e with e; subst e; simp at hs)).trans HG2.out
        have hs1 := HS2.out.keep hch.out (by simp) (Ext.refl _)
        obtain ⟨a0, -⟩ := two_of hg
        obtain ⟨g1', c1', e1, hc1, hcl1⟩ := hs1.at_ (j := j) (by have := HJ.out; omega)
        injection e1 with e1 e3 e4
        injection e1 with e1
        injection e1 with e1
        subst e1 e4
        have x0 := hcl1 j _ HX.out
        have hjU : (j : Int) < (U : Int) := by have := HJ.out; omega
        have hL9 := HJ.out.2.2.2.2
        by_cases hql : q < L
        · obtain ⟨gx, o, rfl, hgx, e9, hle, hcells⟩ := hacc.out.at_ hql
          obtain ⟨p0, p1⟩ := hcells q hql
          have hset := hacc.out.set q 90 (by omega) (by omega)
          have hch2 := hch.out.set (g := gx) (j := o + q) (.int .u8 ((90 : Nat) : Int)) (HB2.out.2 gx rfl) rfl
          have hq1 : (q : Int) < (L : Int) := by omega
          have eq1 : IntKind.i64.wrap ((q : Int) + 1) = (q : Int) + 1 := IntWalk.i64_in _ (by omega)
          have HS9 := Lib.hid hset
          have HC9 := Lib.hid hch2
          have HQ : Hid (q < L) := hql
          clear hset hch2 hcells hacc hch hg hs1 hcl1 hc1 e3 hql hq hle e9 hgx HC2 HG2 HS2 HX HLEN
          go_wp2_with fail
          exact ⟨⟨q + 1, _, HQ.out, by simp, HS9.out, HC9.out⟩, by simp [intOf]; have := HQ.out; omega⟩
        · have hq1 : ¬ (q : Int) < (L : Int) := by omega
          have HF : Hid (ChgR (fun r => r.1 = 8 ∧ r.2 < j + 1) role w wr) := (HC2.out.mono fun r h => ⟨h.1, by omega⟩).same (hch.out.mono fun r h => by subst h; exact ⟨rfl, Nat.lt_succ_self _⟩)
          have HQ : Hid (j < Ls.length) := HJ.out.1
          clear hacc hch hg hs1 hcl1 hc1 e3 hql hq HC2 HG2 HS2 HX HLEN hL9 HB2 HJ
          go_wp2_with fail
          exact ⟨⟨j + 1, HQ.out, rfl, by simp, HF.out⟩, by simp [intOf]; have := HQ.out; omega⟩
    · rw [← hU] at a0
      have hjU : ¬ ((j : Int) < (U : Int)) := by omega
      have HF : Hid (ChgR (fun r => r.1 = 8) role w wr) := hc.out.mono fun _ h => h.1
      clear hc hg hs1 hs2 hf1 hf2 hself hU hU2 hU3 hlt hj HL HLEN HCR
      go_wp2_with fail
      go_ret
      exact ⟨rfl, HF.out⟩
end Go.Proofs.YtopeahjdglkheaaDoor
/- Whether each list is full of its own mark, and what was grown out of it of the other: quarrykeep's Book.lookBytes. -/
namespace Go.Proofs.YtopeahjdglkheaaDoor
open Go.RowKit

/-- The mark of a list, and that of what is grown out of it. -/
def lo (j : Nat) : Nat := j % 125
def hi (j : Nat) : Nat := 125 + j % 125
def mks (j n s : Nat) : List Nat := List.replicate n (lo j) ++ List.replicate s (hi j)
theorem mk_len (j n s : Nat) : (mks j n s).length = n + s := by simp [mks]
theorem mk_ds (j n s : Nat) : Ds 256 (mks j n s) := fun x hx => by
  simp only [mks, List.mem_append, List.mem_replicate] at hx
  unfold lo hi at hx
  rcases hx with ⟨_, rfl⟩ | ⟨_, rfl⟩ <;> omega
theorem mk_lo {j n s q : Nat} (h : q < n) : (mks j n s).getD q 0 = lo j := by
  rw [mks, List.getD_eq_getElem?_getD, List.getElem?_append_left (by simpa using h), List.getElem?_replicate, if_pos h]; rfl
theorem mk_hi {j n s q : Nat} (h : n ≤ q) (hs : q < n + s) : (mks j n s).getD q 0 = hi j := by
  rw [mks, List.getD_eq_getElem?_getD, List.getElem?_append_right (by simpa using h), List.length_replicate, List.getElem?_replicate, if_pos (by omega)]; rfl
theorem mk_snoc (j n s : Nat) : mks j n s ++ [hi j] = mks j n (s + 1) := by rw [mks, mks, List.append_assoc, ← List.replicate_succ']
theorem mk_zero (j n : Nat) : mks j n 0 = List.replicate n (lo j) := by simp [mks]

end Go.Proofs.YtopeahjdglkheaaDoor
/- What is grown out of a list that is kept, and what stays of the list: for quarrykeep's Book.closeBytes. -/
namespace Go.Proofs.YtopeahjdglkheaaDoor
open Go.RowKit

/-- l is x and s places more in its spare room, or lies in another block. -/
def Mate (x l : Value) (s : Nat) : Prop := (∃ A n c, x = .slice A n c ∧ l = .slice A (n + s) c) ∨ ∀ k, x.ownBlock = some k → l.ownBlock ≠ some k
theorem Mate.refl {w : World} {x : Value} {xs : List Nat} (h : AccO w x xs) : Mate x x 0 := by
  obtain ⟨A, c, rfl⟩ := h.form
  exact .inl ⟨A, _, c, rfl, rfl⟩
theorem heap_setCells' (b : Nat) (vs : List Value) (o : Nat) (w : World) {k : Nat} (hk : k < w.heap.size) (hne : k ≠ b) : (w.setCells b o vs).heap[k]? = w.heap[k]? := by
  induction vs generalizing o w with
  | nil => rfl
  | cons v r ih => rw [World.setCells, ih (o + 1) (w.setCell ⟨b, o, none⟩ v) (by simpa using hk)]; exact Below.heap_setCell _ _ _ _ hne
theorem chg_setCells {role : Role} {r : Nat × Nat} {w : World} {b o : Nat} {vs : List Value} (hb : role b = some r) : ChgR (fun s => s = r) role w (w.setCells b o vs) := by
  induction vs generalizing o w with
  | nil => exact ChgR.refl _ _ _
  | cons v rest ih => exact ((ChgR.refl (fun s => s = r) role w).set v hb rfl).same ih
theorem B8.len {role : Role} {r : Nat × Nat} {w : World} {A : Option Addr} {n c : Nat} {bs : List Nat} (h : B8 role r w (.slice A n c) bs) : n = bs.length := h.1.len

theorem grow_c {role : Role} {base : Nat} {r : Nat × Nat} {W : World} {l x : Value} {bs xs news : List Nat} {s c : Nat} {ad : Addr} (ho : Old role base W) (hl : B8 role r W l bs) (hx : B8 role r W x xs) (hm : Mate x l s) (hbs : bs.length = xs.length + s)
    (hr : Rd .u8 W (some ad) c news) (hd : Ds 256 news) (hn : bs.length + news.length ≤ 140737488355328) :
    ∃ A' c' W' role', (Builtin.append_ #[31, 31] 31 #[l, .slice (some ad) news.length c]).run Tryd.prog W = .ok (.slice A' (bs.length + news.length) c') W' ∧
      B8 role' r W' (.slice A' (bs.length + news.length) c') (bs ++ news) ∧ B8 role' r W' x xs ∧ Mate x (.slice A' (bs.length + news.length) c') (s + news.length) ∧ ChgR (fun q => q = r) role W W' ∧ Ext role role' ∧ Old role' base W' ∧ (∀ k, k < W.heap.size → role' k = role k) := by
  obtain ⟨v', W', h1, h2, h3⟩ := run_append_keep 31 hl.1 hr hd hn
  rcases h3 with ⟨g, o, cap, rfl, rfl, hroom, rfl⟩ | ⟨hg, hnew⟩
  · have hrg := hl.2 g rfl
    have hch := chg_setCells (w := W) (o := o + bs.length) (vs := bv news) hrg
    have hxk : B8 role r (W.setCells g (o + bs.length) (bv news)) x xs := by
      refine ⟨?_, hx.2⟩
      rcases hm with ⟨A, n, c', rfl, e⟩ | hne
      · injection e with e1 e2 e3
        subst e1 e3
        have e4 := hx.1.len
        subst e4
        exact hx.1.over bs.length news (by omega) hroom
      · exact hx.1.move (by rw [size_setCells']; exact Nat.le_refl _) fun k hk => heap_setCells' _ _ _ _ (hx.1.lt k hk) (fun e => by subst e; exact hne _ hk rfl)
    refine ⟨_, cap, _, role, h1, ⟨h2, hl.2⟩, hxk, ?_, hch, Ext.refl _, ho.grow (by rw [size_setCells']; exact Nat.le_refl _), fun _ _ => rfl⟩
    rcases hm with ⟨A, n, c', rfl, e⟩ | hne
    · injection e with e1 e2 e3
      subst e1 e3
      exact .inl ⟨_, n, _, rfl, by rw [e2, Nat.add_assoc]⟩
    · exact .inr hne
  · obtain ⟨A', c', rfl⟩ : ∃ A' c', v' = .slice A' (bs.length + news.length) c' := by
      obtain ⟨A', c', e⟩ := h2.form
      exact ⟨A', c', by rw [e, List.length_append]⟩
    have he : Ext role (upd role (.slice A' (bs.length + news.length) c') r) := Ext.upd fun k hk => .inl (ho.none (hnew k hk))
    have hch : ChgR (fun q => q = r) role W W' := (ChgR.refl _ role W).grown hg (fun k e => by cases e)
    refine ⟨A', c', W', upd role (.slice A' (bs.length + news.length) c') r, h1, ⟨h2, fun k hk => upd_self _ _ _ hk⟩, hx.keep (P := fun _ => False) ((ChgR.refl _ role W).grown hg (fun k e => by cases e)) id he, .inr fun k hk e => ?_, hch, he, ho.upd hg.size (fun k hk => ⟨by have := hnew k hk; have := ho.1; omega, h2.lt k hk⟩), fun k hk => upd_old _ _ _ fun e => by have := hnew k e; omega⟩
    have := hnew k e
    have := hx.1.lt k hk
    omega
/-- The same of the list itself, and another that was grown out of it, by the same marks, stays. -/
theorem grow3_c {role : Role} {base : Nat} {r : Nat × Nat} {W : World} {x y : Value} {xs ys news : List Nat} {c : Nat} {ad : Addr} (ho : Old role base W) (hx : B8 role r W x xs) (hy : B8 role r W y ys) (hm : Mate x y (ys.length - xs.length))
    (hys : ys = (xs ++ news).take ys.length) (_hly : xs.length ≤ ys.length) (hr : Rd .u8 W (some ad) c news) (hd : Ds 256 news) (hn : xs.length + news.length ≤ 140737488355328) :
    ∃ A' c' W' role', (Builtin.append_ #[31, 31] 31 #[x, .slice (some ad) news.length c]).run Tryd.prog W = .ok (.slice A' (xs.length + news.length) c') W' ∧
      B8 role' r W' (.slice A' (xs.length + news.length) c') (xs ++ news) ∧ B8 role' r W' x xs ∧ B8 role' r W' y ys ∧ ChgR (fun q => q = r) role W W' ∧ Ext role role' ∧ Old role' base W' ∧ (∀ k, k < W.heap.size → role' k = role k) := by
  obtain ⟨v', W', h1, h2, h3⟩ := run_append_keep 31 hx.1 hr hd hn
  rcases h3 with ⟨g, o, cap, rfl, rfl, hroom, rfl⟩ | ⟨hg, hnew⟩
  · have hrg := hx.2 g rfl
    have hch := chg_setCells (w := W) (o := o + xs.length) (vs := bv news) hrg
    refine ⟨_, cap, _, role, h1, ⟨h2, hx.2⟩, ⟨hx.1.over xs.length news (by omega) hroom, hx.2⟩, ⟨?_, hy.2⟩, hch, Ext.refl _, ho.grow (by rw [size_setCells']; exact Nat.le_refl _), fun _ _ => rfl⟩
    rcases hm with ⟨A, n, c', e, rfl⟩ | hne
    · injection e with e1 e2 e3
      subst e1 e2 e3
      have hyc := hy.1.rd.le
      have hye := hy.1.len
      rw [hye] at hy ⊢
      refine hy.1.put xs.length news ys hy.1.1 hroom hyc fun j hj => ?_
      rcases Nat.lt_or_ge j xs.length with hlt | hge
      · exact .inr ⟨.inl hlt, hj, rfl⟩
      · have hll := congrArg List.length hys
        rw [List.length_take, List.length_append] at hll
        refine .inl ⟨hge, by omega, ?_⟩
        have h9 : ys[j]? = (xs ++ news)[j]? := by
          conv => lhs; rw [hys]
          rw [List.getElem?_take, if_pos hj]
        simp only [List.getD_eq_getElem?_getD]
        rw [h9, List.getElem?_append_right hge]
    · exact hy.1.move (by rw [size_setCells']; exact Nat.le_refl _) fun k hk => heap_setCells' _ _ _ _ (hy.1.lt k hk) (fun e => by subst e; exact hne _ rfl hk)
  · obtain ⟨A', c', rfl⟩ : ∃ A' c', v' = .slice A' (xs.length + news.length) c' := by
      obtain ⟨A', c', e⟩ := h2.form
      exact ⟨A', c', by rw [e, List.length_append]⟩
    have he : Ext role (upd role (.slice A' (xs.length + news.length) c') r) := Ext.upd fun k hk => .inl (ho.none (hnew k hk))
    have hch : ChgR (fun q => q = r) role W W' := (ChgR.refl _ role W).grown hg (fun k e => by cases e)
    have hch0 : ChgR (fun _ => False) role W W' := (ChgR.refl _ role W).grown hg (fun k e => by cases e)
    exact ⟨A', c', W', upd role (.slice A' (xs.length + news.length) c') r, h1, ⟨h2, fun k hk => upd_self _ _ _ hk⟩, hx.keep hch0 id he, hy.keep hch0 id he, hch, he, ho.upd hg.size (fun k hk => ⟨by have := hnew k hk; have := ho.1; omega, h2.lt k hk⟩), fun k hk => upd_old _ _ _ fun e => by have := hnew k e; omega⟩
theorem mark_set (q l : Nat) (bs : List Nat) (h : q < bs.length) : (List.replicate q l ++ bs.drop q).set q l = List.replicate (q + 1) l ++ bs.drop (q + 1) := by
  rw [List.set_append_right _ _ (by simp), List.length_replicate, Nat.sub_self, List.drop_eq_getElem_cons h, List.set_cons_zero, List.replicate_succ', List.append_assoc]
  rfl
end Go.Proofs.YtopeahjdglkheaaDoor
/- What stands while quarrykeep's Book.closeBytes grows its lists. -/
namespace Go.Proofs.YtopeahjdglkheaaDoor
open Go.RowKit

section
variable {base gb n : Nat} {v1 v2 : Value} {w : World} {us : List Value} {Ls : List (List Nat)} {role role' : Role} {wr w2 : World} {v3 : Value} {os : List Value} {v4 : Value} {ms : List Value} {j : Nat} {x : Value} {bs : List Nat}
theorem mk_cut (j L : Nat) : mks j L 16 = (mks j L 0 ++ List.replicate 700 (hi j)).take (mks j L 16).length := by
  rw [mk_len, mk_zero, mks, List.take_append, List.length_replicate, List.take_of_length_le (by simp), List.take_replicate, show min (L + 16 - L) 700 = 16 by omega]
theorem mk_more (j L : Nat) : mks j L 0 ++ List.replicate 700 (hi j) = mks j L 700 := by rw [mk_zero, mks]
end
end Go.Proofs.YtopeahjdglkheaaDoor
namespace Go.Proofs.YtopeahjdglkheaaDoor
open Go.RowKit

/-- The lists ahead of j are full of their marks. -/
def M1 (role : Role) (w wr : World) (us : List Value) (Ls : List (List Nat)) (j : Nat) : Prop :=
  ChgR (fun r => r.1 = 3) role w wr ∧ ∀ i x bs, us[i]? = some x → Ls[i]? = some bs → B8 role (3, i) wr x (if i < j then mks i bs.length 0 else bs)
theorem M1.next {role : Role} {w wr w2 : World} {us : List Value} {Ls : List (List Nat)} {j : Nat} {x : Value} {bs : List Nat} (h : M1 role w wr us Ls j) (hx : us[j]? = some x) (hb : Ls[j]? = some bs) (hc : ChgR (fun r => r = (3, j)) role wr w2) (ha : AccO w2 x (mks j bs.length 0)) : M1 role w w2 us Ls (j + 1) := by
  refine ⟨h.1.same (hc.mono fun r e => by rw [e]), fun i y ys hy hys => ?_⟩
  have h2 := h.2 i y ys hy hys
  by_cases e : i = j
  · subst e
    rw [hx] at hy; injection hy with hy; subst hy
    rw [hb] at hys; injection hys with hys; subst hys
    rw [if_pos (Nat.lt_succ_self _)]
    exact ⟨ha, h2.2⟩
  · have h3 := h2.keep hc (by intro e2; injection e2 with e2 e3; exact e e3) (Ext.refl _)
    by_cases e4 : i < j
    · rw [if_pos e4] at h3; rw [if_pos (by omega)]; exact h3
    · rw [if_neg e4] at h3; rw [if_neg (by omega)]; exact h3
theorem AccO.lbl {w : World} {v : Value} {bs : List Nat} (h : AccO w v bs) {ys : List Nat} (e : bs = ys) : AccO w v ys := e ▸ h

end Go.Proofs.YtopeahjdglkheaaDoor
/- A Book and a Loan of quarrykeep beside each other, as laws on memory use them. -/
namespace Go.Proofs.YtopeahjdglkheaaDoor
open Go.RowKit

section
variable {base gb gl : Nat} {role : Role} {w w' : World} {k : Nat}
theorem ext_of {role' : Role} (ho : Old role base w) (h : ∀ i, i < w.heap.size → role' i = role i) : Ext role role' := fun i r e => by rw [h i (ho.2 i r e).2]; exact e
theorem book_loan {c j : Nat} (h : 5 ≤ c) : ¬ BookR (c, j) := fun e => by have : c ≤ 2 := e; omega
theorem loan_book {c j : Nat} (h : c ≤ 4) : ¬ LoanR (c, j) := fun e => by have : c = 5 ∨ c = 6 ∨ c = 7 := e; omega
/-- At the outset. -/
def role0 (gb gl : Nat) : Role := fun i => if i = gl then some (5, 0) else if i = gb then some (0, 0) else none
end
end Go.Proofs.YtopeahjdglkheaaDoor
namespace Go.Proofs.YtopeahjdglkheaaDoor
open Go.RowKit

structure KeepL (base gl : Nat) (role : Role) (w : World) (k : Nat) : Prop where
  old : Old role base w
  loan : ∃ us ws Ls, LoanAt role w gl us ws Ls ∧ Ls.length ≤ k ∧ ∀ bs ∈ Ls, bs.length ≤ 140737488355328
/-- A row of ints in a block of the role r. -/
def RI (role : Role) (r : Nat × Nat) (w : World) (v : Value) (n : Nat) (xs : List Value) : Prop := w.ownsRow 0 3 1 v n xs ∧ ∀ k, v.ownBlock = some k → role k = some r
section
variable {base gl n k : Nat} {role role' : Role} {r : Nat × Nat} {P : Nat × Nat → Prop} {w w' : World} {v : Value} {xs : List Value}
theorem KeepL.chg (h : KeepL base gl role w k) (hc : ChgR P role w w') (hp : ∀ c j, 5 ≤ c → c ≤ 9 → ¬ P (c, j)) : KeepL base gl role w' k := by
  obtain ⟨us, ws, Ls, h1, h2, h3⟩ := h.loan
  exact ⟨h.old.grow hc.size, us, ws, Ls, h1.keep hc hp (Ext.refl _), h2, h3⟩
theorem KeepL.below (h : KeepL base gl role w k) (hb : Below w.heap.size w w') : KeepL base gl role w' k := h.chg (ChgR.of (fun _ => False) role hb) (fun _ _ _ _ => id)
theorem RI.keep (h : RI role r w v n xs) (hc : ChgR P role w w') (hp : ¬ P r) (he : Ext role role') : RI role' r w' v n xs := by
  refine ⟨⟨h.1.1, ?_⟩, fun i hi => he i r (h.2 i hi)⟩
  rcases h.1.2 with h1 | ⟨g, cap, cur, e, hb, hg, rest⟩
  · exact .inl h1
  · exact .inr ⟨g, cap, cur, e, hb, (hc.block g (Array.getElem?_eq_some_iff.1 hg).1 fun r' e' hp' => by rw [h.2 g (by rw [e]; rfl)] at e'; injection e' with e'; subst e'; exact hp hp').trans hg, rest⟩
theorem RI.below (h : RI role r w v n xs) (hb : Below w.heap.size w w') : RI role r w' v n xs := h.keep (ChgR.of (fun _ => False) role hb) id (Ext.refl _)
/-- A list has been lent. -/
def LentL (base gl : Nat) (role : Role) (w : World) (k n : Nat) (bs : List Nat) (e : Ending) (w' : World) : Prop := ∃ (role' : Role) (g c' : Nat), e = .returned (.slice (some ⟨g, 0, none⟩) n c') ∧ Rd .u8 w' (some ⟨g, 0, none⟩) c' bs ∧
  KeepL base gl role' w' (k + 1) ∧ Ext role role' ∧ ChgR LoanR role w w' ∧ Below base w w'
theorem KeepL.lend (h : KeepL base gl role w k) {A : Option Addr} {c : Nat} {bs : List Nat} (hr : Rd .u8 w A c bs) (hd : Ds 256 bs) (hl : bs.length ≤ 70368744177665) (hk : k ≤ 1000000) :
    Calls Tryd.prog 23 #[.pointer (some ⟨gl, 0, none⟩), .slice A bs.length c] w (LentL base gl role w k bs.length bs) := by
  obtain ⟨us, ws, Ls, h2, h3, h4⟩ := h.loan
  refine (loan_bytes_c h2 h.old hr hd hl (by omega)).mono fun e w' ⟨role', us', ws', g, c', e1, e2, e3, e4, e5, e6, e7⟩ => ?_
  exact ⟨role', g, c', e1, e2.1.rd, ⟨e5, us', ws', _, e4, by rw [List.length_append, List.length_singleton]; omega, fun ys hy => by
    rcases List.mem_append.1 hy with hy | hy
    · exact h4 ys hy
    · simp at hy; subst hy; simp; omega⟩, ext_of h.old e6, e7, e7.below h.old⟩
/-- A row that a call has made gets a role of its own. -/
theorem KeepL.give {w2 : World} (h : KeepL base gl role w2 k) (hb : Below w2.heap.size w2 w) (hv : w.ownsRow w2.heap.size 3 1 v n xs) : KeepL base gl (upd role v r) w k ∧ Ext role (upd role v r) ∧ RI (upd role v r) r w v n xs := by
  have hlt := World.ownsRow.lt hv
  have hn : ∀ i, v.ownBlock = some i → role i = none := fun i hi => h.old.none (hlt i hi).1
  have he : Ext role (upd role v r) := Ext.upd fun i hi => .inl (hn i hi)
  obtain ⟨us, ws, Ls, h1, h2, h3⟩ := (h.below hb).loan
  exact ⟨⟨h.old.upd hb.size (fun i hi => ⟨Nat.le_trans h.old.1 (hlt i hi).1, (hlt i hi).2⟩), us, ws, Ls, h1.keep (ChgR.refl (fun _ => False) _ _) (fun _ _ _ _ => id) he, h2, h3⟩, he, World.ownsRow.mono hv (Nat.zero_le _), fun i hi => upd_self _ _ _ hi⟩
theorem KeepL.back (h : KeepL base gl role w k) (hk : k ≤ 1000000) :
    Calls Tryd.prog 24 #[.pointer (some ⟨gl, 0, none⟩)] w fun e w' => e = .returned (.bool true) ∧ Below base w w' := by
  obtain ⟨us, ws, Ls, h2, h3, h4⟩ := h.loan
  exact (lback_c h2 (by omega) h4).mono fun e w' ⟨e1, e2⟩ => ⟨e1, e2.below h.old⟩
def roleL (gl : Nat) : Role := fun i => if i = gl then some (5, 0) else none
theorem KeepL.new (hl : w.heap[gl]? = some (.cells #[.slice none 0 0, .slice none 0 0] 50 (0, 0))) (h1 : base ≤ gl) : KeepL base gl (roleL gl) w 0 := by
  have hlt := heap_lt' hl
  refine ⟨⟨by omega, fun i r e => ?_⟩, [], [], [], ⟨⟨_, _, hl, SS.nil _ _ _, SS.nil _ _ _⟩, by simp [roleL], Fam.nil _ _ _, Fam.nil _ _ _⟩, by simp, fun bs h => by cases h⟩
  unfold roleL at e
  by_cases e1 : i = gl
  · subst e1; exact ⟨h1, hlt⟩
  · rw [if_neg e1] at e; cases e
/-- A cell of a row that bears the role is turned. -/
theorem RI.store {g m c : Nat} (h : RI role r w (.slice (some ⟨g, 0, none⟩) n c) n xs) (u : Value) : RI role r (w.setCell ⟨g, m, none⟩ u) (.slice (some ⟨g, 0, none⟩) n c) n (xs.set m u) ∧ ChgR (fun s => s = r) role w (w.setCell ⟨g, m, none⟩ u) :=
  ⟨⟨(World.ownsRow.stored h.1 m u).1, h.2⟩, (ChgR.refl _ _ _).set u (h.2 g rfl) rfl⟩
theorem RI.at_ {A : Option Addr} {c m : Nat} (h : RI role r w (.slice A n c) n xs) (hm : m < n) : ∃ g x, A = some ⟨g, 0, none⟩ ∧ xs[m]? = some x ∧ w.cell? ⟨g, m, none⟩ = some x ∧ w.frozen? ⟨g, m, none⟩ = false := by
  have h0 := h.1
  have hx : m < xs.length := by rw [h0.1]; omega
  rcases h.1.2 with ⟨e, h1⟩ | ⟨g, cap, cur, e, _⟩
  · omega
  · injection e with e1 e2 e3
    subst e1
    refine ⟨g, xs[m], rfl, List.getElem?_eq_getElem hx, ?_, World.ownsRow.frozenAt h0 m⟩
    rw [World.ownsRow.cellAt h0 m (by omega), List.getElem?_eq_getElem hx]
end
end Go.Proofs.YtopeahjdglkheaaDoor
