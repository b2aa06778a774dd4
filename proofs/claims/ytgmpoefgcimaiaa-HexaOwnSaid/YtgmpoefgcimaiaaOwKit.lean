/- Memory of one's own: slices of bytes in blocks that bear a role; what changes blocks of some roles alone leaves the others. -/
import Derived.Test.YtgmpoefgcimaiaaOwn8
import Derived.Test.YtgmpoefgcimaiaaTwin
import Derived.ArgAppend
import Derived.Maps.AppendAt
import Derived.Laws.AppendOwnNone
import Derived.Deep.DeepCutAuto
import Derived.Deep.CutBlock
import Derived.RegionTactic
import Derived.BigRegion
import Derived.BigQuiet
import Derived.Deep.RegionLaw
namespace Go.Proofs.Ytgmpoefgcimaiaa
open Go.RowKit

section
variable {w w' : World} {base n c g o : Nat} {A : Option Addr} {v : Value} {bs : List Nat}
theorem size_setCells' (b : Nat) : ∀ (vs : List Value) (o : Nat) (w : World), (w.setCells b o vs).heap.size = w.heap.size
  | [], _, _ => rfl
  | v :: r, o, w => by rw [World.setCells, size_setCells' b r]; simp [World.setCell]
theorem cell_some_set (w : World) (a b : Addr) (x : Value) (h : (w.cell? a).isSome = true) : ((w.setCell b x).cell? a).isSome = true := by
  obtain ⟨u, hu⟩ := Option.isSome_iff_exists.1 h
  obtain ⟨u', hu'⟩ := cell?_setCell_some (p := b) (x := x) hu
  rw [hu']; rfl
theorem cell_some_sets (b : Nat) : ∀ (vs : List Value) (o : Nat) (w : World) (a : Addr), (w.cell? a).isSome = true → ((w.setCells b o vs).cell? a).isSome = true
  | [], _, _, _, h => h
  | v :: r, o, w, a, h => cell_some_sets b r (o + 1) _ a (cell_some_set w a _ v h)
/-- The same cells, some of them turned: what the slice, or one that begins there too, reads then. -/
theorem AccO.put (h : AccO w (.slice (some ⟨g, o, none⟩) n c) bs) (p : Nat) (vs bs' : List Nat) (hd : Ds 256 bs') (hp : p + vs.length ≤ c) (hl : bs'.length ≤ c)
    (hv : ∀ j, j < bs'.length → (p ≤ j ∧ j < p + vs.length ∧ bs'.getD j 0 = vs.getD (j - p) 0) ∨ ((j < p ∨ p + vs.length ≤ j) ∧ j < bs.length ∧ bs'.getD j 0 = bs.getD j 0)) :
    AccO (w.setCells g (o + p) (bv vs)) (.slice (some ⟨g, o, none⟩) bs'.length c) bs' := by
  rcases h.2 with ⟨e, rfl⟩ | ⟨g', o', cap, e, h1, h2, h3, h4, h5⟩
  · cases e
  · injection e with e1 e2 e3
    injection e1 with e1
    injection e1 with e1 e4
    subst e1 e3 e4
    refine ⟨hd, .inr ⟨g, o, c, rfl, hl, h2, by rw [size_setCells']; exact h3, fun j hj => ⟨cell_some_sets _ _ _ _ _ (h4 j hj).1, by rw [World.frozen?_setCells]; exact (h4 j hj).2⟩, fun j hj => ?_⟩⟩
    rcases hv j hj with ⟨q1, q2, q3⟩ | ⟨q1, q2, q3⟩
    · have hin := World.cell?_setCells_in g (bv vs) (o + p) w (fun i hi => by rw [bv_length] at hi; rw [Nat.add_assoc]; exact (h4 (p + i) (by omega)).1) (j - p) (by rw [bv_length]; omega)
      rw [show o + p + (j - p) = o + j by omega] at hin
      rw [hin, q3, ← List.getElem?_eq_getElem, bv_get vs (j - p) (by omega)]
    · rw [World.cell?_setCells_out g (bv vs) (o + p) w ⟨g, o + j, none⟩ (fun _ _ => by rw [bv_length]; simp only; omega), h5 j q2, q3]
theorem AccO.room (h : AccO w (.slice (some ⟨g, o, none⟩) bs.length c) bs) (vs : List Nat) (hd : Ds 256 vs) (hp : bs.length + vs.length ≤ c) :
    AccO (w.setCells g (o + bs.length) (bv vs)) (.slice (some ⟨g, o, none⟩) (bs.length + vs.length) c) (bs ++ vs) := by
  have := h.put bs.length vs (bs ++ vs) (h.1.append hd) hp (by rw [List.length_append]; exact hp) (fun j hj => by
    rw [List.length_append] at hj
    rcases Nat.lt_or_ge j bs.length with hlt | hge
    · right; exact ⟨.inl hlt, hlt, by rw [List.getD_eq_getElem?_getD, List.getD_eq_getElem?_getD, List.getElem?_append_left hlt]⟩
    · left; exact ⟨hge, hj, by rw [List.getD_eq_getElem?_getD, List.getD_eq_getElem?_getD, List.getElem?_append_right hge]⟩)
  rwa [List.length_append] at this
theorem AccO.over (h : AccO w (.slice (some ⟨g, o, none⟩) bs.length c) bs) (p : Nat) (vs : List Nat) (hb : bs.length ≤ p) (hp : p + vs.length ≤ c) :
    AccO (w.setCells g (o + p) (bv vs)) (.slice (some ⟨g, o, none⟩) bs.length c) bs :=
  h.put p vs bs h.1 hp (by omega) (fun j hj => .inr ⟨.inl (by omega), hj, rfl⟩)
theorem AccO.set (h : AccO w (.slice (some ⟨g, o, none⟩) n c) bs) (j y : Nat) (hj : j < bs.length) (hy : y < 256) : AccO (w.setCell ⟨g, o + j, none⟩ (.int .u8 (y : Int))) (.slice (some ⟨g, o, none⟩) n c) (bs.set j y) := by
  have hn : n = bs.length ∧ bs.length ≤ c := by
    rcases h.2 with ⟨e, _⟩ | ⟨_, _, _, e, h1, _⟩
    · cases e
    · injection e with e1 e2 e3; subst e2 e3; exact ⟨rfl, h1⟩
  have := h.put j [y] (bs.set j y) (h.1.set j y hy) (by simp; omega) (by rw [List.length_set]; omega) (fun i hi => by
    rw [List.length_set] at hi
    by_cases e : i = j
    · left; subst e; exact ⟨Nat.le_refl _, by simp, by simp [List.getD_eq_getElem?_getD, hi]⟩
    · right; exact ⟨by simp; omega, hi, by simp [List.getD_eq_getElem?_getD, Ne.symm e]⟩)
  rw [List.length_set, ← hn.1] at this
  exact this
end

/-- A piece from the start. -/
theorem AccO.take {w : World} {g o n c m : Nat} {bs : List Nat} (h : AccO w (.slice (some ⟨g, o, none⟩) n c) bs) (hm : m ≤ bs.length) : AccO w (.slice (some ⟨g, o, none⟩) m c) (bs.take m) := by
  have hl : (bs.take m).length = m := by rw [List.length_take]; omega
  rcases h.2 with ⟨e, _⟩ | ⟨g', o', cap, e, h1, h2, h3, h4, h5⟩
  · cases e
  · injection e with e1 e2 e3
    injection e1 with e1
    injection e1 with e1 e4
    subst e1 e3 e4
    refine ⟨h.1.take m, .inr ⟨g, o, c, by rw [hl], by omega, h2, h3, h4, fun j hj => ?_⟩⟩
    rw [hl] at hj
    rw [h5 j (by omega)]
    congr 3
    rw [List.getD_eq_getElem?_getD, List.getD_eq_getElem?_getD, List.getElem?_take, if_pos hj]

/-! ## Roles -/
abbrev Role := Nat → Option (Nat × Nat)
/-- Blocks that bear a role are there, from base on. -/
def Old (role : Role) (base : Nat) (w : World) : Prop := base ≤ w.heap.size ∧ ∀ k r, role k = some r → base ≤ k ∧ k < w.heap.size
def Ext (role role' : Role) : Prop := ∀ k r, role k = some r → role' k = some r
theorem Ext.refl (role : Role) : Ext role role := fun _ _ h => h
theorem Ext.trans {a b c : Role} (h : Ext a b) (k : Ext b c) : Ext a c := fun i r hi => k i r (h i r hi)
/-- Of what was there, blocks of the roles P alone have changed. -/
structure ChgR (P : Nat × Nat → Prop) (role : Role) (w w' : World) : Prop where
  os : w'.os = w.os
  tape : w'.tape = w.tape
  output : w'.output = w.output
  size : w.heap.size ≤ w'.heap.size
  block : ∀ k, k < w.heap.size → (∀ r, role k = some r → ¬ P r) → w'.heap[k]? = w.heap[k]?
section
variable {P P' : Nat × Nat → Prop} {role role' : Role} {w w' w2 : World} {base : Nat}
theorem ChgR.refl (P : Nat × Nat → Prop) (role : Role) (w : World) : ChgR P role w w := ⟨rfl, rfl, rfl, Nat.le_refl _, fun _ _ _ => rfl⟩
theorem ChgR.of (P : Nat × Nat → Prop) (role : Role) (h : Below w.heap.size w w') : ChgR P role w w' := ⟨h.os, h.tape, h.output, h.size, fun k hk _ => h.block k hk⟩
theorem ChgR.mono (h : ChgR P role w w') (hP : ∀ r, P r → P' r) : ChgR P' role w w' := ⟨h.os, h.tape, h.output, h.size, fun k hk hr => h.block k hk fun r e hp => hr r e (hP r hp)⟩
/-- Two changes, behind the first of which blocks have got roles: new ones, or ones that P' speaks of. -/
theorem ChgR.trans (h : ChgR P role w w') (k : ChgR P role' w' w2) (he : ∀ i r, i < w.heap.size → role' i = some r → P r → ∃ r', role i = some r' ∧ P r') : ChgR P role w w2 :=
  ⟨k.os.trans h.os, k.tape.trans h.tape, k.output.trans h.output, Nat.le_trans h.size k.size, fun i hi hr => (k.block i (Nat.lt_of_lt_of_le hi h.size) fun r e hp => by
    obtain ⟨r', e', hp'⟩ := he i r hi e hp
    exact hr r' e' hp').trans (h.block i hi hr)⟩
theorem ChgR.same (h : ChgR P role w w') (k : ChgR P role w' w2) : ChgR P role w w2 := h.trans k fun _ r _ e hp => ⟨r, e, hp⟩
theorem ChgR.below (h : ChgR P role w w') (ho : Old role base w) : Below base w w' := ⟨h.os, h.tape, h.output, h.size, fun k hk => h.block k (by have := ho.1; omega) fun r e _ => by have := (ho.2 k r e).1; omega⟩
theorem ChgR.set (h : ChgR P role w w') {g j : Nat} {r : Nat × Nat} (v : Value) (hg : role g = some r) (hp : P r) : ChgR P role w (w'.setCell ⟨g, j, none⟩ v) :=
  ⟨h.os, h.tape, h.output, by simpa using h.size, fun i hi hr => (Below.heap_setCell _ _ _ _ (fun e => by subst e; exact hr r hg hp)).trans (h.block i hi hr)⟩
theorem ChgR.new (h : ChgR P role w w') {g j : Nat} (v : Value) (hg : w.heap.size ≤ g) : ChgR P role w (w'.setCell ⟨g, j, none⟩ v) :=
  ⟨h.os, h.tape, h.output, by simpa using h.size, fun i hi hr => (Below.heap_setCell _ _ _ _ (fun e => by have e' : i = g := e; omega)).trans (h.block i hi hr)⟩
theorem ChgR.grown {row : Option Nat} (h : ChgR P role w w') (hg : w'.grownBy w2 row) (hr : ∀ k, row = some k → w.heap.size ≤ k ∨ ∃ r, role k = some r ∧ P r) : ChgR P role w w2 :=
  ⟨hg.os.trans h.os, hg.tape.trans h.tape, hg.output.trans h.output, Nat.le_trans h.size hg.size, fun i hi hq => (hg.block i (Nat.lt_of_lt_of_le hi h.size) fun e => by
    rcases hr i e.symm with h1 | ⟨r, h1, h2⟩
    · omega
    · exact hq r h1 h2).trans (h.block i hi hq)⟩
theorem ChgR.alloc (h : ChgR P role w w') (ob : Obj) : ChgR P role w (w'.alloc ob) := h.grown (World.grownBy_alloc w' ob none) (fun _ e => by cases e)
theorem ChgR.drew (h : ChgR P role w w') : ChgR P role w w'.drew := ⟨h.os, h.tape, h.output, h.size, h.block⟩
theorem ChgR.drewN (h : ChgR P role w w') (n : Nat) : ChgR P role w (w'.drewN n) := ⟨h.os, h.tape, h.output, h.size, h.block⟩
theorem Old.grow (h : Old role base w) (hs : w.heap.size ≤ w'.heap.size) : Old role base w' := ⟨Nat.le_trans h.1 hs, fun k r e => ⟨(h.2 k r e).1, Nat.lt_of_lt_of_le (h.2 k r e).2 hs⟩⟩
end
/-- A slice of bytes in a block of the role r. -/
def B8 (role : Role) (r : Nat × Nat) (w : World) (v : Value) (bs : List Nat) : Prop := AccO w v bs ∧ ∀ k, v.ownBlock = some k → role k = some r
/-- A slice of slices, in a block of the role r. -/
def SS (role : Role) (r : Nat × Nat) (w : World) (v : Value) (us : List Value) : Prop := w.ownsRow 0 22 1 v us.length us ∧ ∀ k, v.ownBlock = some k → role k = some r
section
variable {P : Nat × Nat → Prop} {role role' : Role} {r : Nat × Nat} {w w' : World} {v : Value} {bs : List Nat} {us : List Value}
theorem B8.keep (h : B8 role r w v bs) (hc : ChgR P role w w') (hp : ¬ P r) (he : Ext role role') : B8 role' r w' v bs :=
  ⟨h.1.move hc.size fun k hk => hc.block k (h.1.lt k hk) fun r' e hp' => by rw [h.2 k hk] at e; injection e with e; subst e; exact hp hp', fun k hk => he k r (h.2 k hk)⟩
theorem SS.keep (h : SS role r w v us) (hc : ChgR P role w w') (hp : ¬ P r) (he : Ext role role') : SS role' r w' v us := by
  refine ⟨⟨h.1.1, ?_⟩, fun k hk => he k r (h.2 k hk)⟩
  rcases h.1.2 with h1 | ⟨g, cap, cur, e, hb, hg, rest⟩
  · exact .inl h1
  · exact .inr ⟨g, cap, cur, e, hb, (hc.block g (Array.getElem?_eq_some_iff.1 hg).1 fun r' e' hp' => by rw [h.2 g (by rw [e]; rfl)] at e'; injection e' with e'; subst e'; exact hp hp').trans hg, rest⟩
theorem SS.nil (role : Role) (r : Nat × Nat) (w : World) : SS role r w (.slice none 0 0) [] := ⟨World.ownsRow_nil _ _ _ _, fun k h => by cases h⟩
theorem SS.form (h : SS role r w v us) : ∃ A c, v = .slice A us.length c := by
  rcases h.1.2 with ⟨e, h0⟩ | ⟨g, cap, cur, e, _⟩
  · exact ⟨none, 0, by rw [e, h0]⟩
  · exact ⟨_, _, e⟩
/-- The slices of a slice of slices: where they lie. -/
theorem SS.at_ (h : SS role r w v us) {j : Nat} (hj : j < us.length) : ∃ g c, v = .slice (some ⟨g, 0, none⟩) us.length c ∧ us.length ≤ c ∧ ∀ i u, us[i]? = some u → w.cell? ⟨g, i, none⟩ = some u := by
  rcases h.1.2 with ⟨e, h0⟩ | ⟨g, cap, cur, e, hb, hg, hn, hm, hs, ht⟩
  · omega
  · refine ⟨g, cap, e, hn, fun i u hu => ?_⟩
    have hi : i < us.length := (List.getElem?_eq_some_iff.1 hu).1
    rw [cell_of_row w g i cur _ (0, 0) hg, ← Array.getElem?_toList, ← hu, ← ht, List.getElem?_take, if_pos (by omega)]
end
/-- Slices of bytes, each in blocks of a role of its own. -/
def Fam (role : Role) (c : Nat) (w : World) (us : List Value) (Ls : List (List Nat)) : Prop := us.length = Ls.length ∧ ∀ j v bs, us[j]? = some v → Ls[j]? = some bs → B8 role (c, j) w v bs
section
variable {P : Nat × Nat → Prop} {role role' : Role} {c : Nat} {w w' : World} {v : Value} {bs : List Nat} {us : List Value} {Ls : List (List Nat)}
theorem Fam.nil (role : Role) (c : Nat) (w : World) : Fam role c w [] [] := ⟨rfl, fun j v bs h => by simp at h⟩
theorem Fam.keep (h : Fam role c w us Ls) (hc : ChgR P role w w') (hp : ∀ j, ¬ P (c, j)) (he : Ext role role') : Fam role' c w' us Ls :=
  ⟨h.1, fun j v bs h1 h2 => (h.2 j v bs h1 h2).keep hc (hp j) he⟩
theorem Fam.grow (h : Fam role c w us Ls) (hb : B8 role (c, Ls.length) w v bs) : Fam role c w (us ++ [v]) (Ls ++ [bs]) := by
  refine ⟨by simp [h.1], fun j u ys h1 h2 => ?_⟩
  rcases Nat.lt_or_ge j us.length with hlt | hge
  · rw [List.getElem?_append_left hlt] at h1
    rw [List.getElem?_append_left (by rw [← h.1]; exact hlt)] at h2
    exact h.2 j u ys h1 h2
  · rw [List.getElem?_append_right hge] at h1
    rw [List.getElem?_append_right (by rw [← h.1]; exact hge)] at h2
    have h0 : j - us.length = 0 := by
      rcases Nat.eq_zero_or_pos (j - us.length) with h0 | h0
      · exact h0
      · rw [List.getElem?_eq_none (by simp; omega)] at h1; cases h1
    rw [h0] at h1
    rw [← h.1, h0] at h2
    simp at h1 h2
    subst h1 h2
    have : j = Ls.length := by rw [← h.1]; omega
    rw [this]
    exact hb
theorem Fam.at_ (h : Fam role c w us Ls) {j : Nat} (hj : j < us.length) : ∃ v bs, us[j]? = some v ∧ Ls[j]? = some bs ∧ B8 role (c, j) w v bs := by
  obtain ⟨v, hv⟩ : ∃ v, us[j]? = some v := ⟨_, List.getElem?_eq_getElem hj⟩
  obtain ⟨b, hb⟩ : ∃ b, Ls[j]? = some b := ⟨_, List.getElem?_eq_getElem (by rw [← h.1]; exact hj)⟩
  exact ⟨v, b, hv, hb, h.2 j v b hv hb⟩
end
theorem infoSl : (Try.prog.info? 22).map (fun i => (i.zero, i.size, i.bytes)) = some (some (.slice none 0 0), 1, 24) := by kernel_rfl
end Go.Proofs.Ytgmpoefgcimaiaa
/- append, told with all that is kept: of bytes read anywhere onto a slice that is owned, and onto a slice with its spare room. -/
namespace Go.Proofs.Ytgmpoefgcimaiaa
open Go.RowKit

section
variable {w : World} {base : Nat} {v : Value} {xs : List Value} {n : Nat}
theorem rd_nil_empty {k : IntKind} {c : Nat} {bs : List Nat} (h : Rd k w none c bs) : bs = [] ∧ c = 0 := by
  refine ⟨?_, h.cap rfl⟩
  rcases Nat.eq_zero_or_pos bs.length with h0 | h0
  · exact List.eq_nil_of_length_eq_zero h0
  · obtain ⟨_, _, e, _⟩ := h.at_ h0; cases e
/-- Bytes that are read anywhere, appended to bytes of one's own. -/
theorem run_append_rd (t' : TypeId) {bs : List Nat} (hown : Acc w base v bs) {A : Option Addr} {c : Nat} {news : List Nat} (hr : Rd .u8 w A c news) (hn : bs.length + news.length ≤ 140737488355328) (hb : base ≤ w.heap.size) :
    ∃ v' w', (Builtin.append_ #[22, 22] t' #[v, .slice A news.length c]).run Try.prog w = .ok v' w' ∧ Acc w' base v' (bs ++ news) ∧ w.grownBy w' v.ownBlock ∧ (v'.ownBlock = v.ownBlock ∨ v'.ownBlock = some w.heap.size) := by
  obtain ⟨i0, hi, hz0, hz1, hz2⟩ := info_parts info8
  rcases A with _ | ad
  · obtain ⟨rfl, rfl⟩ := rd_nil_empty hr
    exact ⟨v, w, run_append_owned_none (P := Try.prog) (w := w) base 22 t' 5 i0 1 Try.underlying22 hi v _ _ hown, by simpa using hown, ⟨rfl, rfl, rfl, Nat.le_refl _, fun _ _ _ => rfl⟩, .inl rfl⟩
  · obtain ⟨v', w', h1, h2, h3, _, h5⟩ := run_append_own_at (P := Try.prog) w base 22 t' 5 i0 (.int .u8 0) 1 1 Try.underlying22 hi hz0 hz1 hz2 rfl (by decide) v _ _ hown ad news.length c (bv news) (by rw [bv_length, Nat.mul_one]) (Rd.news hr) (bv_one _) (by unfold maxLen; omega) (by omega) hb
    refine ⟨v', w', h1, ?_, h3, h5⟩
    unfold Acc
    rw [List.length_append, bv_append]
    exact h2
/-- Bytes of one's own, appended to a slice with its spare room: there, where there is room, else all in new memory. -/
theorem run_append_keep (t' : TypeId) {bs : List Nat} (h : AccO w v bs) {ad : Addr} {c : Nat} {news : List Nat} (hr : Rd .u8 w (some ad) c news) (hd : Ds 256 news) (hn : bs.length + news.length ≤ 140737488355328) :
    ∃ v' w', (Builtin.append_ #[22, 22] t' #[v, .slice (some ad) news.length c]).run Try.prog w = .ok v' w' ∧ AccO w' v' (bs ++ news) ∧
      ((∃ g o cap, v = .slice (some ⟨g, o, none⟩) bs.length cap ∧ v' = .slice (some ⟨g, o, none⟩) (bs.length + news.length) cap ∧ bs.length + news.length ≤ cap ∧ w' = w.setCells g (o + bs.length) (bv news)) ∨
       (w.grownBy w' none ∧ ∀ k, v'.ownBlock = some k → w.heap.size ≤ k)) := by
  obtain ⟨i0, hi, hz0, hz1, hz2⟩ := info_parts info8
  have hnews := Rd.news hr
  rcases h.2 with ⟨rfl, rfl⟩ | ⟨g, o, cap, rfl, h1, h2, h3, h4, h5⟩
  · obtain ⟨v', w', k1, k2, k3, _, k5⟩ := run_append_own_at (P := Try.prog) w w.heap.size 22 t' 5 i0 (.int .u8 0) 1 1 Try.underlying22 hi hz0 hz1 hz2 rfl (by decide) (.slice none 0 0) 0 [] (World.ownsRow_nil w w.heap.size _ 1) ad news.length c (bv news) (by rw [bv_length, Nat.mul_one]) hnews (bv_one _) (by unfold maxLen; simp at hn; omega) (by simp at hn; omega) (Nat.le_refl _)
    have ha : Acc w' w.heap.size v' news := by
      unfold Acc
      simpa using k2
    exact ⟨v', w', k1, AccO.of (base := w.heap.size) (by simpa using ha) hd, .inr ⟨k3, fun k hk => ha.own k hk⟩⟩
  · by_cases hroom : bs.length + news.length ≤ cap
    · have hrun := run_append_room_cells (P := Try.prog) w 22 t' 5 i0 Try.underlying22 hi g o bs.length cap ad news.length c (bv news) (by rw [bv_length, hz1, Nat.mul_one]) hnews (bv_one _) hroom
        (fun j hj => by rw [bv_length] at hj; rw [hz1, Nat.mul_one, Nat.add_assoc]; exact (h4 _ (by omega)).1) (fun j hj => by rw [bv_length] at hj; rw [hz1, Nat.mul_one, Nat.add_assoc]; exact (h4 _ (by omega)).2)
      rw [hz1, Nat.mul_one] at hrun
      exact ⟨_, _, hrun, h.room news hd hroom, .inl ⟨g, o, cap, rfl, rfl, hroom, rfl⟩⟩
    · obtain ⟨v', w', k1, k2, k3⟩ := run_append_arg_grows (P := Try.prog) w 22 t' 5 i0 (.int .u8 0) 1 1 Try.underlying22 hi hz0 hz1 hz2 rfl (by decide) ⟨g, o, none⟩ bs.length cap (bv bs) (by rw [bv_length, Nat.mul_one])
        (Rd.news h.rd) ad news.length c (bv news) (by rw [bv_length, Nat.mul_one]) hnews (by omega) (by unfold maxLen; omega) (by omega)
      have ha : Acc w' w.heap.size v' (bs ++ news) := by
        unfold Acc
        rw [List.length_append, bv_append]
        exact k2
      exact ⟨v', w', k1, AccO.of ha (h.1.append hd), .inr ⟨k3, fun k hk => ha.own k hk⟩⟩
/-- One slice more in a slice of slices. -/
theorem run_append_ss (t' : TypeId) {us : List Value} (hown : w.ownsRow base 22 1 v us.length us) {ad : Addr} {c : Nat} {A : Option Addr} {m k : Nat} (hx : w.cell? ad = some (.slice A m k)) (ha : ad.add 0 = ad) (hn : us.length ≤ 2147483648) (hb : base ≤ w.heap.size) :
    ∃ v' w', (Builtin.append_ #[51, 51] t' #[v, .slice (some ad) 1 c]).run Try.prog w = .ok v' w' ∧ w'.ownsRow base 22 1 v' (us ++ [Value.slice A m k]).length (us ++ [Value.slice A m k]) ∧ w.grownBy w' v.ownBlock ∧ (v'.ownBlock = v.ownBlock ∨ v'.ownBlock = some w.heap.size) := by
  obtain ⟨i0, hi, hz0, hz1, hz2⟩ : ∃ i, Try.prog.info? 22 = some i ∧ i.zero = some (.slice none 0 0) ∧ i.size = 1 ∧ i.bytes = 24 := by
    obtain ⟨i, hi, he⟩ := Option.map_eq_some_iff.1 infoSl
    injection he with h1 h2
    injection h2 with h2 h3
    exact ⟨i, hi, h1, h2, h3⟩
  obtain ⟨v', w', h1, h2, h3, _, h5⟩ := run_append_own_at (P := Try.prog) w base 51 t' 22 i0 (.slice none 0 0) 1 24 Try.underlying51 hi hz0 hz1 hz2 rfl (by decide) v _ _ hown ad 1 c [.slice A m k] (by simp)
    (by
      intro j u hj
      match j, hj with
      | 0, hj => simp at hj; subst hj; rw [ha]; exact hx) (by intro u hu; simp at hu; subst hu; rfl) (by unfold maxLen; omega) (by omega) hb
  exact ⟨v', w', h1, by rw [List.length_append]; exact h2, h3, h5⟩
end
section
variable {ops : Array Oper} {rest : List Oper} {o : Oper} {a : Act} {w : World} {Q : Exit → Act → World → Prop} {K : Act → World → Prop} {E : Prop}
/-- The operation of append, whatever its run is. -/
theorem wpList_append_run (hgd : o.guard = none) (s x : Operand) (t : TypeId) (ho : o.op = .call { callee := .builtin .append, args := #[s, x], argTypes := #[t, t] }) {v' : Value} {w' : World}
    (hr : (Builtin.append_ #[t, t] o.type #[a.eval s, a.eval x]).run Try.prog w = .ok v' w') (h : wpList Try.prog ops Q rest (a.put o.dst v') w') : wpList Try.prog ops Q (o :: rest) a w := by
  refine wpList_plain hgd fun K hK => ?_
  unfold Oper.wp execOp
  simp only [ho, resolve, invoke, builtin, Sem.run_bind, Sem.run_pure, Result.andThen_ok, List.map_toArray, List.map_cons, List.map_nil, hr]
  exact hK _ _ h
theorem step_append_run (hgd : o.guard = none) (s x : Operand) (t : TypeId) (ho : o.op = .call { callee := .builtin .append, args := #[s, x], argTypes := #[t, t] }) {v' : Value} {w' : World}
    (hr : (Builtin.append_ #[t, t] o.type #[a.eval s, a.eval x]).run Try.prog w = .ok v' w') (h : K (a.put o.dst v') w') : if Region.wanted o (yielded ops a.tmps) = true then o.wp Try.prog a w K Q else E := by
  have hw : Region.wanted o (yielded ops a.tmps) = true := by simp [Region.wanted, hgd]
  rw [if_pos hw]
  unfold Oper.wp execOp
  simp only [ho, resolve, invoke, builtin, Sem.run_bind, Sem.run_pure, Result.andThen_ok, List.map_toArray, List.map_cons, List.map_nil, hr]
  exact h
end
end Go.Proofs.Ytgmpoefgcimaiaa
/- Lists that are lent: what quarrykeep's Loan hands in, and whether it comes back. -/
namespace Go.Proofs.Ytgmpoefgcimaiaa
open Go.RowKit

/-- A role more. -/
def upd (role : Role) (v : Value) (r : Nat × Nat) : Role := fun k => if v.ownBlock = some k then some r else role k
section
variable {P : Nat × Nat → Prop} {role : Role} {r : Nat × Nat} {w w' : World} {base : Nat} {v v' : Value} {bs : List Nat} {us : List Value}
theorem upd_old (role : Role) (v : Value) (r : Nat × Nat) {k : Nat} (h : v.ownBlock ≠ some k) : upd role v r k = role k := if_neg h
theorem upd_self (role : Role) (v : Value) (r : Nat × Nat) {k : Nat} (h : v.ownBlock = some k) : upd role v r k = some r := if_pos h
theorem Ext.upd (h : ∀ k, v.ownBlock = some k → role k = none ∨ role k = some r) : Ext role (upd role v r) := fun k s hs => by
  by_cases e : v.ownBlock = some k
  · rw [upd_self role v r e]
    rcases h k e with h | h
    · rw [h] at hs; cases hs
    · rw [h] at hs; exact hs
  · rw [upd_old role v r e]; exact hs
theorem Old.none (h : Old role base w) {k : Nat} (hk : w.heap.size ≤ k) : role k = none := by
  cases e : role k with
  | none => rfl
  | some r => have := (h.2 k r e).2; omega
theorem Old.upd (h : Old role base w) (hs : w.heap.size ≤ w'.heap.size) (hv : ∀ k, v.ownBlock = some k → base ≤ k ∧ k < w'.heap.size) : Old (upd role v r) base w' :=
  ⟨Nat.le_trans h.1 hs, fun k s e => by
    by_cases e2 : v.ownBlock = some k
    · exact hv k e2
    · rw [upd_old role v r e2] at e
      exact ⟨(h.2 k s e).1, Nat.lt_of_lt_of_le (h.2 k s e).2 hs⟩⟩
theorem SS.chg (h : SS role r w v us) (hg : w.grownBy w' v.ownBlock) : ChgR (fun s => s = r) role w w' := (ChgR.refl _ role w).grown hg fun k hk => .inr ⟨r, h.2 k hk, rfl⟩
theorem SS.ext (h : SS role r w v us) (ho : Old role base w) (hat : v'.ownBlock = v.ownBlock ∨ v'.ownBlock = some w.heap.size) : Ext role (Go.Proofs.Ytgmpoefgcimaiaa.upd role v' r) := Ext.upd fun k hk => by
  rcases hat with e | e
  · exact .inr (h.2 k (e ▸ hk))
  · rw [e] at hk; injection hk with hk; exact .inl (ho.none (by omega))
theorem SS.lt (h : SS role r w v us) : ∀ k, v.ownBlock = some k → k < w.heap.size := fun k hk => (h.1.lt k hk).2
end
theorem two_of {w : World} {g : Nat} {a b : Value} {t : TypeId} (h : w.heap[g]? = some (.cells #[a, b] t (0, 0))) :
    w.cell? ⟨g, 0, none⟩ = some a ∧ w.cell? ⟨g, 1, none⟩ = some b ∧ w.frozen? ⟨g, 0, none⟩ = false ∧ w.frozen? ⟨g, 1, none⟩ = false := by
  refine ⟨?_, ?_, frozen_of_row _ _ _ _ t h, frozen_of_row _ _ _ _ t h⟩
  · rw [cell_of_row w g 0 _ _ (0, 0) h]; rfl
  · rw [cell_of_row w g 1 _ _ (0, 0) h]; rfl
theorem heap_lt' {w : World} {g : Nat} {o : Obj} (h : w.heap[g]? = some o) : g < w.heap.size := (Array.getElem?_eq_some_iff.1 h).1


set_option maxRecDepth 100000 in
theorem ss_step {role : Role} {r : Nat × Nat} {w : World} {base : Nat} {v : Value} {us : List Value} (h : SS role r w v us) (ho : Old role base w) (hn : us.length ≤ 2147483648) (A : Option Addr) (m k : Nat) :
    ∃ A' c' w', (Builtin.append_ #[51, 51] 51 #[v, .slice (some ⟨w.heap.size, 0, none⟩) 1 1]).run Try.prog (w.alloc (.cells #[.slice A m k] 22)) = .ok (.slice A' (us.length + 1) c') w' ∧
      SS (upd role (.slice A' (us.length + 1) c') r) r w' (.slice A' (us.length + 1) c') (us ++ [.slice A m k]) ∧ ChgR (fun s => s = r) role w w' ∧ Ext role (upd role (.slice A' (us.length + 1) c') r) ∧ Old (upd role (.slice A' (us.length + 1) c') r) base w' ∧
      ∀ i, i < w.heap.size → upd role (.slice A' (us.length + 1) c') r i = role i := by
  have hc2 := heap_alloc_new w (.cells #[.slice A m k] 22)
  obtain ⟨v', w', hr3, ho3, hg3, hat3⟩ := run_append_ss 51 (World.ownsRow.alloc h.1 (.cells #[.slice A m k] 22)) (c := 1) (ad := ⟨w.heap.size, 0, none⟩) (A := A) (m := m) (k := k) (by rw [cell_of_row _ _ 0 _ _ (0, 0) hc2]; rfl) (by simp [Addr.add]) hn (Nat.zero_le _)
  have hsz : (w.alloc (.cells #[.slice A m k] 22)).heap.size = w.heap.size + 1 := by simp
  have hgs := hg3.size
  obtain ⟨A', c', rfl⟩ : ∃ A' c', v' = .slice A' (us.length + 1) c' := by
    rcases ho3.2 with ⟨e, h0⟩ | ⟨g, cap, cur, e, _⟩
    · simp at h0
    · exact ⟨some ⟨g, 0, none⟩, cap, by rw [e, List.length_append, List.length_singleton]⟩
  refine ⟨A', c', w', hr3, ⟨ho3, fun k hk => upd_self _ _ _ hk⟩, ((ChgR.refl _ role w).alloc _).grown hg3 (fun k hk => .inr ⟨r, h.2 k hk, rfl⟩), Ext.upd fun k hk => ?_, ho.upd (by omega) (fun k hk => ?_), fun i hi => ?_⟩
  · rcases hat3 with e | e
    · exact .inr (h.2 k (e ▸ hk))
    · rw [e] at hk; injection hk with hk; exact .inl (ho.none (by omega))
  · rcases hat3 with e | e
    · exact ⟨(ho.2 k r (h.2 k (e ▸ hk))).1, by have := h.lt k (e ▸ hk); omega⟩
    · rw [e] at hk
      injection hk with hk
      have := ho.1
      have h2 := (ho3.lt k (by rw [e, hk])).2
      exact ⟨by omega, h2⟩
  · by_cases e : (Value.slice A' (us.length + 1) c').ownBlock = some i
    · rw [upd_self _ _ _ e]
      rcases hat3 with e2 | e2
      · exact (h.2 i (e2 ▸ e)).symm
      · rw [e2] at e; injection e with e; omega
    · exact upd_old _ _ _ e
/-- The same, and the slice of slices is stored where it was, cell i of the block gs. -/
theorem ss_put {role : Role} {r rs : Nat × Nat} {w : World} {base : Nat} {v : Value} {us : List Value} (h : SS role r w v us) (ho : Old role base w) (hn : us.length ≤ 2147483648) (A : Option Addr) (m k : Nat) {gs : Nat} {cs : Array Value} {t : TypeId}
    (hg : w.heap[gs]? = some (.cells cs t (0, 0))) (hgs : role gs = some rs) (hne : rs ≠ r) (i : Nat) :
    ∃ A' c' w' role', (Builtin.append_ #[51, 51] 51 #[v, .slice (some ⟨w.heap.size, 0, none⟩) 1 1]).run Try.prog (w.alloc (.cells #[.slice A m k] 22)) = .ok (.slice A' (us.length + 1) c') w' ∧
      w'.heap[gs]? = some (.cells cs t (0, 0)) ∧ SS role' r (w'.setCell ⟨gs, i, none⟩ (.slice A' (us.length + 1) c')) (.slice A' (us.length + 1) c') (us ++ [.slice A m k]) ∧
      (w'.setCell ⟨gs, i, none⟩ (.slice A' (us.length + 1) c')).heap[gs]? = some (.cells (cs.setIfInBounds i (.slice A' (us.length + 1) c')) t (0, 0)) ∧
      ChgR (fun s => s = r ∨ s = rs) role w (w'.setCell ⟨gs, i, none⟩ (.slice A' (us.length + 1) c')) ∧ Ext role role' ∧ Old role' base (w'.setCell ⟨gs, i, none⟩ (.slice A' (us.length + 1) c')) ∧ ∀ j, j < w.heap.size → role' j = role j := by
  obtain ⟨A', c', w', h1, h2, h3, h4, h5, h6⟩ := ss_step h ho hn A m k
  have hg' := (h3.block gs (heap_lt' hg) (fun s e hs => by rw [hgs] at e; injection e with e; subst e; exact hne hs)).trans hg
  refine ⟨A', c', w', _, h1, hg', h2.keep ((ChgR.refl (fun s => s = rs) _ w').set _ (h4 _ _ hgs) rfl) (fun e => hne e.symm) (Ext.refl _), heap_setCell_same w' gs i _ _ _ hg', (h3.mono fun _ e => .inl e).set _ hgs (.inr rfl), h4, h5.grow (by simp), h6⟩
/-- The lists that were lent, us, and their copies, ws. -/
structure LoanAt (role : Role) (w : World) (gl : Nat) (us ws : List Value) (Ls : List (List Nat)) : Prop where
  cell : ∃ v1 v2, w.heap[gl]? = some (.cells #[v1, v2] 53 (0, 0)) ∧ SS role (6, 0) w v1 us ∧ SS role (7, 0) w v2 ws
  self : role gl = some (5, 0)
  fam : Fam role 8 w us Ls
  famw : Fam role 9 w ws Ls
def LoanR (r : Nat × Nat) : Prop := r.1 = 5 ∨ r.1 = 6 ∨ r.1 = 7
instance (r : Nat × Nat) : Decidable (LoanR r) := by unfold LoanR; infer_instance
theorem LoanAt.keep {P : Nat × Nat → Prop} {role role' : Role} {w w' : World} {gl : Nat} {us ws : List Value} {Ls : List (List Nat)} (h : LoanAt role w gl us ws Ls) (hc : ChgR P role w w') (hp : ∀ c j, 5 ≤ c → c ≤ 9 → ¬ P (c, j)) (he : Ext role role') : LoanAt role' w' gl us ws Ls := by
  obtain ⟨⟨v1, v2, h1, h2, h3⟩, h4, h5, h6⟩ := h
  exact ⟨⟨v1, v2, (hc.block gl (heap_lt' h1) fun r e hr => by rw [h4] at e; injection e with e; subst e; exact hp 5 0 (by omega) (by omega) hr).trans h1, h2.keep hc (hp 6 0 (by omega) (by omega)) he, h3.keep hc (hp 7 0 (by omega) (by omega)) he⟩, he _ _ h4, h5.keep hc (fun j => hp 8 j (by omega) (by omega)) he, h6.keep hc (fun j => hp 9 j (by omega) (by omega)) he⟩

/-- A list of bytes is laid beside the others, in a new block with roles for it: what Loan.Bytes and Book.Bytes do at their lists. -/
theorem marks_ds : Ds 256 [77, 78, 79, 80, 81] := fun x hx => by simp at hx; omega

set_option maxRecDepth 100000 in
set_option maxHeartbeats 6400000 in
theorem loan_bytes_c {role : Role} {base : Nat} {w : World} {gl : Nat} {us ws : List Value} {Ls : List (List Nat)} {A : Option Addr} {c : Nat} {bs : List Nat} (hL : LoanAt role w gl us ws Ls) (ho : Old role base w) (hr : Rd .u8 w A c bs) (hd : Ds 256 bs)
    (hl : bs.length ≤ 70368744177665) (hn : Ls.length ≤ 1000000) :
    Calls Try.prog 20 #[.pointer (some ⟨gl, 0, none⟩), .slice A bs.length c] w fun e w' => ∃ (role' : Role) (us' ws' : List Value) (g c' : Nat), e = .returned (.slice (some ⟨g, 0, none⟩) bs.length c') ∧ B8 role' (8, Ls.length) w' (.slice (some ⟨g, 0, none⟩) bs.length c') bs ∧ w.heap.size ≤ g ∧
      LoanAt role' w' gl us' ws' (Ls ++ [bs ++ [77, 78, 79, 80, 81]]) ∧ Old role' base w' ∧ (∀ k, k < w.heap.size → role' k = role k) ∧ ChgR LoanR role w w' := by
  obtain ⟨⟨v1, v2, hg, hs1, hs2⟩, hself, hf1, hf2⟩ := hL
  have hglt := heap_lt' hg
  -- the list with its marks
  have hal : Below w.heap.size w (w.alloc (.cells #[] 5)) := (Below.refl _ _).alloc (Nat.le_refl _) _
  have ha0 : Acc (w.alloc (.cells #[] 5)) w.heap.size (.slice (some ⟨w.heap.size, 0, none⟩) 0 0) [] := Acc.of_row (Row.new (k := .u8) w 5 []) (Nat.le_refl _) (by simp)
  obtain ⟨u1, w1, hr1, ha1, hg1, hat1⟩ := run_append_rd 22 ha0 (hr.below hal) (by simp; omega) (by simp)
  rw [List.nil_append] at ha1
  obtain ⟨A1, c1, rfl⟩ := ha1.form
  have hb1 : Below w.heap.size w w1 := hal.grown hg1 (by simp) (fun k hk => Acc.own ha0 k hk)
  have hal2 : Below w1.heap.size w1 (w1.alloc (.cells #[.int .u8 77, .int .u8 78, .int .u8 79, .int .u8 80, .int .u8 81] 5)) := (Below.refl _ _).alloc (Nat.le_refl _) _
  have hrow : Row .u8 (w1.alloc (.cells #[.int .u8 77, .int .u8 78, .int .u8 79, .int .u8 80, .int .u8 81] 5)) w1.heap.size 5 [77, 78, 79, 80, 81] := Row.new (k := .u8) w1 5 [77, 78, 79, 80, 81]
  obtain ⟨u2, w2, hr2, ha2, hg2, hat2⟩ := run_append_rd 22 (World.ownsRow.alloc ha1 (.cells #[.int .u8 77, .int .u8 78, .int .u8 79, .int .u8 80, .int .u8 81] 5)) hrow.rd0 (by simp; omega) (by have := hb1.size; simp; omega)
  obtain ⟨A2, c2, rfl⟩ := ha2.form
  have hb2 : Below w.heap.size w w2 := (hb1.alloc (by have := hb1.size; omega) _).grown hg2 (by have := hb1.size; simp; omega) (fun k hk => Acc.own ha1 k hk)
  have hgl2 := (hb2.block gl hglt).trans hg
  obtain ⟨xs, hxs⟩ : ∃ xs, xs = bs ++ [77, 78, 79, 80, 81] := ⟨_, rfl⟩
  have hxd : Ds 256 xs := by rw [hxs]; exact hd.append marks_ds
  have hxl : xs.length = bs.length + 5 := by rw [hxs]; simp
  obtain ⟨V1, C1, rfl⟩ := hs1.form
  obtain ⟨V2, C2, rfl⟩ := hs2.form
  obtain ⟨g, rfl, hgg⟩ : ∃ g, A2 = some ⟨g, 0, none⟩ ∧ w.heap.size ≤ g := by
    rcases ha2.2 with ⟨e, h0⟩ | ⟨g, cap, cur, e, hb, _⟩
    · simp at h0
    · injection e with e1 e2 e3; exact ⟨g, e1, hb⟩
  have hgw : g < w2.heap.size := (World.ownsRow.lt ha2 g rfl).2
  rw [← hxs] at ha2 hr2
  obtain ⟨L, hL⟩ : ∃ L, L = xs.length := ⟨_, rfl⟩
  have hxo : AccO w2 (.slice (some ⟨g, 0, none⟩) xs.length c2) xs := AccO.of ha2 hxd
  rw [← hL] at ha2 hr2 hxo
  -- the first list
  have hs1a := hs1.keep (P := fun _ => False) (ChgR.of _ role hb2) id (Ext.refl _)
  have hs2a := hs2.keep (P := fun _ => False) (ChgR.of _ role hb2) id (Ext.refl _)
  have ho2 := ho.grow hb2.size
  have hr1a : ∀ k, k < w.heap.size → upd role (.slice (some ⟨g, 0, none⟩) L c2) (8, Ls.length) k = role k := fun k hk => upd_old _ _ _ (by intro e; injection e with e; have e' : g = k := e; omega)
  have he1 : Ext role (upd role (.slice (some ⟨g, 0, none⟩) L c2) (8, Ls.length)) := Ext.upd fun k hk => by injection hk with hk; have hk' : g = k := hk; exact .inl (ho.none (by omega))
  have ho3 := ho.upd (r := (8, Ls.length)) (v := .slice (some ⟨g, 0, none⟩) L c2) hb2.size (fun k hk => by injection hk with hk; have hk' : g = k := hk; have := ho.1; exact ⟨by omega, by omega⟩)
  have hC0 : ChgR (fun _ => False) role w w2 := ChgR.of _ role hb2
  have hf1a := (hf1.keep hC0 (fun _ => id) he1).grow (v := .slice (some ⟨g, 0, none⟩) L c2) (bs := xs) ⟨hxo, fun k hk => upd_self _ _ _ hk⟩
  have hf2a := hf2.keep hC0 (fun _ => id) he1
  have hself1 := he1 _ _ hself
  have hs1a := hs1.keep hC0 id he1
  have hs2a := hs2.keep hC0 id he1
  have hrg : upd role (.slice (some ⟨g, 0, none⟩) L c2) (8, Ls.length) g = some (8, Ls.length) := upd_self _ _ _ rfl
  generalize upd role (.slice (some ⟨g, 0, none⟩) L c2) (8, Ls.length) = role1 at *
  obtain ⟨D1, E1, w3, role2, hr3, hg3, hs1b, hg4, hC4, he4, ho4, hr4⟩ := ss_put hs1a ho3 (by rw [hf1.1]; omega) (some ⟨g, 0, none⟩) L c2 hgl2 hself1 (by decide) 0
  have hC4n : ∀ c j, 7 ≤ c → ¬ ((fun s : Nat × Nat => s = (6, 0) ∨ s = (5, 0)) (c, j)) := fun c j hc h => by
    rcases h with h | h <;> (injection h with h1 h2; omega)
  have hs2b := hs2a.keep hC4 (hC4n 7 0 (by omega)) he4
  have hf1b := hf1a.keep hC4 (fun j => hC4n 8 j (by omega)) he4
  have hf2b := hf2a.keep hC4 (fun j => hC4n 9 j (by omega)) he4
  have hself2 := he4 _ _ hself1
  have hxo4 := (B8.keep (r := (8, Ls.length)) (role := role1) (w := w2) (v := .slice (some ⟨g, 0, none⟩) L c2) (bs := xs) ⟨hxo, fun k hk => by injection hk with hk; have hk' : g = k := hk; subst hk'; exact hrg⟩ hC4 (hC4n 8 _ (by omega)) he4).1
  have hs4 : w2.heap.size ≤ (w3.setCell ⟨gl, 0, none⟩ (.slice D1 (us.length + 1) E1)).heap.size := hC4.size
  have hCC : ChgR LoanR role w (w3.setCell ⟨gl, 0, none⟩ (.slice D1 (us.length + 1) E1)) := (hC0.mono (fun _ e => e.elim)).trans (hC4.mono fun s e => by rcases e with e | e <;> (subst e; decide)) (fun i s hi e hs => ⟨s, by rw [← hr1a i hi]; exact e, hs⟩)
  have hr4a : ∀ k, k < w.heap.size → role2 k = role k := fun k hk => by rw [hr4 k (by omega), hr1a k hk]
  obtain ⟨a0, a1, b0, b1⟩ := two_of hgl2
  obtain ⟨d0, d1, e0, e1⟩ := two_of hg3
  obtain ⟨W, hW⟩ : ∃ W, W = w3.setCell ⟨gl, 0, none⟩ (.slice D1 (us.length + 1) E1) := ⟨_, rfl⟩
  have hg4 : (w3.setCell ⟨gl, 0, none⟩ (.slice D1 (us.length + 1) E1)).heap[gl]? = some (.cells #[.slice D1 (us.length + 1) E1, .slice V2 ws.length C2] 53 (0, 0)) := by simpa using hg4
  rw [← hW] at hg4 hs1b hs2b hf1b hf2b hxo4 hs4 hCC ho4
  -- the copy
  have hal5 : Below W.heap.size W (W.drew.alloc (.cells #[] 5)) := (Below.refl _ _).drew.alloc (Nat.le_refl _) _
  have ha5 : Acc (W.drew.alloc (.cells #[] 5)) W.heap.size (.slice (some ⟨W.heap.size, 0, none⟩) 0 0) [] := Acc.of_row (Row.new (k := .u8) W.drew 5 []) (Nat.le_refl _) (by simp)
  obtain ⟨u5, w5, hr5, hb5, hg5, _⟩ := run_append_rd 22 ha5 (hxo4.rd.below hal5) (by simp; omega) (by simp)
  rw [List.nil_append] at hb5
  obtain ⟨A5, c5, rfl⟩ := hb5.form
  rw [← hL] at hr5 hb5
  have hbw5 : Below W.heap.size W w5 := hal5.grown hg5 (by simp) (fun k hk => Acc.own ha5 k hk)
  have hB5 : AccO w5 (.slice A5 L c5) xs := AccO.of hb5 hxd
  have hr5a : ∀ k, k < W.heap.size → upd role2 (.slice A5 L c5) (9, Ls.length) k = role2 k := fun k hk => upd_old _ _ _ (by intro e; have := hb5.own k e; omega)
  have he5 : Ext role2 (upd role2 (.slice A5 L c5) (9, Ls.length)) := Ext.upd fun k hk => .inl (ho4.none (hb5.own k hk))
  have ho5 := ho4.upd (r := (9, Ls.length)) (v := .slice A5 L c5) hbw5.size (fun k hk => by have h1 := hb5.own k hk; have h2 := hB5.lt k hk; have := ho4.1; exact ⟨by omega, h2⟩)
  have hC5 : ChgR (fun _ => False) role2 W w5 := ChgR.of _ role2 hbw5
  have hf2c := (hf2b.keep hC5 (fun _ => id) he5).grow (v := .slice A5 L c5) (bs := xs) ⟨hB5, fun k hk => upd_self _ _ _ hk⟩
  have hf1c := hf1b.keep hC5 (fun _ => id) he5
  have hself3 := he5 _ _ hself2
  have hs1c := hs1b.keep hC5 id he5
  have hs2c := hs2b.keep hC5 id he5
  have hg5' := (hbw5.block gl (heap_lt' hg4)).trans hg4
  generalize upd role2 (.slice A5 L c5) (9, Ls.length) = role3 at *
  obtain ⟨D2, E2, w6, role4, hr6, hg6, hs2d, hg7, hC7, he7, ho7, hr7⟩ := ss_put hs2c ho5 (by rw [hf2.1]; omega) A5 L c5 hg5' hself3 (by decide) 1
  have hC7n : ∀ c j, (c = 6 ∨ 8 ≤ c) → ¬ ((fun s : Nat × Nat => s = (7, 0) ∨ s = (5, 0)) (c, j)) := fun c j hc h => by
    rcases h with h | h <;> (injection h with h1 h2; omega)
  have hs1d := hs1c.keep hC7 (hC7n 6 0 (by omega)) he7
  have hf1d := hf1c.keep hC7 (fun j => hC7n 8 j (by omega)) he7
  have hf2d := hf2c.keep hC7 (fun j => hC7n 9 j (by omega)) he7
  have hxo7 := hf1d.2 Ls.length (.slice (some ⟨g, 0, none⟩) L c2) xs (by rw [← hf1.1]; simp) (by simp)
  have hCC7 : ChgR LoanR role w (w6.setCell ⟨gl, 1, none⟩ (.slice D2 (ws.length + 1) E2)) := (hCC.same (ChgR.of _ role hbw5)).trans (hC7.mono fun s e => by rcases e with e | e <;> (subst e; decide)) (fun i s hi e hs => ⟨s, by rw [← hr4a i hi, ← hr5a i (by omega)]; exact e, hs⟩)
  have hW5 := (Below.heap_alloc W (.cells #[] 5) gl (heap_lt' hg4)).trans hg4
  have hW6 := (Below.heap_alloc w5 (.cells #[.slice A5 L c5] 22) gl (heap_lt' hg5')).trans hg5'
  obtain ⟨a0, a1, b0, b1⟩ := two_of hgl2
  obtain ⟨d0, d1, e0, e1⟩ := two_of hg3
  obtain ⟨f0, f1, -, -⟩ := two_of (w := W) hg4
  obtain ⟨i0, i1, -, -⟩ := two_of hW5
  obtain ⟨j0, j1, -, -⟩ := two_of hg5'
  obtain ⟨k0, k1, -, -⟩ := two_of hW6
  obtain ⟨m0, m1, n0, n1⟩ := two_of hg6
  have HR1 := Lib.hid hr1
  have HR2 := Lib.hid hr2
  have HR3 := Lib.hid hr3
  have HR5 := Lib.hid hr5
  have HR6 := Lib.hid hr6
  have HWW := Lib.hid hW
  have hss1 := hb2.size
  have hss2 := hbw5.size
  have fin : ∃ (role' : Role) (us' ws' : List Value) (g' c' : Nat), Ending.returned (.slice (some ⟨g, 0, none⟩) bs.length c2) = .returned (.slice (some ⟨g', 0, none⟩) bs.length c') ∧ B8 role' (8, Ls.length) (w6.setCell ⟨gl, 1, none⟩ (.slice D2 (ws.length + 1) E2)) (.slice (some ⟨g', 0, none⟩) bs.length c') bs ∧ w.heap.size ≤ g' ∧
      LoanAt role' (w6.setCell ⟨gl, 1, none⟩ (.slice D2 (ws.length + 1) E2)) gl us' ws' (Ls ++ [bs ++ [77, 78, 79, 80, 81]]) ∧ Old role' base (w6.setCell ⟨gl, 1, none⟩ (.slice D2 (ws.length + 1) E2)) ∧ (∀ k, k < w.heap.size → role' k = role k) ∧ ChgR LoanR role w (w6.setCell ⟨gl, 1, none⟩ (.slice D2 (ws.length + 1) E2)) := by
    refine ⟨role4, _, _, g, c2, rfl, ?_, hgg, ⟨⟨_, _, by simpa using hg7, hs1d, hs2d⟩, he7 _ _ hself3, by rw [← hxs]; exact hf1d, by rw [← hxs]; exact hf2d⟩, ho7, fun k hk => by rw [hr7 k (by omega), hr5a k (by omega), hr4a k hk], hCC7⟩
    have := hxo7.1.take (m := bs.length) (by omega)
    rw [hxs, List.take_left] at this
    exact ⟨this, hxo7.2⟩
  have FIN := Lib.hid fin
  have hl5 : (bs.length : Int) ≤ (c2 : Int) := by have := hxo.rd.le; omega
  have hU : us.length ≤ 1000000 := by rw [hf1.1]; exact hn
  clear hss1 hss2 hs1d hs2d hf1d hf2d hxo7 hCC7 hC7n hC7 he7 ho7 hr7 hg7 hs1c hs2c hself3 hf1c hf2c hC5 ho5 he5 hr5a hB5 hbw5 hg5 hb5 ha5 hal5 hr4a hCC hs4 hxo4 hself2 hf1b hf2b hs2b hC4n hg4 hg5' hg6 hW5 hW6 hr4 he4 hC4 ho4 hs1b hg3 hrg fin hr1 hr2 hr3 hr5 hr6 hW hgl2 hxd hxs hs1 hs2 hself hf1 hf2 hglt hal ha0 hg1 ha1 hat1 hb1 hal2 hrow hg2 hat2 hb2 hxo ha2 hL hxl ho2 ho3 hs1a hs2a hf1a hf2a he1 hr1a hC0 hself1 hg hr hd ho
  go_enter Try.func20, Try.ntmps20
  go_wp2_with (at_builtin; (first | refine wpList_append_run rfl (.tmp 6) (.tmp 7) 22 rfl HR1.out ?_ | refine wpList_append_run rfl (.tmp 8) (.tmp 9) 22 rfl HR2.out ?_ | refine wpList_append_run rfl (.tmp 15) (.tmp 17) 51 rfl HR3.out ?_))
  rw [← HWW.out]
  clear a0 a1 b0 b1 d0 d1 e0 e1 HR1 HR2 HR3
  go_region_law (first
    | (refine step_append_run rfl (.tmp 26) (.tmp 27) 22 rfl HR5.out ?_)
    | (refine step_append_run rfl (.tmp 25) (.tmp 29) 51 rfl HR6.out ?_))
  all_goals
    clear f0 f1 i0 i1 j0 j1 k0 k1 HR5 HR6 HWW
    go_simp
    go_wp2_with fail
    go_ret
    exact FIN.out
end Go.Proofs.Ytgmpoefgcimaiaa
/- Lists that are kept: what quarrykeep's Book takes in. -/
namespace Go.Proofs.Ytgmpoefgcimaiaa
open Go.RowKit

theorem cells_of {w : World} {g : Nat} {cs : Array Value} {t : TypeId} (h : w.heap[g]? = some (.cells cs t (0, 0))) (j : Nat) : w.cell? ⟨g, j, none⟩ = cs[j]? ∧ w.frozen? ⟨g, j, none⟩ = false :=
  ⟨cell_of_row w g j _ _ (0, 0) h, frozen_of_row _ _ _ _ t h⟩
theorem five_of {w : World} {g : Nat} {a b c d e : Value} {t : TypeId} (h : w.heap[g]? = some (.cells #[a, b, c, d, e] t (0, 0))) :
    w.cell? ⟨g, 0, none⟩ = some a ∧ w.cell? ⟨g, 1, none⟩ = some b ∧ w.cell? ⟨g, 2, none⟩ = some c ∧ w.cell? ⟨g, 3, none⟩ = some d ∧ w.cell? ⟨g, 4, none⟩ = some e ∧
    w.frozen? ⟨g, 0, none⟩ = false ∧ w.frozen? ⟨g, 1, none⟩ = false ∧ w.frozen? ⟨g, 2, none⟩ = false ∧ w.frozen? ⟨g, 3, none⟩ = false ∧ w.frozen? ⟨g, 4, none⟩ = false :=
  ⟨(cells_of h 0).1, (cells_of h 1).1, (cells_of h 2).1, (cells_of h 3).1, (cells_of h 4).1, (cells_of h 0).2, (cells_of h 1).2, (cells_of h 2).2, (cells_of h 3).2, (cells_of h 4).2⟩

/-- The lists that are kept, us, and their copies, ws. -/
structure BookAt (role : Role) (w : World) (gb : Nat) (us ws : List Value) (Ls : List (List Nat)) (n : Nat) : Prop where
  cell : ∃ v1 v2, w.heap[gb]? = some (.cells #[v1, v2, .slice none 0 0, .slice none 0 0, .int .i64 (n : Nat)] 56 (0, 0)) ∧ SS role (1, 0) w v1 us ∧ SS role (2, 0) w v2 ws
  self : role gb = some (0, 0)
  fam : Fam role 3 w us Ls
  famw : Fam role 4 w ws Ls
  cnt : Ls.length ≤ n ∧ Ls.length ≤ 200001 ∧ n ≤ 70368744377666
  len : ∀ bs ∈ Ls, bs.length ≤ 70368744177665
def BookR (r : Nat × Nat) : Prop := r.1 ≤ 2
instance (r : Nat × Nat) : Decidable (BookR r) := by unfold BookR; infer_instance
theorem BookAt.keep {P : Nat × Nat → Prop} {role role' : Role} {w w' : World} {gb n : Nat} {us ws : List Value} {Ls : List (List Nat)} (h : BookAt role w gb us ws Ls n) (hc : ChgR P role w w') (hp : ∀ c j, c ≤ 4 → ¬ P (c, j)) (he : Ext role role') : BookAt role' w' gb us ws Ls n := by
  obtain ⟨⟨v1, v2, h1, h2, h3⟩, h4, h5, h6, h7, h8⟩ := h
  exact ⟨⟨v1, v2, (hc.block gb (heap_lt' h1) fun r e hr => by rw [h4] at e; injection e with e; subst e; exact hp 0 0 (by omega) hr).trans h1, h2.keep hc (hp 1 0 (by omega)) he, h3.keep hc (hp 2 0 (by omega)) he⟩, he _ _ h4, h5.keep hc (fun j => hp 3 j (by omega)) he, h6.keep hc (fun j => hp 4 j (by omega)) he, h7, h8⟩

set_option maxRecDepth 100000 in
theorem full_c {w : World} {gb n : Nat} (h : w.cell? ⟨gb, 4, none⟩ = some (.int .i64 (n : Nat))) :
    Calls Try.prog 46 #[.pointer (some ⟨gb, 0, none⟩)] w fun e w' => e = .returned (.bool (decide ((n : Int) > 200000))) ∧ w' = w := by
  go_enter Try.func46, Try.ntmps46
  go_wp2_with fail
  go_ret
  first | rfl | simp

set_option maxRecDepth 100000 in
set_option maxHeartbeats 6400000 in
theorem book_bytes_c {role : Role} {base : Nat} {w : World} {gb n : Nat} {us ws : List Value} {Ls : List (List Nat)} {v : Value} {bs : List Nat} (hK : BookAt role w gb us ws Ls n) (ho : Old role base w) (hv : AccO w v bs) (hvn : ∀ k, v.ownBlock = some k → base ≤ k ∧ role k = none)
    (hl : bs.length ≤ 70368744177665) :
    Calls Try.prog 21 #[.pointer (some ⟨gb, 0, none⟩), v] w fun e w' => e = .returned (.tuple #[]) ∧ ∃ (role' : Role) (us' ws' : List Value) (Ls' : List (List Nat)) (n' : Nat),
      BookAt role' w' gb us' ws' Ls' n' ∧ Old role' base w' ∧ Ext role role' ∧ (∀ k, k < w.heap.size → v.ownBlock ≠ some k → role' k = role k) ∧ ChgR BookR role w w' := by
  by_cases hfull : 200000 < n
  · have hKK := Lib.hid hK
    obtain ⟨⟨v1, v2, hg, hs1, hs2⟩, hself, hf1, hf2, hcnt, hlen⟩ := hK
    obtain ⟨A, c, rfl⟩ := hv.form
    have CF := Lib.hid (full_c (cells_of hg 4).1)
    have hd : decide ((n : Int) > 200000) = true := decide_eq_true (by omega)
    rw [hd] at CF
    have HO := Lib.hid ho
    clear hg hs1 hs2 hself hf1 hf2 hcnt hlen hd ho hfull hvn hv
    go_enter Try.func21, Try.ntmps21
    go_wp2_with fail
    (with_reducible refine CF.out.mono ?_)
    rintro e w1 ⟨rfl, rfl⟩
    go_wp2_with fail
    refine bodyPost_ret (results_none Try.results21 _ _ _) rfl ?_
    exact ⟨rfl, role, us, ws, Ls, n, hKK.out, HO.out, Ext.refl _, fun _ _ _ => rfl, ChgR.refl _ _ _⟩
  · obtain ⟨⟨v1, v2, hg, hs1, hs2⟩, hself, hf1, hf2, hcnt, hlen⟩ := hK
    have hglt := heap_lt' hg
    obtain ⟨V1, C1, rfl⟩ := hs1.form
    obtain ⟨V2, C2, rfl⟩ := hs2.form
    obtain ⟨A, c, rfl⟩ := hv.form
    obtain ⟨L, hL⟩ : ∃ L, L = bs.length := ⟨_, rfl⟩
    rw [← hL] at hv hvn hl ⊢
    have hrdL := hv.rd.le
    have CF := Lib.hid (full_c (cells_of hg 4).1)
    have hd : decide ((n : Int) > 200000) = false := decide_eq_false (by omega)
    rw [hd] at CF
    obtain ⟨n', hn'⟩ : ∃ n', n' = n + L + 1 := ⟨_, rfl⟩
    have q1 : IntKind.i64.wrap ((n : Int) + (L : Int)) = (n : Int) + (L : Int) := IntWalk.i64_in _ (by omega)
    have q2 : IntKind.i64.wrap ((n : Int) + (L : Int) + 1) = (n' : Int) := by rw [IntWalk.i64_in _ (by omega)]; omega
    -- the count
    have hC1 : ChgR (fun s => s = (0, 0)) role w (w.setCell ⟨gb, 4, none⟩ (.int .i64 (n' : Nat))) := (ChgR.refl _ role w).set _ hself rfl
    have hg1 := heap_setCell_same w gb 4 _ _ (.int .i64 (n' : Nat)) hg
    have hg1 : (w.setCell ⟨gb, 4, none⟩ (.int .i64 (n' : Nat))).heap[gb]? = some (.cells #[.slice V1 us.length C1, .slice V2 ws.length C2, .slice none 0 0, .slice none 0 0, .int .i64 (n' : Nat)] 56 (0, 0)) := by simpa using hg1
    have hgv : ∀ k, (Value.slice A L c).ownBlock = some k → k ≠ gb := fun k hk e => by have := (hvn k hk).2; rw [e, hself] at this; cases this
    have hv1 := hv.move (w' := w.setCell ⟨gb, 4, none⟩ (.int .i64 (n' : Nat))) (by simp) fun k hk => Below.heap_setCell _ _ _ _ (hgv k hk)
    have hr1a : ∀ k, (Value.slice A L c).ownBlock ≠ some k → upd role (.slice A L c) (3, Ls.length) k = role k := fun k hk => upd_old _ _ _ hk
    have he1 : Ext role (upd role (.slice A L c) (3, Ls.length)) := Ext.upd fun k hk => .inl (hvn k hk).2
    have ho1 := ho.upd (w' := w.setCell ⟨gb, 4, none⟩ (.int .i64 (n' : Nat))) (r := (3, Ls.length)) (v := .slice A L c) (by simp) (fun k hk => ⟨(hvn k hk).1, by have := hv.lt k hk; simpa using this⟩)
    have hC1n : ∀ c j, 1 ≤ c → ¬ ((fun s : Nat × Nat => s = (0, 0)) (c, j)) := fun c j hc h => by injection h with h1 h2; omega
    have hf1a := (hf1.keep hC1 (fun j => hC1n 3 j (by omega)) he1).grow (v := .slice A L c) (bs := bs) ⟨hv1, fun k hk => upd_self _ _ _ hk⟩
    have hf2a := hf2.keep hC1 (fun j => hC1n 4 j (by omega)) he1
    have hself1 := he1 _ _ hself
    have hs1a := hs1.keep hC1 (hC1n 1 0 (by omega)) he1
    have hs2a := hs2.keep hC1 (hC1n 2 0 (by omega)) he1
    have hxo1 : B8 (upd role (.slice A L c) (3, Ls.length)) (3, Ls.length) (w.setCell ⟨gb, 4, none⟩ (.int .i64 (n' : Nat))) (.slice A L c) bs := ⟨hv1, fun k hk => upd_self _ _ _ hk⟩
    have hws : (w.setCell ⟨gb, 4, none⟩ (.int .i64 (n' : Nat))).heap.size = w.heap.size := by simp
    generalize upd role (.slice A L c) (3, Ls.length) = role1 at *
    obtain ⟨w2, hw2⟩ : ∃ w2, w2 = w.setCell ⟨gb, 4, none⟩ (.int .i64 (n' : Nat)) := ⟨_, rfl⟩
    rw [← hw2] at hg1 hv1 ho1 hf1a hf2a hs1a hs2a hxo1 hC1 hws
    obtain ⟨D1, E1, w3, role2, hr3, hg3, hs1b, hg4, hC4, he4, ho4, hr4⟩ := ss_put hs1a ho1 (by rw [hf1.1]; omega) A L c hg1 hself1 (by decide) 0
    have hC4n : ∀ c j, 2 ≤ c → ¬ ((fun s : Nat × Nat => s = (1, 0) ∨ s = (0, 0)) (c, j)) := fun c j hc h => by
      rcases h with h | h <;> (injection h with h1 h2; omega)
    have hs2b := hs2a.keep hC4 (hC4n 2 0 (by omega)) he4
    have hf1b := hf1a.keep hC4 (fun j => hC4n 3 j (by omega)) he4
    have hf2b := hf2a.keep hC4 (fun j => hC4n 4 j (by omega)) he4
    have hself2 := he4 _ _ hself1
    have hxo4 := (hxo1.keep hC4 (hC4n 3 _ (by omega)) he4).1
    have hs4 : w2.heap.size ≤ (w3.setCell ⟨gb, 0, none⟩ (.slice D1 (us.length + 1) E1)).heap.size := hC4.size
    have hCC : ChgR BookR role w (w3.setCell ⟨gb, 0, none⟩ (.slice D1 (us.length + 1) E1)) := (hC1.mono (fun s e => by subst e; decide)).trans (hC4.mono fun s e => by rcases e with e | e <;> (subst e; decide)) (fun i s hi e hs => by
      by_cases h : (Value.slice A L c).ownBlock = some i
      · have h1 := hxo1.2 i h
        rw [h1] at e; injection e with e; subst e
        exact absurd hs (by unfold BookR; simp)
      · exact ⟨s, by rw [← hr1a i h]; exact e, hs⟩)
    obtain ⟨W, hW⟩ : ∃ W, W = w3.setCell ⟨gb, 0, none⟩ (.slice D1 (us.length + 1) E1) := ⟨_, rfl⟩
    have hg4 : (w3.setCell ⟨gb, 0, none⟩ (.slice D1 (us.length + 1) E1)).heap[gb]? = some (.cells #[.slice D1 (us.length + 1) E1, .slice V2 ws.length C2, .slice none 0 0, .slice none 0 0, .int .i64 (n' : Nat)] 56 (0, 0)) := by simpa using hg4
    rw [← hW] at hg4 hs1b hs2b hf1b hf2b hxo4 hs4 hCC ho4
    -- the copy
    have hal5 : Below W.heap.size W (W.drew.alloc (.cells #[] 5)) := (Below.refl _ _).drew.alloc (Nat.le_refl _) _
    have ha5 : Acc (W.drew.alloc (.cells #[] 5)) W.heap.size (.slice (some ⟨W.heap.size, 0, none⟩) 0 0) [] := Acc.of_row (Row.new (k := .u8) W.drew 5 []) (Nat.le_refl _) (by simp)
    obtain ⟨u5, w5, hr5, hb5, hg5, _⟩ := run_append_rd 22 ha5 (hxo4.rd.below hal5) (by simp; omega) (by simp)
    rw [List.nil_append] at hb5
    obtain ⟨A5, c5, rfl⟩ := hb5.form
    rw [← hL] at hr5 hb5
    have hbw5 : Below W.heap.size W w5 := hal5.grown hg5 (by simp) (fun k hk => Acc.own ha5 k hk)
    have hB5 : AccO w5 (.slice A5 L c5) bs := AccO.of hb5 hv.1
    have hr5a : ∀ k, k < W.heap.size → upd role2 (.slice A5 L c5) (4, Ls.length) k = role2 k := fun k hk => upd_old _ _ _ (by intro e; have := hb5.own k e; omega)
    have he5 : Ext role2 (upd role2 (.slice A5 L c5) (4, Ls.length)) := Ext.upd fun k hk => .inl (ho4.none (hb5.own k hk))
    have ho5 := ho4.upd (r := (4, Ls.length)) (v := .slice A5 L c5) hbw5.size (fun k hk => by have h1 := hb5.own k hk; have h2 := hB5.lt k hk; have := ho4.1; exact ⟨by omega, h2⟩)
    have hC5 : ChgR (fun _ => False) role2 W w5 := ChgR.of _ role2 hbw5
    have hf2c := (hf2b.keep hC5 (fun _ => id) he5).grow (v := .slice A5 L c5) (bs := bs) ⟨hB5, fun k hk => upd_self _ _ _ hk⟩
    have hf1c := hf1b.keep hC5 (fun _ => id) he5
    have hself3 := he5 _ _ hself2
    have hs1c := hs1b.keep hC5 id he5
    have hs2c := hs2b.keep hC5 id he5
    have hg5' := (hbw5.block gb (heap_lt' hg4)).trans hg4
    generalize upd role2 (.slice A5 L c5) (4, Ls.length) = role3 at *
    obtain ⟨D2, E2, w6, role4, hr6, hg6, hs2d, hg7, hC7, he7, ho7, hr7⟩ := ss_put hs2c ho5 (by rw [hf2.1]; omega) A5 L c5 hg5' hself3 (by decide) 1
    have hC7n : ∀ c j, (c = 1 ∨ 3 ≤ c) → ¬ ((fun s : Nat × Nat => s = (2, 0) ∨ s = (0, 0)) (c, j)) := fun c j hc h => by
      rcases h with h | h <;> (injection h with h1 h2; omega)
    have hs1d := hs1c.keep hC7 (hC7n 1 0 (by omega)) he7
    have hf1d := hf1c.keep hC7 (fun j => hC7n 3 j (by omega)) he7
    have hf2d := hf2c.keep hC7 (fun j => hC7n 4 j (by omega)) he7
    have hCC7 : ChgR BookR role w (w6.setCell ⟨gb, 1, none⟩ (.slice D2 (ws.length + 1) E2)) := (hCC.same (ChgR.of _ role hbw5)).trans (hC7.mono fun s e => by rcases e with e | e <;> (subst e; decide)) (fun i s hi e hs => by
      by_cases h : (Value.slice A L c).ownBlock = some i
      · have h1 := he5 _ _ (he4 _ _ (hxo1.2 i h))
        rw [h1] at e; injection e with e; subst e
        exact absurd hs (by unfold BookR; simp)
      · exact ⟨s, by rw [← hr1a i h, ← hr4 i (by omega), ← hr5a i (by omega)]; exact e, hs⟩)
    have hW5 := (Below.heap_alloc W (.cells #[] 5) gb (heap_lt' hg4)).trans hg4
    have hW6 := (Below.heap_alloc w5 (.cells #[.slice A5 L c5] 22) gb (heap_lt' hg5')).trans hg5'
    obtain ⟨aa0, aa1, -, -, aa4, -, -, -, -, bb4⟩ := five_of hg
    obtain ⟨a0, a1, -, -, -, b0, b1, -⟩ := five_of hg1
    obtain ⟨d0, d1, -, -, -, e0, e1, -⟩ := five_of hg3
    obtain ⟨f0, f1, -⟩ := five_of (w := W) hg4
    obtain ⟨i0, i1, -⟩ := five_of hW5
    obtain ⟨j0, j1, -⟩ := five_of hg5'
    obtain ⟨k0, k1, -⟩ := five_of hW6
    obtain ⟨m0, m1, -, -, -, n0, n1, -⟩ := five_of hg6
    have HR3 := Lib.hid hr3
    have HR5 := Lib.hid hr5
    have HR6 := Lib.hid hr6
    have HWW := Lib.hid hW
    have HW2 := Lib.hid hw2
    have hss2 := hbw5.size
    have fin : Ending.returned (.tuple #[]) = .returned (.tuple #[]) ∧ ∃ (role' : Role) (us' ws' : List Value) (Ls' : List (List Nat)) (n' : Nat),
        BookAt role' (w6.setCell ⟨gb, 1, none⟩ (.slice D2 (ws.length + 1) E2)) gb us' ws' Ls' n' ∧ Old role' base (w6.setCell ⟨gb, 1, none⟩ (.slice D2 (ws.length + 1) E2)) ∧ Ext role role' ∧ (∀ k, k < w.heap.size → (Value.slice A L c).ownBlock ≠ some k → role' k = role k) ∧ ChgR BookR role w (w6.setCell ⟨gb, 1, none⟩ (.slice D2 (ws.length + 1) E2)) :=
      ⟨rfl, role4, _, _, Ls ++ [bs], n', ⟨⟨_, _, by simpa using hg7, hs1d, hs2d⟩, he7 _ _ hself3, hf1d, hf2d, by rw [List.length_append, List.length_singleton]; omega, fun ys hy => by
        rcases List.mem_append.1 hy with hy | hy
        · exact hlen ys hy
        · simp at hy; subst hy; omega⟩, ho7, fun k r e => he7 _ _ (he5 _ _ (he4 _ _ (he1 _ _ e))), fun k hk hne => by rw [hr7 k (by omega), hr5a k (by omega), hr4 k (by omega), hr1a k hne], hCC7⟩
    have FIN := Lib.hid fin
    have hU : us.length ≤ 200001 := by rw [hf1.1]; omega
    clear hss2 hs1d hf1d hf2d hCC7 hC7n hC7 he7 ho7 hr7 hg7 hs1c hs2c hself3 hf1c hf2c hC5 ho5 he5 hr5a hB5 hbw5 hg5 hb5 ha5 hal5 hCC hs4 hxo4 hself2 hf1b hf2b hs2b hC4n hg4 hg5' hg6 hW5 hW6 hr4 he4 hC4 ho4 hs1b hg3 fin hr3 hr5 hr6 hW hw2 hs1 hs2 hself hf1 hf2 hglt hs1a hs2a hf1a hf2a he1 hr1a hself1 hg ho hcnt hlen hv hvn hrdL hd hn' hC1 hg1 hgv hv1 ho1 hC1n hxo1 hws hfull hL
    go_enter Try.func21, Try.ntmps21
    go_wp2_with fail
    (with_reducible refine CF.out.mono ?_)
    rintro e w0 ⟨rfl, rfl⟩
    go_upto_region 2 with (fail)
    rw [← HW2.out]
    clear aa0 aa1 aa4 bb4 q1 q2
    go_wp2_with (at_builtin; refine wpList_append_run rfl (.tmp 21) (.tmp 23) 51 rfl HR3.out ?_)
    rw [← HWW.out]
    clear a0 a1 b0 b1 d0 d1 e0 e1 HR3
    go_region_law (first
      | (refine step_append_run rfl (.tmp 32) (.tmp 33) 22 rfl HR5.out ?_)
      | (refine step_append_run rfl (.tmp 31) (.tmp 35) 51 rfl HR6.out ?_))
    all_goals
      clear f0 f1 i0 i1 j0 j1 k0 k1 HR5 HR6 HWW
      go_simp
      go_wp2_with fail
      go_end0
      exact ⟨rfl, FIN.out.2⟩
end Go.Proofs.Ytgmpoefgcimaiaa
