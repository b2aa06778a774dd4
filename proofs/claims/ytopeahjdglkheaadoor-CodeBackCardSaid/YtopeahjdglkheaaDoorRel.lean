/- Regions that draw their order, by what each slot is good for: each operation, wherever it comes up, is asked once, by the facts of the slots that it looks at; so whatever order is drawn, all facts stand at the end. Operations of a last part, which wait for all others, are walked as they stand. No program is named here. -/
import Derived.Deep.Quiet
import Derived.Below
import Derived.Tactics
import Derived.Test.YtopeahjdglkheaaDoorWordMath
namespace Go.Proofs.YtopeahjdglkheaaDoor
open Go.RowKit

/-- What a slot's value is good for: kept when memory grows. -/
structure Fact where
  holds : Value → World → Prop
  mono : ∀ v w w', Below w.heap.size w w' → holds v w → holds v w'
/-- The facts of slots. -/
abbrev Facts := List (Nat × Fact)
def factAt (T : Facts) (t : Nat) (v : Value) (w : World) : Prop :=
  match T.lookup t with
  | some f => f.holds v w
  | none => True
def factTo (T : Facts) (d : Option Nat) (v : Value) (w : World) : Prop :=
  match d with
  | some t => factAt T t v w
  | none => True
theorem factAt_mono {T : Facts} {t : Nat} {v : Value} {w w' : World} (h : Below w.heap.size w w') (k : factAt T t v w) : factAt T t v w' := by
  unfold factAt at *
  split
  · rename_i f hf
    rw [hf] at k
    exact f.mono v w w' h k
  · trivial

section
variable {P : Program} {ops : Array Oper} {T : Facts} {ds : List Nat}

/-- What an operation may come to: a value, or a call, and memory that has grown. -/
def relUpon (P : Program) (T : Facts) (d : Option Nat) (w : World) : Result Next → Prop
  | .ok (.value v) w' => Below w.heap.size w w' ∧ factTo T d v w'
  | .ok .skip w' => Below w.heap.size w w' ∧ factTo T d undef w'
  | .ok (.enter f args) w' => Below w.heap.size w w' ∧ Calls P f args w' fun e w'' => ∃ v, e = .returned v ∧ Below w'.heap.size w' w'' ∧ factTo T d v w''
  | _ => False
def relStep (P : Program) (ops : Array Oper) (T : Facts) (o : Oper) (a : Act) (w : World) : Prop :=
  if Region.wanted o (yielded ops a.tmps) = true then relUpon P T o.dst w ((execOp a.eval o).run P w) else factTo T o.dst undef w
/-- Of the slots looked at, those that the region writes are asked of by their facts alone. -/
def relAsk (ds : List Nat) (T : Facts) (w : World) (K : Act → Prop) : List Nat → Act → Prop
  | [], a => K a
  | t :: r, a => if ds.contains t = true then ∀ v, factAt T t v w → relAsk ds T w K r (a.put (some t) v) else relAsk ds T w K r a
def dstsOf (l : List Oper) : List Nat := l.filterMap (·.dst)
def relOps (P : Program) (ops : Array Oper) (ds : List Nat) (T : Facts) (a0 : Act) (w0 : World) : List Oper → Prop
  | [] => True
  | o :: r => (∀ w, Below w0.heap.size w0 w → relAsk ds T w (fun a => relStep P ops T o a w) (o.looksAt ops) a0) ∧ relOps P ops ds T a0 w0 r

/-- The same with the frame as it comes: what it holds beside the slots written, and the facts of those looked at. -/
def seeOps (P : Program) (ops : Array Oper) (ds : List Nat) (T : Facts) (a0 : Act) (w0 : World) : List Oper → Prop
  | [] => True
  | o :: r => (∀ w, Below w0.heap.size w0 w → ∀ a : Act, (∀ t : Nat, t ∉ ds → a.tmps.getD t undef = a0.tmps.getD t undef) → (∀ t : Nat, t ∈ o.looksAt ops → t ∈ ds → factAt T t (a.tmps.getD t undef) w) → relStep P ops T o a w) ∧ seeOps P ops ds T a0 w0 r
theorem seeOps_get {a0 : Act} {w0 : World} : ∀ {l : List Oper} {i : Nat} {o : Oper}, seeOps P ops ds T a0 w0 l → l[i]? = some o → ∀ w, Below w0.heap.size w0 w → ∀ a : Act, (∀ t : Nat, t ∉ ds → a.tmps.getD t undef = a0.tmps.getD t undef) → (∀ t : Nat, t ∈ o.looksAt ops → t ∈ ds → factAt T t (a.tmps.getD t undef) w) → relStep P ops T o a w
  | [], _, _, _, h => by cases h
  | x :: l, 0, o, h, hi => by simp at hi; subst hi; exact h.1
  | x :: l, i + 1, o, h, hi => seeOps_get h.2 (by simpa using hi)

theorem relOps_get {a0 : Act} {w0 : World} : ∀ {l : List Oper} {i : Nat} {o : Oper}, relOps P ops ds T a0 w0 l → l[i]? = some o → ∀ w, Below w0.heap.size w0 w → relAsk ds T w (fun a => relStep P ops T o a w) (o.looksAt ops) a0
  | [], _, _, _, h => by cases h
  | x :: l, 0, o, h, hi => by simp at hi; subst hi; exact h.1
  | x :: l, i + 1, o, h, hi => relOps_get h.2 (by simpa using hi)

theorem put_get (a : Act) (t : Nat) (v : Value) (j : Nat) : (a.put (some t) v).tmps[j]? = if t = j then (if t < a.tmps.size then some v else none) else a.tmps[j]? := by
  simp only [Act.put, Array.getElem?_setIfInBounds]
theorem put_size (a : Act) (d : Option Nat) (v : Value) : (a.put d v).tmps.size = a.tmps.size := by
  cases d <;> simp [Act.put]

theorem ask_spec {w : World} {K : Act → Prop} {a' : Act} : ∀ (l : List Nat) (a : Act), relAsk ds T w K l a → a.tmps.size = a'.tmps.size → (∀ t ∈ l, t ∈ ds → factAt T t (a'.tmps.getD t undef) w) →
    ∃ a'' : Act, K a'' ∧ a''.tmps.size = a'.tmps.size ∧ a''.defers = a.defers ∧ (∀ t : Nat, t ∈ l → t ∈ ds → a''.tmps[t]? = a'.tmps[t]?) ∧ (∀ t : Nat, t ∉ ds → a''.tmps[t]? = a.tmps[t]?) ∧ (∀ t : Nat, a.tmps[t]? = a'.tmps[t]? → a''.tmps[t]? = a'.tmps[t]?) ∧ (∀ t : Nat, t ∉ l → a''.tmps[t]? = a.tmps[t]?)
  | [], a, h, hs, _ => ⟨a, h, hs, rfl, (fun _ h => absurd h (by simp)), fun _ _ => rfl, fun _ h => h, fun _ _ => rfl⟩
  | t :: l, a, h, hs, hf => by
    unfold relAsk at h
    by_cases hc : ds.contains t = true
    · rw [if_pos hc] at h
      have ht : t ∈ ds := by simpa using hc
      have h1 := h (a'.tmps.getD t undef) (hf t List.mem_cons_self ht)
      obtain ⟨a'', k1, k2, k2', k3, k4, k5, k6⟩ := ask_spec l _ h1 (by rw [put_size]; exact hs) fun u hu => hf u (List.mem_cons_of_mem _ hu)
      have heq : (a.put (some t) (a'.tmps.getD t undef)).tmps[t]? = a'.tmps[t]? := by
        rw [put_get, if_pos rfl, hs]
        by_cases hlt : t < a'.tmps.size
        · rw [if_pos hlt]; simp [hlt]
        · rw [if_neg hlt, Array.getElem?_eq_none (by omega)]
      refine ⟨a'', k1, k2, by rw [k2']; rfl, fun u hu hud => ?_, fun u hu => ?_, fun u hu => ?_, fun u hu => ?_⟩
      · rcases List.mem_cons.1 hu with rfl | hu
        · exact k5 _ heq
        · exact k3 u hu hud
      · rw [k4 u hu, put_get, if_neg (fun e => by subst e; exact hu ht)]
      · refine k5 u ?_
        by_cases e : t = u
        · subst e; exact heq
        · rw [put_get, if_neg e]; exact hu
      · rw [k6 u (fun h => hu (List.mem_cons_of_mem _ h)), put_get, if_neg (fun e => by subst e; exact hu List.mem_cons_self)]
    · rw [if_neg hc] at h
      have ht : t ∉ ds := by simpa using hc
      obtain ⟨a'', k1, k2, k2', k3, k4, k5, k6⟩ := ask_spec l _ h hs fun u hu => hf u (List.mem_cons_of_mem _ hu)
      refine ⟨a'', k1, k2, k2', fun u hu hud => ?_, k4, k5, fun u hu => k6 u (fun h => hu (List.mem_cons_of_mem _ h))⟩
      rcases List.mem_cons.1 hu with rfl | hu
      · exact absurd hud ht
      · exact k3 u hu hud

/-- An operation sees the slots that it looks at alone. -/
theorem relStep_congr {o : Oper} {a a' : Act} {w : World} (hs : ∀ cs b, o.op ≠ .select cs b) (h : ∀ t ∈ o.looksAt ops, a.tmps[t]? = a'.tmps[t]?) (k : relStep P ops T o a w) : relStep P ops T o a' w := by
  have he : execOp a.eval o = execOp a'.eval o := execOp_congr o hs fun x hx => by
    cases x with
    | tmp t =>
      have := h t (List.mem_append_left _ (List.mem_filterMap.2 ⟨.tmp t, by simpa using hx, rfl⟩))
      simp [Act.eval, this]
    | _ => rfl
  have hw : Region.wanted o (yielded ops a.tmps) = Region.wanted o (yielded ops a'.tmps) := by
    unfold Region.wanted
    cases hg : o.guard with
    | none => rfl
    | some gw =>
      obtain ⟨g, want⟩ := gw
      have hy : yielded ops a.tmps g = yielded ops a'.tmps g := by
        unfold yielded
        cases ht : (ops[g]?).bind (·.dst) with
        | none => rfl
        | some t =>
          have := h t (List.mem_append_right _ (by simp [hg, ht]))
          simp [this]
      simp only [hy]
  unfold relStep at *
  rwa [← he, ← hw]

/-- What the theorem asks of a region's form: the first part's operations write slots of their own; whoever looks at one of those waits for its writer; the last part waits for all that stand ahead. -/
def waitsFor (o : Oper) (i : Nat) : Bool := o.after.any fun e => Region.binds .any e && e.on == i
def relB (init tail : List Oper) (nt : Nat) : Bool :=
  Region.noSelect (init ++ tail).toArray &&
  decide (dstsOf init).Nodup &&
  (dstsOf init).all (fun d => decide (d < nt)) &&
  (List.range init.length).all (fun j => match init[j]? with
    | some o => (o.looksAt (init ++ tail).toArray).all fun t => (List.range init.length).all fun i => match init[i]? with
      | some oi => oi.dst != some t || waitsFor o i
      | none => true
    | none => true) &&
  (List.range tail.length).all (fun j => match tail[j]? with
    | some o => (List.range (init.length + j)).all fun i => waitsFor o i
    | none => true) &&
  (List.range (init ++ tail).length).all (fun j => match (init ++ tail)[j]? with
    | some o => o.after.all fun e => !Region.binds .any e || decide (e.on < j)
    | none => true)

structure RelForm (init tail : List Oper) (nt : Nat) : Prop where
  sel : ∀ (j : Nat) (o : Oper) cs b, (init ++ tail).toArray[j]? = some o → o.op ≠ .select cs b
  nodup : (dstsOf init).Nodup
  small : ∀ d ∈ dstsOf init, d < nt
  look : ∀ (j : Nat) (o : Oper), init[j]? = some o → ∀ t ∈ o.looksAt (init ++ tail).toArray, ∀ (i : Nat) (oi : Oper), init[i]? = some oi → oi.dst = some t → ∃ e ∈ o.after, Region.binds .any e = true ∧ e.on = i
  wait : ∀ (j : Nat) (o : Oper), tail[j]? = some o → ∀ i : Nat, i < init.length + j → ∃ e ∈ o.after, Region.binds .any e = true ∧ e.on = i
  back : ∀ (j : Nat) (o : Oper), (init ++ tail)[j]? = some o → ∀ e ∈ o.after, Region.binds .any e = true → e.on < j

theorem waitsFor_spec {o : Oper} {i : Nat} (h : waitsFor o i = true) : ∃ e ∈ o.after, Region.binds .any e = true ∧ e.on = i := by
  unfold waitsFor at h
  obtain ⟨e, he, h⟩ := Array.any_eq_true'.1 h
  simp only [Bool.and_eq_true, beq_iff_eq] at h
  exact ⟨e, he, h.1, h.2⟩
theorem relB_form {init tail : List Oper} {nt : Nat} (h : relB init tail nt = true) : RelForm init tail nt := by
  unfold relB at h
  simp only [Bool.and_eq_true, decide_eq_true_eq] at h
  obtain ⟨⟨⟨⟨⟨h1, h2⟩, h3⟩, h4⟩, h5⟩, h6⟩ := h
  refine ⟨fun j o cs b hj => Region.noSelect_spec h1 j o cs b hj, h2, fun d hd => ?_, fun j o hj t ht i oi hi hd => ?_, fun j o hj i hi => ?_, fun j o hj e he hb => ?_⟩
  · have := List.all_eq_true.1 h3 d hd
    simpa using this
  · have hjl : j < init.length := (List.getElem?_eq_some_iff.1 hj).1
    have hil : i < init.length := (List.getElem?_eq_some_iff.1 hi).1
    have a := List.all_eq_true.1 h4 j (List.mem_range.2 hjl)
    rw [hj] at a
    have b := List.all_eq_true.1 (List.all_eq_true.1 a t ht) i (List.mem_range.2 hil)
    rw [hi] at b
    simp only [hd, bne_self_eq_false, Bool.false_or] at b
    exact waitsFor_spec b
  · have hjl : j < tail.length := (List.getElem?_eq_some_iff.1 hj).1
    have a := List.all_eq_true.1 h5 j (List.mem_range.2 hjl)
    rw [hj] at a
    exact waitsFor_spec (List.all_eq_true.1 a i (List.mem_range.2 hi))
  · have hjl : j < (init ++ tail).length := (List.getElem?_eq_some_iff.1 hj).1
    have a := List.all_eq_true.1 h6 j (List.mem_range.2 hjl)
    rw [hj] at a
    have b := Array.all_eq_true'.1 a e he
    simpa [hb] using b

/-- How many operations have not come up yet. -/
def unl (listed : Array Bool) : Nat := listed.toList.count false
theorem unl_set {listed : Array Bool} {i : Nat} (h : listed.getD i true = false) : unl (listed.setIfInBounds i true) + 1 = unl listed := by
  have hlt : i < listed.size := by
    rcases Nat.lt_or_ge i listed.size with h' | h'
    · exact h'
    · simp [Array.getElem?_eq_none h'] at h
  have hi : listed.toList[i]'(by simpa using hlt) = false := by
    have : listed.getD i true = listed[i] := by simp [hlt]
    rw [this] at h
    simpa using h
  unfold unl
  rw [Array.toList_setIfInBounds, List.count_set (by simpa using hlt)]
  have hp : 0 < listed.toList.count false := List.count_pos_iff.2 (by rw [← hi]; exact List.getElem_mem _)
  rw [hi]
  have hp' : 0 < Array.count false listed := by simpa using hp
  simp
  omega
theorem unl_zero {listed : Array Bool} (h : unl listed = 0) (i : Nat) (hi : i < listed.size) : listed.getD i true = true := by
  unfold unl at h
  rw [List.count_eq_zero] at h
  have : listed.getD i true = listed[i] := by simp [hi]
  rw [this]
  cases hv : listed[i] with
  | true => rfl
  | false => exact absurd (by rw [← hv]; exact Array.getElem_mem_toList hi) h

variable {init tail : List Oper} {Q : Exit → Act → World → Prop}
theorem app_right (t : Nat) : (init ++ tail).toArray[init.length + t]? = tail[t]? := by
  rw [List.getElem?_toArray, List.getElem?_append_right (by omega), show init.length + t - init.length = t by omega]
theorem app_left (i : Nat) (h : i < init.length) : (init ++ tail).toArray[i]? = init[i]? := by
  rw [List.getElem?_toArray, List.getElem?_append_left h]
theorem getD_bool (listed : Array Bool) (i : Nat) (hi : i < listed.size) (b c : Bool) : listed.getD i b = listed.getD i c := by simp [hi]
/-- The last part, walked as it stands. -/
theorem rel_tail {nt : Nat} (F : RelForm init tail nt) : ∀ (rest : List Oper) (t fuel : Nat) (listed : Array Bool) (a : Act) (w : World), tail.drop t = rest → t + rest.length = tail.length →
    listed.size = (init ++ tail).length → (∀ i, i < (init ++ tail).length → listed.getD i true = decide (i < init.length + t)) → rest.length ≤ fuel → wpList P (init ++ tail).toArray Q rest a w →
    wpAny P .any (init ++ tail).toArray Q fuel listed a w
  | [], t, fuel, listed, a, w, _, hl, hs, hlist, _, h => by
    have hr : Region.ready .any (init ++ tail).toArray listed = [] := by
      rw [List.eq_nil_iff_forall_not_mem]
      intro j hj
      obtain ⟨h0, o, ho, _⟩ := mem_ready.1 hj
      have hj2 : j < (init ++ tail).length := by
        have := (Array.getElem?_eq_some_iff.1 ho).1
        simpa using this
      rw [hlist j hj2] at h0
      simp at h0 hl hj2
      omega
    cases fuel with
    | zero => exact ⟨hr, h⟩
    | succ f => exact ⟨fun _ => h, fun i hi => by rw [hr] at hi; cases hi⟩
  | o :: rest, t, 0, _, _, _, _, _, _, _, hf, _ => by simp at hf
  | o :: rest, t, fuel + 1, listed, a, w, hd, hl, hs, hlist, hf, h => by
    have ht : t < tail.length := by simp at hl; omega
    have hto : tail[t]? = some o := by
      have := List.drop_eq_getElem_cons ht
      rw [hd] at this
      rw [List.getElem?_eq_getElem ht]
      injection this with h1 _
      rw [h1]
    have hop : (init ++ tail).toArray[init.length + t]? = some o := by rw [app_right, hto]
    have hlt : init.length + t < (init ++ tail).length := by simp; omega
    have hin : init.length + t ∈ Region.ready .any (init ++ tail).toArray listed := by
      rw [mem_ready]
      refine ⟨by rw [hlist _ hlt]; simp, o, hop, fun e he hb => ?_⟩
      have h1 := F.back (init.length + t) o (by simpa using hop) e he hb
      have h2 : e.on < (init ++ tail).length := by omega
      rw [getD_bool listed e.on (by omega) false true, hlist _ h2]
      simpa using h1
    refine ⟨fun h0 => (by rw [h0] at hin; cases hin), fun i hi => ?_⟩
    obtain ⟨h0, oi, hoi, hall⟩ := mem_ready.1 hi
    have hi2 : i < (init ++ tail).length := by
      have := (Array.getElem?_eq_some_iff.1 hoi).1
      simpa using this
    have hie : i = init.length + t := by
      rw [hlist i hi2] at h0
      have h0 : init.length + t ≤ i := by simpa using h0
      rcases Nat.lt_or_ge (init.length + t) i with hlt2 | hge
      · exfalso
        obtain ⟨j, rfl⟩ : ∃ j, i = init.length + j := ⟨i - init.length, by omega⟩
        have hoj : tail[j]? = some oi := by rw [← app_right (init := init)]; exact hoi
        obtain ⟨e, he, hb, hon⟩ := F.wait j oi hoj (init.length + t) (by omega)
        have := hall e he hb
        rw [hon, getD_bool listed _ (by omega) false true, hlist _ hlt] at this
        simp at this
      · omega
    subst hie
    rw [hop] at hoi
    injection hoi with hoi
    subst hoi
    have hnext : ∀ a w, wpList P (init ++ tail).toArray Q rest a w → wpAny P .any (init ++ tail).toArray Q fuel (listed.setIfInBounds (init.length + t) true) a w := fun a w hk =>
      rel_tail F rest (t + 1) fuel _ a w (by rw [← List.drop_drop, hd]; rfl) (by simp at hl; omega) (by simpa using hs) (fun i hi => by
        by_cases e : init.length + t = i
        · subst e; simp [hs]
        · rw [getD_set_ne true e, hlist i hi]; simp; omega) (by simpa using hf) hk
    unfold wpOp
    rw [hop]
    simp only [wpList] at h
    by_cases hw : Region.wanted o (yielded (init ++ tail).toArray a.tmps) = true
    · simp only [hw, if_true] at h ⊢
      exact h.imp (Oper.wp_mono hnext) id
    · simp only [hw] at h ⊢
      exact hnext _ _ h

/-- What holds while the first part's operations come up. -/
structure RelInv (init tail : List Oper) (T : Facts) (a0 : Act) (w0 : World) (listed : Array Bool) (a : Act) (w : World) : Prop where
  below : Below w0.heap.size w0 w
  defers : a.defers = a0.defers
  size : a.tmps.size = a0.tmps.size
  out : ∀ t : Nat, t ∉ dstsOf init → a.tmps[t]? = a0.tmps[t]?
  fact : ∀ (i : Nat) (o : Oper) (t : Nat), init[i]? = some o → o.dst = some t → listed.getD i false = true → factAt T t (a.tmps.getD t undef) w
  len : listed.size = (init ++ tail).length
  last : ∀ i, init.length ≤ i → i < (init ++ tail).length → listed.getD i true = false

theorem mem_dsts {l : List Oper} {i : Nat} {o : Oper} {t : Nat} (h : l[i]? = some o) (hd : o.dst = some t) : t ∈ dstsOf l := by
  unfold dstsOf
  rw [List.mem_filterMap]
  exact ⟨o, List.mem_of_getElem? h, hd⟩
theorem dsts_get {l : List Oper} {t : Nat} (h : t ∈ dstsOf l) : ∃ (i : Nat) (o : Oper), l[i]? = some o ∧ o.dst = some t := by
  unfold dstsOf at h
  rw [List.mem_filterMap] at h
  obtain ⟨o, ho, hd⟩ := h
  obtain ⟨i, hi⟩ := List.mem_iff_getElem?.1 ho
  exact ⟨i, o, hi, hd⟩
theorem dsts_inj : ∀ {l : List Oper} {i j : Nat} {o o' : Oper} {t : Nat}, (dstsOf l).Nodup → l[i]? = some o → l[j]? = some o' → o.dst = some t → o'.dst = some t → i = j
  | [], _, _, _, _, _, _, h, _, _, _ => by cases h
  | x :: l, 0, 0, _, _, _, _, _, _, _, _ => rfl
  | x :: l, 0, j + 1, o, o', t, hn, h1, h2, d1, d2 => by
    simp at h1; subst h1
    have : t ∈ dstsOf l := mem_dsts (i := j) (by simpa using h2) d2
    unfold dstsOf at hn
    rw [List.filterMap_cons, d1] at hn
    exact absurd this (List.nodup_cons.1 hn).1
  | x :: l, i + 1, 0, o, o', t, hn, h1, h2, d1, d2 => by
    simp at h2; subst h2
    have : t ∈ dstsOf l := mem_dsts (i := i) (by simpa using h1) d1
    unfold dstsOf at hn
    rw [List.filterMap_cons, d2] at hn
    exact absurd this (List.nodup_cons.1 hn).1
  | x :: l, i + 1, j + 1, o, o', t, hn, h1, h2, d1, d2 => by
    have hn' : (dstsOf l).Nodup := by
      unfold dstsOf at hn ⊢
      rw [List.filterMap_cons] at hn
      split at hn
      · exact hn
      · exact (List.nodup_cons.1 hn).2
    have := dsts_inj hn' (by simpa using h1) (by simpa using h2) d1 d2
    omega

/-- Each operation of the first part, wherever it comes up. -/
def StepOk (P : Program) (ops : Array Oper) (ds : List Nat) (T : Facts) (a0 : Act) (w0 : World) (l : List Oper) : Prop :=
  ∀ (i : Nat) (o : Oper), l[i]? = some o → (∀ cs b, o.op ≠ .select cs b) → ∀ w, Below w0.heap.size w0 w → ∀ a : Act, a.tmps.size = a0.tmps.size → (∀ t : Nat, t ∉ ds → a.tmps[t]? = a0.tmps[t]?) →
    (∀ t : Nat, t ∈ o.looksAt ops → t ∈ ds → factAt T t (a.tmps.getD t undef) w) → relStep P ops T o a w
theorem stepOk_see {l : List Oper} {a0 : Act} {w0 : World} (h : seeOps P ops ds T a0 w0 l) : StepOk P ops ds T a0 w0 l := fun _ _ hi _ w hb a _ hout hf =>
  seeOps_get h hi w hb a (fun t ht => by simp only [Array.getD_eq_getD_getElem?, hout t ht]) hf
theorem stepOk_rel {l : List Oper} {a0 : Act} {w0 : World} (h : relOps P ops ds T a0 w0 l) : StepOk P ops ds T a0 w0 l := fun i o hi hsel w hb a hsz hout hf => by
  obtain ⟨a'', k1, k2, _, k3, k4, _, _⟩ := ask_spec (a' := a) _ _ (relOps_get h hi w hb) hsz.symm hf
  exact relStep_congr hsel (fun t ht => by
    by_cases htd : t ∈ ds
    · exact k3 t ht htd
    · rw [k4 t htd, hout t htd]) k1

/-- One operation of the first part. -/
theorem rel_op {a0 : Act} {w0 : World} (F : RelForm init tail a0.tmps.size) (hops : StepOk P (init ++ tail).toArray (dstsOf init) T a0 w0 init) {listed : Array Bool} {a : Act} {w : World} {i : Nat} {o : Oper}
    (I : RelInv init tail T a0 w0 listed a w) (hi : init[i]? = some o) (hr : i ∈ Region.ready .any (init ++ tail).toArray listed) {K : Act → World → Prop}
    (hK : ∀ a' w', RelInv init tail T a0 w0 (listed.setIfInBounds i true) a' w' → K a' w') : wpOp P (init ++ tail).toArray Q i K a w := by
  have hil : i < init.length := (List.getElem?_eq_some_iff.1 hi).1
  have hop : (init ++ tail).toArray[i]? = some o := by rw [app_left i hil, hi]
  obtain ⟨h0, o', ho', hall⟩ := mem_ready.1 hr
  rw [hop] at ho'
  injection ho' with ho'
  subst ho'
  have hstep : relStep P (init ++ tail).toArray T o a w := hops i o hi (fun cs b => F.sel i o cs b hop) w I.below a I.size I.out fun t ht htd => by
    obtain ⟨j, oj, hj, hjd⟩ := dsts_get htd
    obtain ⟨e, he, hb, hon⟩ := F.look i o hi t ht j oj hj hjd
    have := hall e he hb
    rw [hon] at this
    exact I.fact j oj t hj hjd this
  have next : ∀ v w', Below w.heap.size w w' → factTo T o.dst v w' → RelInv init tail T a0 w0 (listed.setIfInBounds i true) (a.put o.dst v) w' := fun v w' hb hf => by
    refine ⟨I.below.trans (hb.mono I.below.size), ?_, by rw [put_size]; exact I.size, fun t ht => ?_, fun j oj t hj hjd hl => ?_, by simpa using I.len, fun j hj hjl => ?_⟩
    · cases o.dst <;> exact I.defers
    · cases hd : o.dst with
      | none => exact I.out t ht
      | some d =>
        rw [put_get, if_neg (fun e => by subst e; exact ht (mem_dsts hi hd))]
        exact I.out t ht
    · by_cases hij : i = j
      · subst hij
        rw [hi] at hj
        injection hj with hj
        subst hj
        rw [hjd] at hf ⊢
        have hlt : t < a.tmps.size := by rw [I.size]; exact F.small t (mem_dsts hi hjd)
        have : (a.put (some t) v).tmps.getD t undef = v := by simp [Act.put, hlt]
        rw [this]
        exact hf
      · rw [getD_set_ne false hij] at hl
        have hold := factAt_mono hb (I.fact j oj t hj hjd hl)
        have hne : o.dst ≠ some t := fun e => hij (dsts_inj F.nodup hi hj e hjd)
        have : (a.put o.dst v).tmps.getD t undef = a.tmps.getD t undef := by
          cases hd : o.dst with
          | none => rfl
          | some d =>
            have hdt : d ≠ t := fun e => hne (by rw [hd, e])
            have h1 := put_get a d v t
            rw [if_neg hdt] at h1
            simp only [Array.getD_eq_getD_getElem?, h1]
        rw [this]
        exact hold
    · rw [getD_set_ne true (by omega)]
      exact I.last j hj hjl
  unfold wpOp
  rw [hop]
  unfold relStep at hstep
  by_cases hw : Region.wanted o (yielded (init ++ tail).toArray a.tmps) = true
  · simp only [hw, if_true] at hstep ⊢
    left
    unfold Oper.wp
    generalize (execOp a.eval o).run P w = r at hstep
    cases r with
    | halt x w' => simp [relUpon] at hstep
    | ok n w' =>
      cases n <;> simp only [relUpon] at hstep <;> simp only [Oper.upon]
      case value v => exact hK _ _ (next v w' hstep.1 hstep.2)
      case skip => exact hK _ _ (next undef w' hstep.1 hstep.2)
      case enter f args =>
        refine hstep.2.mono ?_
        rintro e w'' ⟨v, rfl, hb, hf⟩
        exact hK _ _ (next v w'' (hstep.1.trans (hb.mono hstep.1.size)) hf)
  · simp only [hw] at hstep ⊢
    exact hK _ _ (next undef w (Below.refl _ _) hstep)

theorem first_open (listed : Array Bool) : ∀ n : Nat, (∀ i, i < n → listed.getD i true = true) ∨ ∃ i, i < n ∧ listed.getD i true = false ∧ ∀ j, j < i → listed.getD j true = true
  | 0 => .inl fun i hi => by omega
  | n + 1 => by
    rcases first_open listed n with h | ⟨i, hi, h1, h2⟩
    · cases hv : listed.getD n true with
      | true =>
        left
        intro i hi
        rcases Nat.lt_or_ge i n with h' | h'
        · exact h i h'
        · obtain rfl : i = n := by omega
          exact hv
      | false => exact .inr ⟨n, by omega, hv, h⟩
    · exact .inr ⟨i, by omega, h1, h2⟩
theorem unl_tail {a0 : Act} {w0 : World} {listed : Array Bool} {a : Act} {w : World} (I : RelInv init tail T a0 w0 listed a w) : tail.length ≤ unl listed := by
  have hlen := I.len
  have e : unl listed = (listed.toList.take init.length).count false + (listed.toList.drop init.length).count false := by
    unfold unl
    rw [← List.count_append, List.take_append_drop]
  have hd : (listed.toList.drop init.length).count false = (listed.toList.drop init.length).length := by
    rw [List.count_eq_length]
    intro b hb
    obtain ⟨j, hj⟩ := List.mem_iff_getElem?.1 hb
    rw [List.getElem?_drop] at hj
    have hlt : init.length + j < listed.size := by
      have := (List.getElem?_eq_some_iff.1 hj).1
      simpa using this
    have := I.last (init.length + j) (by omega) (by omega)
    have h2 : listed.getD (init.length + j) true = listed[init.length + j] := by simp [hlt]
    have h3 : listed.toList[init.length + j]? = some listed[init.length + j] := by simp [hlt]
    rw [h3] at hj
    injection hj with hj
    rw [← hj, ← h2, this]
  have h5 : (listed.toList.drop init.length).length = tail.length := by simp [hlen]
  omega
theorem rel_done {a0 : Act} {w0 : World} (F : RelForm init tail a0.tmps.size)
    (hQ : ∀ w', Below w0.heap.size w0 w' → relAsk (dstsOf init) T w' (fun a' => wpList P (init ++ tail).toArray Q tail a' w') (dstsOf init) a0)
    {fuel : Nat} {listed : Array Bool} {a : Act} {w : World} (I : RelInv init tail T a0 w0 listed a w) (hall : ∀ i, i < init.length → listed.getD i true = true) (hf : tail.length ≤ fuel) :
    wpAny P .any (init ++ tail).toArray Q fuel listed a w := by
  obtain ⟨a'', k1, k2, k2', k3, k4, _, _⟩ := ask_spec (a' := a) _ _ (hQ w I.below) I.size.symm fun t ht htd => by
    obtain ⟨j, oj, hj, hjd⟩ := dsts_get htd
    have hjl : j < init.length := (List.getElem?_eq_some_iff.1 hj).1
    exact I.fact j oj t hj hjd (by rw [getD_bool listed j (by rw [I.len]; simp; omega) false true]; exact hall j hjl)
  have hea : a'' = a := by
    have ht : a''.tmps = a.tmps := Array.ext_getElem? fun t => by
      by_cases htd : t ∈ dstsOf init
      · exact k3 t htd htd
      · rw [k4 t htd, I.out t htd]
    have hd : a''.defers = a.defers := by rw [k2', I.defers]
    cases a''; cases a
    simp only at ht hd
    rw [ht, hd]
  subst hea
  refine rel_tail F tail 0 fuel listed a'' w (by simp) (by simp) I.len (fun i hi => ?_) hf k1
  rcases Nat.lt_or_ge i init.length with h | h
  · rw [hall i h]; simp; omega
  · rw [I.last i h hi]; simp; omega
theorem rel_any {a0 : Act} {w0 : World} (F : RelForm init tail a0.tmps.size) (hops : StepOk P (init ++ tail).toArray (dstsOf init) T a0 w0 init)
    (hQ : ∀ w', Below w0.heap.size w0 w' → relAsk (dstsOf init) T w' (fun a' => wpList P (init ++ tail).toArray Q tail a' w') (dstsOf init) a0) :
    ∀ (fuel : Nat) (listed : Array Bool) (a : Act) (w : World), RelInv init tail T a0 w0 listed a w → unl listed ≤ fuel → wpAny P .any (init ++ tail).toArray Q fuel listed a w := by
  intro fuel
  induction fuel with
  | zero =>
    intro listed a w I hu
    exact rel_done F hQ I (fun i hi => unl_zero (by omega) i (by rw [I.len]; simp; omega)) (Nat.le_trans (unl_tail I) hu)
  | succ fuel ih =>
    intro listed a w I hu
    rcases first_open listed init.length with hall | ⟨i, hi, hopen, hmin⟩
    · exact rel_done F hQ I hall (Nat.le_trans (unl_tail I) hu)
    · have hii : init[i]? = some init[i] := List.getElem?_eq_getElem hi
      have hop : (init ++ tail).toArray[i]? = some init[i] := by rw [app_left i hi, hii]
      have hin : i ∈ Region.ready .any (init ++ tail).toArray listed := by
        rw [mem_ready]
        refine ⟨hopen, _, hop, fun e he hb => ?_⟩
        have h1 := F.back i init[i] (by rw [← List.getElem?_toArray]; exact hop) e he hb
        rw [getD_bool listed e.on (by rw [I.len]; simp; omega) false true]
        exact hmin _ h1
      refine ⟨fun h0 => (by rw [h0] at hin; cases hin), fun j hj => ?_⟩
      obtain ⟨h0, oj, hoj, hallj⟩ := mem_ready.1 hj
      rcases Nat.lt_or_ge j init.length with hjl | hjl
      · exact rel_op F hops I (List.getElem?_eq_getElem hjl) hj fun a' w' I' => ih _ _ _ I' (by have := unl_set h0; omega)
      · exfalso
        obtain ⟨m, rfl⟩ : ∃ m, j = init.length + m := ⟨j - init.length, by omega⟩
        have htm : tail[m]? = some oj := by rw [← app_right (init := init)]; exact hoj
        obtain ⟨e, he, hb, hon⟩ := F.wait m oj htm i (by omega)
        have := hallj e he hb
        rw [hon, getD_bool listed i (by rw [I.len]; simp; omega) false true, hopen] at this
        cases this

/-- A region that draws its order, by the facts of its slots. -/
theorem wp_region_rel {id : Nat} {a : Act} {w : World} {l : List Oper} (n : Nat) (T : Facts) (hm : P.follows .mixedOrders = true) (hB : relB (l.take n) (l.drop n) a.tmps.size = true)
    (hops : relOps P l.toArray (dstsOf (l.take n)) T a w (l.take n))
    (hQ : ∀ w', Below w.heap.size w w' → relAsk (dstsOf (l.take n)) T w' (fun a' => wpList P l.toArray Q (l.drop n) a' w') (dstsOf (l.take n)) a) :
    (Code.region id l.toArray true).wp P Q a w := by
  have F := relB_form hB
  have e : l.take n ++ l.drop n = l := List.take_append_drop n l
  refine wp_region_any hm ?_
  have key := rel_any (T := T) (w0 := w) F (by rw [e]; exact stepOk_rel hops) (by rw [e]; exact hQ) l.toArray.size (Array.replicate l.toArray.size false) a { w with drawn := w.drawn + 1 }
    ⟨⟨rfl, rfl, rfl, Nat.le_refl _, fun _ _ => rfl⟩, rfl, rfl, fun _ _ => rfl, fun i o t _ _ h => by
      exfalso
      rw [Array.getD_eq_getD_getElem?, Array.getElem?_replicate] at h
      split at h <;> simp at h, by rw [e]; simp, fun i _ hi => by rw [e] at hi; simp [hi]⟩
    (by unfold unl; simp)
  rw [e] at key
  exact key
/-- The same, with the slots written laid out, and each operation asked in the frame as it comes. -/
theorem wp_region_see {id : Nat} {a : Act} {w : World} {l : List Oper} (n : Nat) (ds : List Nat) (T : Facts) (hm : P.follows .mixedOrders = true) (hB : relB (l.take n) (l.drop n) a.tmps.size = true) (hd : dstsOf (l.take n) = ds)
    (hops : seeOps P l.toArray ds T a w (l.take n))
    (hQ : ∀ w', Below w.heap.size w w' → relAsk ds T w' (fun a' => wpList P l.toArray Q (l.drop n) a' w') ds a) :
    (Code.region id l.toArray true).wp P Q a w := by
  subst hd
  have F := relB_form hB
  have e : l.take n ++ l.drop n = l := List.take_append_drop n l
  refine wp_region_any hm ?_
  have key := rel_any (T := T) (w0 := w) F (by rw [e]; exact stepOk_see hops) (by rw [e]; exact hQ) l.toArray.size (Array.replicate l.toArray.size false) a { w with drawn := w.drawn + 1 }
    ⟨⟨rfl, rfl, rfl, Nat.le_refl _, fun _ _ => rfl⟩, rfl, rfl, fun _ _ => rfl, fun i o t _ _ h => by
      exfalso
      rw [Array.getD_eq_getD_getElem?, Array.getElem?_replicate] at h
      split at h <;> simp at h, by rw [e]; simp, fun i _ hi => by rw [e] at hi; simp [hi]⟩
    (by unfold unl; simp)
  rw [e] at key
  exact key
theorem seeOps_nil {a0 : Act} {w0 : World} : seeOps P ops ds T a0 w0 [] := trivial
theorem seeOps_cons {a0 : Act} {w0 : World} {o : Oper} {r : List Oper}
    (h : ∀ w, Below w0.heap.size w0 w → ∀ a : Act, (∀ t : Nat, t ∉ ds → a.tmps.getD t undef = a0.tmps.getD t undef) → (∀ t : Nat, t ∈ o.looksAt ops → t ∈ ds → factAt T t (a.tmps.getD t undef) w) → relStep P ops T o a w)
    (k : seeOps P ops ds T a0 w0 r) : seeOps P ops ds T a0 w0 (o :: r) := ⟨h, k⟩
theorem wanted_none {o : Oper} {a : Act} (h : o.guard = none) : Region.wanted o (yielded ops a.tmps) = true := by
  unfold Region.wanted; rw [h]
theorem wanted_some {o : Oper} {a : Act} {g t : Nat} {b : Bool} (h : o.guard = some (g, b)) (hg : (ops[g]?).bind (·.dst) = some t) (hv : a.tmps.getD t undef = .bool b) : Region.wanted o (yielded ops a.tmps) = true := by
  unfold Region.wanted
  rw [h]
  have : a.tmps[t]? = some (.bool b) := by
    rw [Array.getD_eq_getD_getElem?] at hv
    cases hx : a.tmps[t]? with
    | none => rw [hx] at hv; simp [undef] at hv
    | some v => rw [hx] at hv; simp at hv; rw [hv]
  simp [yielded, hg, this]
end
end Go.Proofs.YtopeahjdglkheaaDoor
/- The theorems of Rel, with any relation between worlds that memory's growth keeps (a store into a block of the region's own, say). Regions that draw their order, by what each slot is good for: each operation, wherever it comes up, is asked once, by the facts of the slots that it looks at; so whatever order is drawn, all facts stand at the end. Operations of a last part, which wait for all others, are walked as they stand. No program is named here. -/
namespace Go.Proofs.YtopeahjdglkheaaDoor.RK
open Go.RowKit

/-- A relation between worlds: what facts are kept by. -/
structure Rl where
  r : World → World → Prop
  refl : ∀ w, r w w
  trans : ∀ {a b c}, r a b → r b c → r a c
  drew : ∀ w : World, r w { w with drawn := w.drawn + 1 }

/-- What a slot's value is good for: kept when memory grows. -/
structure Fact (R : Rl) where
  holds : Value → World → Prop
  mono : ∀ v w w', R.r w w' → holds v w → holds v w'
/-- The facts of slots. -/
abbrev Facts (R : Rl) := List (Nat × Fact R)
def factAt {R : Rl} (T : Facts R) (t : Nat) (v : Value) (w : World) : Prop :=
  match T.lookup t with
  | some f => f.holds v w
  | none => True
def factTo {R : Rl} (T : Facts R) (d : Option Nat) (v : Value) (w : World) : Prop :=
  match d with
  | some t => factAt T t v w
  | none => True
theorem factAt_mono {R : Rl} {T : Facts R} {t : Nat} {v : Value} {w w' : World} (h : R.r w w') (k : factAt T t v w) : factAt T t v w' := by
  unfold factAt at *
  split
  · rename_i f hf
    rw [hf] at k
    exact f.mono v w w' h k
  · trivial

section
variable {R : Rl} {P : Program} {ops : Array Oper} {T : Facts R} {ds : List Nat}

/-- What an operation may come to: a value, or a call, and memory that has grown. -/
def relUpon {R : Rl} (P : Program) (T : Facts R) (d : Option Nat) (w : World) : Result Next → Prop
  | .ok (.value v) w' => R.r w w' ∧ factTo T d v w'
  | .ok .skip w' => R.r w w' ∧ factTo T d undef w'
  | .ok (.enter f args) w' => R.r w w' ∧ Calls P f args w' fun e w'' => ∃ v, e = .returned v ∧ R.r w' w'' ∧ factTo T d v w''
  | _ => False
def relStep {R : Rl} (P : Program) (ops : Array Oper) (T : Facts R) (o : Oper) (a : Act) (w : World) : Prop :=
  if Region.wanted o (yielded ops a.tmps) = true then relUpon P T o.dst w ((execOp a.eval o).run P w) else factTo T o.dst undef w
/-- Of the slots looked at, those that the region writes are asked of by their facts alone. -/
def relAsk {R : Rl} (ds : List Nat) (T : Facts R) (w : World) (K : Act → Prop) : List Nat → Act → Prop
  | [], a => K a
  | t :: r, a => if ds.contains t = true then ∀ v, factAt T t v w → relAsk ds T w K r (a.put (some t) v) else relAsk ds T w K r a
def dstsOf (l : List Oper) : List Nat := l.filterMap (·.dst)
def relOps {R : Rl} (P : Program) (ops : Array Oper) (ds : List Nat) (T : Facts R) (a0 : Act) (w0 : World) : List Oper → Prop
  | [] => True
  | o :: r => (∀ w, R.r w0 w → relAsk ds T w (fun a => relStep P ops T o a w) (o.looksAt ops) a0) ∧ relOps P ops ds T a0 w0 r

/-- The same with the frame as it comes: what it holds beside the slots written, and the facts of those looked at. -/
def seeOps {R : Rl} (P : Program) (ops : Array Oper) (ds : List Nat) (T : Facts R) (a0 : Act) (w0 : World) : List Oper → Prop
  | [] => True
  | o :: r => (∀ w, R.r w0 w → ∀ a : Act, (∀ t : Nat, t ∉ ds → a.tmps.getD t undef = a0.tmps.getD t undef) → (∀ t : Nat, t ∈ o.looksAt ops → t ∈ ds → factAt T t (a.tmps.getD t undef) w) → relStep P ops T o a w) ∧ seeOps P ops ds T a0 w0 r
theorem seeOps_get {a0 : Act} {w0 : World} : ∀ {l : List Oper} {i : Nat} {o : Oper}, seeOps P ops ds T a0 w0 l → l[i]? = some o → ∀ w, R.r w0 w → ∀ a : Act, (∀ t : Nat, t ∉ ds → a.tmps.getD t undef = a0.tmps.getD t undef) → (∀ t : Nat, t ∈ o.looksAt ops → t ∈ ds → factAt T t (a.tmps.getD t undef) w) → relStep P ops T o a w
  | [], _, _, _, h => by cases h
  | x :: l, 0, o, h, hi => by simp at hi; subst hi; exact h.1
  | x :: l, i + 1, o, h, hi => seeOps_get h.2 (by simpa using hi)

theorem relOps_get {a0 : Act} {w0 : World} : ∀ {l : List Oper} {i : Nat} {o : Oper}, relOps P ops ds T a0 w0 l → l[i]? = some o → ∀ w, R.r w0 w → relAsk ds T w (fun a => relStep P ops T o a w) (o.looksAt ops) a0
  | [], _, _, _, h => by cases h
  | x :: l, 0, o, h, hi => by simp at hi; subst hi; exact h.1
  | x :: l, i + 1, o, h, hi => relOps_get h.2 (by simpa using hi)

theorem put_get (a : Act) (t : Nat) (v : Value) (j : Nat) : (a.put (some t) v).tmps[j]? = if t = j then (if t < a.tmps.size then some v else none) else a.tmps[j]? := by
  simp only [Act.put, Array.getElem?_setIfInBounds]
theorem put_size (a : Act) (d : Option Nat) (v : Value) : (a.put d v).tmps.size = a.tmps.size := by
  cases d <;> simp [Act.put]

theorem ask_spec {w : World} {K : Act → Prop} {a' : Act} : ∀ (l : List Nat) (a : Act), relAsk ds T w K l a → a.tmps.size = a'.tmps.size → (∀ t ∈ l, t ∈ ds → factAt T t (a'.tmps.getD t undef) w) →
    ∃ a'' : Act, K a'' ∧ a''.tmps.size = a'.tmps.size ∧ a''.defers = a.defers ∧ (∀ t : Nat, t ∈ l → t ∈ ds → a''.tmps[t]? = a'.tmps[t]?) ∧ (∀ t : Nat, t ∉ ds → a''.tmps[t]? = a.tmps[t]?) ∧ (∀ t : Nat, a.tmps[t]? = a'.tmps[t]? → a''.tmps[t]? = a'.tmps[t]?) ∧ (∀ t : Nat, t ∉ l → a''.tmps[t]? = a.tmps[t]?)
  | [], a, h, hs, _ => ⟨a, h, hs, rfl, (fun _ h => absurd h (by simp)), fun _ _ => rfl, fun _ h => h, fun _ _ => rfl⟩
  | t :: l, a, h, hs, hf => by
    unfold relAsk at h
    by_cases hc : ds.contains t = true
    · rw [if_pos hc] at h
      have ht : t ∈ ds := by simpa using hc
      have h1 := h (a'.tmps.getD t undef) (hf t List.mem_cons_self ht)
      obtain ⟨a'', k1, k2, k2', k3, k4, k5, k6⟩ := ask_spec l _ h1 (by rw [put_size]; exact hs) fun u hu => hf u (List.mem_cons_of_mem _ hu)
      have heq : (a.put (some t) (a'.tmps.getD t undef)).tmps[t]? = a'.tmps[t]? := by
        rw [put_get, if_pos rfl, hs]
        by_cases hlt : t < a'.tmps.size
        · rw [if_pos hlt]; simp [hlt]
        · rw [if_neg hlt, Array.getElem?_eq_none (by omega)]
      refine ⟨a'', k1, k2, by rw [k2']; rfl, fun u hu hud => ?_, fun u hu => ?_, fun u hu => ?_, fun u hu => ?_⟩
      · rcases List.mem_cons.1 hu with rfl | hu
        · exact k5 _ heq
        · exact k3 u hu hud
      · rw [k4 u hu, put_get, if_neg (fun e => by subst e; exact hu ht)]
      · refine k5 u ?_
        by_cases e : t = u
        · subst e; exact heq
        · rw [put_get, if_neg e]; exact hu
      · rw [k6 u (fun h => hu (List.mem_cons_of_mem _ h)), put_get, if_neg (fun e => by subst e; exact hu List.mem_cons_self)]
    · rw [if_neg hc] at h
      have ht : t ∉ ds := by simpa using hc
      obtain ⟨a'', k1, k2, k2', k3, k4, k5, k6⟩ := ask_spec l _ h hs fun u hu => hf u (List.mem_cons_of_mem _ hu)
      refine ⟨a'', k1, k2, k2', fun u hu hud => ?_, k4, k5, fun u hu => k6 u (fun h => hu (List.mem_cons_of_mem _ h))⟩
      rcases List.mem_cons.1 hu with rfl | hu
      · exact absurd hud ht
      · exact k3 u hu hud

/-- An operation sees the slots that it looks at alone. -/
theorem relStep_congr {o : Oper} {a a' : Act} {w : World} (hs : ∀ cs b, o.op ≠ .select cs b) (h : ∀ t ∈ o.looksAt ops, a.tmps[t]? = a'.tmps[t]?) (k : relStep P ops T o a w) : relStep P ops T o a' w := by
  have he : execOp a.eval o = execOp a'.eval o := execOp_congr o hs fun x hx => by
    cases x with
    | tmp t =>
      have := h t (List.mem_append_left _ (List.mem_filterMap.2 ⟨.tmp t, by simpa using hx, rfl⟩))
      simp [Act.eval, this]
    | _ => rfl
  have hw : Region.wanted o (yielded ops a.tmps) = Region.wanted o (yielded ops a'.tmps) := by
    unfold Region.wanted
    cases hg : o.guard with
    | none => rfl
    | some gw =>
      obtain ⟨g, want⟩ := gw
      have hy : yielded ops a.tmps g = yielded ops a'.tmps g := by
        unfold yielded
        cases ht : (ops[g]?).bind (·.dst) with
        | none => rfl
        | some t =>
          have := h t (List.mem_append_right _ (by simp [hg, ht]))
          simp [this]
      simp only [hy]
  unfold relStep at *
  rwa [← he, ← hw]

/-- What the theorem asks of a region's form: the first part's operations write slots of their own; whoever looks at one of those waits for its writer; the last part waits for all that stand ahead. -/
def waitsFor (o : Oper) (i : Nat) : Bool := o.after.any fun e => Region.binds .any e && e.on == i
def relB (init tail : List Oper) (nt : Nat) : Bool :=
  Region.noSelect (init ++ tail).toArray &&
  decide (dstsOf init).Nodup &&
  (dstsOf init).all (fun d => decide (d < nt)) &&
  (List.range init.length).all (fun j => match init[j]? with
    | some o => (o.looksAt (init ++ tail).toArray).all fun t => (List.range init.length).all fun i => match init[i]? with
      | some oi => oi.dst != some t || waitsFor o i
      | none => true
    | none => true) &&
  (List.range tail.length).all (fun j => match tail[j]? with
    | some o => (List.range (init.length + j)).all fun i => waitsFor o i
    | none => true) &&
  (List.range (init ++ tail).length).all (fun j => match (init ++ tail)[j]? with
    | some o => o.after.all fun e => !Region.binds .any e || decide (e.on < j)
    | none => true)

structure RelForm (init tail : List Oper) (nt : Nat) : Prop where
  sel : ∀ (j : Nat) (o : Oper) cs b, (init ++ tail).toArray[j]? = some o → o.op ≠ .select cs b
  nodup : (dstsOf init).Nodup
  small : ∀ d ∈ dstsOf init, d < nt
  look : ∀ (j : Nat) (o : Oper), init[j]? = some o → ∀ t ∈ o.looksAt (init ++ tail).toArray, ∀ (i : Nat) (oi : Oper), init[i]? = some oi → oi.dst = some t → ∃ e ∈ o.after, Region.binds .any e = true ∧ e.on = i
  wait : ∀ (j : Nat) (o : Oper), tail[j]? = some o → ∀ i : Nat, i < init.length + j → ∃ e ∈ o.after, Region.binds .any e = true ∧ e.on = i
  back : ∀ (j : Nat) (o : Oper), (init ++ tail)[j]? = some o → ∀ e ∈ o.after, Region.binds .any e = true → e.on < j

theorem waitsFor_spec {o : Oper} {i : Nat} (h : waitsFor o i = true) : ∃ e ∈ o.after, Region.binds .any e = true ∧ e.on = i := by
  unfold waitsFor at h
  obtain ⟨e, he, h⟩ := Array.any_eq_true'.1 h
  simp only [Bool.and_eq_true, beq_iff_eq] at h
  exact ⟨e, he, h.1, h.2⟩
theorem relB_form {init tail : List Oper} {nt : Nat} (h : relB init tail nt = true) : RelForm init tail nt := by
  unfold relB at h
  simp only [Bool.and_eq_true, decide_eq_true_eq] at h
  obtain ⟨⟨⟨⟨⟨h1, h2⟩, h3⟩, h4⟩, h5⟩, h6⟩ := h
  refine ⟨fun j o cs b hj => Region.noSelect_spec h1 j o cs b hj, h2, fun d hd => ?_, fun j o hj t ht i oi hi hd => ?_, fun j o hj i hi => ?_, fun j o hj e he hb => ?_⟩
  · have := List.all_eq_true.1 h3 d hd
    simpa using this
  · have hjl : j < init.length := (List.getElem?_eq_some_iff.1 hj).1
    have hil : i < init.length := (List.getElem?_eq_some_iff.1 hi).1
    have a := List.all_eq_true.1 h4 j (List.mem_range.2 hjl)
    rw [hj] at a
    have b := List.all_eq_true.1 (List.all_eq_true.1 a t ht) i (List.mem_range.2 hil)
    rw [hi] at b
    simp only [hd, bne_self_eq_false, Bool.false_or] at b
    exact waitsFor_spec b
  · have hjl : j < tail.length := (List.getElem?_eq_some_iff.1 hj).1
    have a := List.all_eq_true.1 h5 j (List.mem_range.2 hjl)
    rw [hj] at a
    exact waitsFor_spec (List.all_eq_true.1 a i (List.mem_range.2 hi))
  · have hjl : j < (init ++ tail).length := (List.getElem?_eq_some_iff.1 hj).1
    have a := List.all_eq_true.1 h6 j (List.mem_range.2 hjl)
    rw [hj] at a
    have b := Array.all_eq_true'.1 a e he
    simpa [hb] using b

/-- How many operations have not come up yet. -/
def unl (listed : Array Bool) : Nat := listed.toList.count false
theorem unl_set {listed : Array Bool} {i : Nat} (h : listed.getD i true = false) : unl (listed.setIfInBounds i true) + 1 = unl listed := by
  have hlt : i < listed.size := by
    rcases Nat.lt_or_ge i listed.size with h' | h'
    · exact h'
    · simp [Array.getElem?_eq_none h'] at h
  have hi : listed.toList[i]'(by simpa using hlt) = false := by
    have : listed.getD i true = listed[i] := by simp [hlt]
    rw [this] at h
    simpa using h
  unfold unl
  rw [Array.toList_setIfInBounds, List.count_set (by simpa using hlt)]
  have hp : 0 < listed.toList.count false := List.count_pos_iff.2 (by rw [← hi]; exact List.getElem_mem _)
  rw [hi]
  have hp' : 0 < Array.count false listed := by simpa using hp
  simp
  omega
theorem unl_zero {listed : Array Bool} (h : unl listed = 0) (i : Nat) (hi : i < listed.size) : listed.getD i true = true := by
  unfold unl at h
  rw [List.count_eq_zero] at h
  have : listed.getD i true = listed[i] := by simp [hi]
  rw [this]
  cases hv : listed[i] with
  | true => rfl
  | false => exact absurd (by rw [← hv]; exact Array.getElem_mem_toList hi) h

variable {init tail : List Oper} {Q : Exit → Act → World → Prop}
theorem app_right (t : Nat) : (init ++ tail).toArray[init.length + t]? = tail[t]? := by
  rw [List.getElem?_toArray, List.getElem?_append_right (by omega), show init.length + t - init.length = t by omega]
theorem app_left (i : Nat) (h : i < init.length) : (init ++ tail).toArray[i]? = init[i]? := by
  rw [List.getElem?_toArray, List.getElem?_append_left h]
theorem getD_bool (listed : Array Bool) (i : Nat) (hi : i < listed.size) (b c : Bool) : listed.getD i b = listed.getD i c := by simp [hi]
/-- The last part, walked as it stands. -/
theorem rel_tail {nt : Nat} (F : RelForm init tail nt) : ∀ (rest : List Oper) (t fuel : Nat) (listed : Array Bool) (a : Act) (w : World), tail.drop t = rest → t + rest.length = tail.length →
    listed.size = (init ++ tail).length → (∀ i, i < (init ++ tail).length → listed.getD i true = decide (i < init.length + t)) → rest.length ≤ fuel → wpList P (init ++ tail).toArray Q rest a w →
    wpAny P .any (init ++ tail).toArray Q fuel listed a w
  | [], t, fuel, listed, a, w, _, hl, hs, hlist, _, h => by
    have hr : Region.ready .any (init ++ tail).toArray listed = [] := by
      rw [List.eq_nil_iff_forall_not_mem]
      intro j hj
      obtain ⟨h0, o, ho, _⟩ := mem_ready.1 hj
      have hj2 : j < (init ++ tail).length := by
        have := (Array.getElem?_eq_some_iff.1 ho).1
        simpa using this
      rw [hlist j hj2] at h0
      simp at h0 hl hj2
      omega
    cases fuel with
    | zero => exact ⟨hr, h⟩
    | succ f => exact ⟨fun _ => h, fun i hi => by rw [hr] at hi; cases hi⟩
  | o :: rest, t, 0, _, _, _, _, _, _, _, hf, _ => by simp at hf
  | o :: rest, t, fuel + 1, listed, a, w, hd, hl, hs, hlist, hf, h => by
    have ht : t < tail.length := by simp at hl; omega
    have hto : tail[t]? = some o := by
      have := List.drop_eq_getElem_cons ht
      rw [hd] at this
      rw [List.getElem?_eq_getElem ht]
      injection this with h1 _
      rw [h1]
    have hop : (init ++ tail).toArray[init.length + t]? = some o := by rw [app_right, hto]
    have hlt : init.length + t < (init ++ tail).length := by simp; omega
    have hin : init.length + t ∈ Region.ready .any (init ++ tail).toArray listed := by
      rw [mem_ready]
      refine ⟨by rw [hlist _ hlt]; simp, o, hop, fun e he hb => ?_⟩
      have h1 := F.back (init.length + t) o (by simpa using hop) e he hb
      have h2 : e.on < (init ++ tail).length := by omega
      rw [getD_bool listed e.on (by omega) false true, hlist _ h2]
      simpa using h1
    refine ⟨fun h0 => (by rw [h0] at hin; cases hin), fun i hi => ?_⟩
    obtain ⟨h0, oi, hoi, hall⟩ := mem_ready.1 hi
    have hi2 : i < (init ++ tail).length := by
      have := (Array.getElem?_eq_some_iff.1 hoi).1
      simpa using this
    have hie : i = init.length + t := by
      rw [hlist i hi2] at h0
      have h0 : init.length + t ≤ i := by simpa using h0
      rcases Nat.lt_or_ge (init.length + t) i with hlt2 | hge
      · exfalso
        obtain ⟨j, rfl⟩ : ∃ j, i = init.length + j := ⟨i - init.length, by omega⟩
        have hoj : tail[j]? = some oi := by rw [← app_right (init := init)]; exact hoi
        obtain ⟨e, he, hb, hon⟩ := F.wait j oi hoj (init.length + t) (by omega)
        have := hall e he hb
        rw [hon, getD_bool listed _ (by omega) false true, hlist _ hlt] at this
        simp at this
      · omega
    subst hie
    rw [hop] at hoi
    injection hoi with hoi
    subst hoi
    have hnext : ∀ a w, wpList P (init ++ tail).toArray Q rest a w → wpAny P .any (init ++ tail).toArray Q fuel (listed.setIfInBounds (init.length + t) true) a w := fun a w hk =>
      rel_tail F rest (t + 1) fuel _ a w (by rw [← List.drop_drop, hd]; rfl) (by simp at hl; omega) (by simpa using hs) (fun i hi => by
        by_cases e : init.length + t = i
        · subst e; simp [hs]
        · rw [getD_set_ne true e, hlist i hi]; simp; omega) (by simpa using hf) hk
    unfold wpOp
    rw [hop]
    simp only [wpList] at h
    by_cases hw : Region.wanted o (yielded (init ++ tail).toArray a.tmps) = true
    · simp only [hw, if_true] at h ⊢
      exact h.imp (Oper.wp_mono hnext) id
    · simp only [hw] at h ⊢
      exact hnext _ _ h

/-- What holds while the first part's operations come up. -/
structure RelInv {R : Rl} (init tail : List Oper) (T : Facts R) (a0 : Act) (w0 : World) (listed : Array Bool) (a : Act) (w : World) : Prop where
  below : R.r w0 w
  defers : a.defers = a0.defers
  size : a.tmps.size = a0.tmps.size
  out : ∀ t : Nat, t ∉ dstsOf init → a.tmps[t]? = a0.tmps[t]?
  fact : ∀ (i : Nat) (o : Oper) (t : Nat), init[i]? = some o → o.dst = some t → listed.getD i false = true → factAt T t (a.tmps.getD t undef) w
  len : listed.size = (init ++ tail).length
  last : ∀ i, init.length ≤ i → i < (init ++ tail).length → listed.getD i true = false

theorem mem_dsts {l : List Oper} {i : Nat} {o : Oper} {t : Nat} (h : l[i]? = some o) (hd : o.dst = some t) : t ∈ dstsOf l := by
  unfold dstsOf
  rw [List.mem_filterMap]
  exact ⟨o, List.mem_of_getElem? h, hd⟩
theorem dsts_get {l : List Oper} {t : Nat} (h : t ∈ dstsOf l) : ∃ (i : Nat) (o : Oper), l[i]? = some o ∧ o.dst = some t := by
  unfold dstsOf at h
  rw [List.mem_filterMap] at h
  obtain ⟨o, ho, hd⟩ := h
  obtain ⟨i, hi⟩ := List.mem_iff_getElem?.1 ho
  exact ⟨i, o, hi, hd⟩
theorem dsts_inj : ∀ {l : List Oper} {i j : Nat} {o o' : Oper} {t : Nat}, (dstsOf l).Nodup → l[i]? = some o → l[j]? = some o' → o.dst = some t → o'.dst = some t → i = j
  | [], _, _, _, _, _, _, h, _, _, _ => by cases h
  | x :: l, 0, 0, _, _, _, _, _, _, _, _ => rfl
  | x :: l, 0, j + 1, o, o', t, hn, h1, h2, d1, d2 => by
    simp at h1; subst h1
    have : t ∈ dstsOf l := mem_dsts (i := j) (by simpa using h2) d2
    unfold dstsOf at hn
    rw [List.filterMap_cons, d1] at hn
    exact absurd this (List.nodup_cons.1 hn).1
  | x :: l, i + 1, 0, o, o', t, hn, h1, h2, d1, d2 => by
    simp at h2; subst h2
    have : t ∈ dstsOf l := mem_dsts (i := i) (by simpa using h1) d1
    unfold dstsOf at hn
    rw [List.filterMap_cons, d2] at hn
    exact absurd this (List.nodup_cons.1 hn).1
  | x :: l, i + 1, j + 1, o, o', t, hn, h1, h2, d1, d2 => by
    have hn' : (dstsOf l).Nodup := by
      unfold dstsOf at hn ⊢
      rw [List.filterMap_cons] at hn
      split at hn
      · exact hn
      · exact (List.nodup_cons.1 hn).2
    have := dsts_inj hn' (by simpa using h1) (by simpa using h2) d1 d2
    omega

/-- Each operation of the first part, wherever it comes up. -/
def StepOk {R : Rl} (P : Program) (ops : Array Oper) (ds : List Nat) (T : Facts R) (a0 : Act) (w0 : World) (l : List Oper) : Prop :=
  ∀ (i : Nat) (o : Oper), l[i]? = some o → (∀ cs b, o.op ≠ .select cs b) → ∀ w, R.r w0 w → ∀ a : Act, a.tmps.size = a0.tmps.size → (∀ t : Nat, t ∉ ds → a.tmps[t]? = a0.tmps[t]?) →
    (∀ t : Nat, t ∈ o.looksAt ops → t ∈ ds → factAt T t (a.tmps.getD t undef) w) → relStep P ops T o a w
theorem stepOk_see {l : List Oper} {a0 : Act} {w0 : World} (h : seeOps P ops ds T a0 w0 l) : StepOk P ops ds T a0 w0 l := fun _ _ hi _ w hb a _ hout hf =>
  seeOps_get h hi w hb a (fun t ht => by simp only [Array.getD_eq_getD_getElem?, hout t ht]) hf
theorem stepOk_rel {l : List Oper} {a0 : Act} {w0 : World} (h : relOps P ops ds T a0 w0 l) : StepOk P ops ds T a0 w0 l := fun i o hi hsel w hb a hsz hout hf => by
  obtain ⟨a'', k1, k2, _, k3, k4, _, _⟩ := ask_spec (a' := a) _ _ (relOps_get h hi w hb) hsz.symm hf
  exact relStep_congr hsel (fun t ht => by
    by_cases htd : t ∈ ds
    · exact k3 t ht htd
    · rw [k4 t htd, hout t htd]) k1

/-- One operation of the first part. -/
theorem rel_op {a0 : Act} {w0 : World} (F : RelForm init tail a0.tmps.size) (hops : StepOk P (init ++ tail).toArray (dstsOf init) T a0 w0 init) {listed : Array Bool} {a : Act} {w : World} {i : Nat} {o : Oper}
    (I : RelInv init tail T a0 w0 listed a w) (hi : init[i]? = some o) (hr : i ∈ Region.ready .any (init ++ tail).toArray listed) {K : Act → World → Prop}
    (hK : ∀ a' w', RelInv init tail T a0 w0 (listed.setIfInBounds i true) a' w' → K a' w') : wpOp P (init ++ tail).toArray Q i K a w := by
  have hil : i < init.length := (List.getElem?_eq_some_iff.1 hi).1
  have hop : (init ++ tail).toArray[i]? = some o := by rw [app_left i hil, hi]
  obtain ⟨h0, o', ho', hall⟩ := mem_ready.1 hr
  rw [hop] at ho'
  injection ho' with ho'
  subst ho'
  have hstep : relStep P (init ++ tail).toArray T o a w := hops i o hi (fun cs b => F.sel i o cs b hop) w I.below a I.size I.out fun t ht htd => by
    obtain ⟨j, oj, hj, hjd⟩ := dsts_get htd
    obtain ⟨e, he, hb, hon⟩ := F.look i o hi t ht j oj hj hjd
    have := hall e he hb
    rw [hon] at this
    exact I.fact j oj t hj hjd this
  have next : ∀ v w', R.r w w' → factTo T o.dst v w' → RelInv init tail T a0 w0 (listed.setIfInBounds i true) (a.put o.dst v) w' := fun v w' hb hf => by
    refine ⟨R.trans I.below hb, ?_, by rw [put_size]; exact I.size, fun t ht => ?_, fun j oj t hj hjd hl => ?_, by simpa using I.len, fun j hj hjl => ?_⟩
    · cases o.dst <;> exact I.defers
    · cases hd : o.dst with
      | none => exact I.out t ht
      | some d =>
        rw [put_get, if_neg (fun e => by subst e; exact ht (mem_dsts hi hd))]
        exact I.out t ht
    · by_cases hij : i = j
      · subst hij
        rw [hi] at hj
        injection hj with hj
        subst hj
        rw [hjd] at hf ⊢
        have hlt : t < a.tmps.size := by rw [I.size]; exact F.small t (mem_dsts hi hjd)
        have : (a.put (some t) v).tmps.getD t undef = v := by simp [Act.put, hlt]
        rw [this]
        exact hf
      · rw [getD_set_ne false hij] at hl
        have hold := factAt_mono hb (I.fact j oj t hj hjd hl)
        have hne : o.dst ≠ some t := fun e => hij (dsts_inj F.nodup hi hj e hjd)
        have : (a.put o.dst v).tmps.getD t undef = a.tmps.getD t undef := by
          cases hd : o.dst with
          | none => rfl
          | some d =>
            have hdt : d ≠ t := fun e => hne (by rw [hd, e])
            have h1 := put_get a d v t
            rw [if_neg hdt] at h1
            simp only [Array.getD_eq_getD_getElem?, h1]
        rw [this]
        exact hold
    · rw [getD_set_ne true (by omega)]
      exact I.last j hj hjl
  unfold wpOp
  rw [hop]
  unfold relStep at hstep
  by_cases hw : Region.wanted o (yielded (init ++ tail).toArray a.tmps) = true
  · simp only [hw, if_true] at hstep ⊢
    left
    unfold Oper.wp
    generalize (execOp a.eval o).run P w = r at hstep
    cases r with
    | halt x w' => simp [relUpon] at hstep
    | ok n w' =>
      cases n <;> simp only [relUpon] at hstep <;> simp only [Oper.upon]
      case value v => exact hK _ _ (next v w' hstep.1 hstep.2)
      case skip => exact hK _ _ (next undef w' hstep.1 hstep.2)
      case enter f args =>
        refine hstep.2.mono ?_
        rintro e w'' ⟨v, rfl, hb, hf⟩
        exact hK _ _ (next v w'' (R.trans hstep.1 hb) hf)
  · simp only [hw] at hstep ⊢
    exact hK _ _ (next undef w (R.refl _) hstep)

theorem first_open (listed : Array Bool) : ∀ n : Nat, (∀ i, i < n → listed.getD i true = true) ∨ ∃ i, i < n ∧ listed.getD i true = false ∧ ∀ j, j < i → listed.getD j true = true
  | 0 => .inl fun i hi => by omega
  | n + 1 => by
    rcases first_open listed n with h | ⟨i, hi, h1, h2⟩
    · cases hv : listed.getD n true with
      | true =>
        left
        intro i hi
        rcases Nat.lt_or_ge i n with h' | h'
        · exact h i h'
        · obtain rfl : i = n := by omega
          exact hv
      | false => exact .inr ⟨n, by omega, hv, h⟩
    · exact .inr ⟨i, by omega, h1, h2⟩
theorem unl_tail {a0 : Act} {w0 : World} {listed : Array Bool} {a : Act} {w : World} (I : RelInv init tail T a0 w0 listed a w) : tail.length ≤ unl listed := by
  have hlen := I.len
  have e : unl listed = (listed.toList.take init.length).count false + (listed.toList.drop init.length).count false := by
    unfold unl
    rw [← List.count_append, List.take_append_drop]
  have hd : (listed.toList.drop init.length).count false = (listed.toList.drop init.length).length := by
    rw [List.count_eq_length]
    intro b hb
    obtain ⟨j, hj⟩ := List.mem_iff_getElem?.1 hb
    rw [List.getElem?_drop] at hj
    have hlt : init.length + j < listed.size := by
      have := (List.getElem?_eq_some_iff.1 hj).1
      simpa using this
    have := I.last (init.length + j) (by omega) (by omega)
    have h2 : listed.getD (init.length + j) true = listed[init.length + j] := by simp [hlt]
    have h3 : listed.toList[init.length + j]? = some listed[init.length + j] := by simp [hlt]
    rw [h3] at hj
    injection hj with hj
    rw [← hj, ← h2, this]
  have h5 : (listed.toList.drop init.length).length = tail.length := by simp [hlen]
  omega
theorem rel_done {a0 : Act} {w0 : World} (F : RelForm init tail a0.tmps.size)
    (hQ : ∀ w', R.r w0 w' → relAsk (dstsOf init) T w' (fun a' => wpList P (init ++ tail).toArray Q tail a' w') (dstsOf init) a0)
    {fuel : Nat} {listed : Array Bool} {a : Act} {w : World} (I : RelInv init tail T a0 w0 listed a w) (hall : ∀ i, i < init.length → listed.getD i true = true) (hf : tail.length ≤ fuel) :
    wpAny P .any (init ++ tail).toArray Q fuel listed a w := by
  obtain ⟨a'', k1, k2, k2', k3, k4, _, _⟩ := ask_spec (a' := a) _ _ (hQ w I.below) I.size.symm fun t ht htd => by
    obtain ⟨j, oj, hj, hjd⟩ := dsts_get htd
    have hjl : j < init.length := (List.getElem?_eq_some_iff.1 hj).1
    exact I.fact j oj t hj hjd (by rw [getD_bool listed j (by rw [I.len]; simp; omega) false true]; exact hall j hjl)
  have hea : a'' = a := by
    have ht : a''.tmps = a.tmps := Array.ext_getElem? fun t => by
      by_cases htd : t ∈ dstsOf init
      · exact k3 t htd htd
      · rw [k4 t htd, I.out t htd]
    have hd : a''.defers = a.defers := by rw [k2', I.defers]
    cases a''; cases a
    simp only at ht hd
    rw [ht, hd]
  subst hea
  refine rel_tail F tail 0 fuel listed a'' w (by simp) (by simp) I.len (fun i hi => ?_) hf k1
  rcases Nat.lt_or_ge i init.length with h | h
  · rw [hall i h]; simp; omega
  · rw [I.last i h hi]; simp; omega
theorem rel_any {a0 : Act} {w0 : World} (F : RelForm init tail a0.tmps.size) (hops : StepOk P (init ++ tail).toArray (dstsOf init) T a0 w0 init)
    (hQ : ∀ w', R.r w0 w' → relAsk (dstsOf init) T w' (fun a' => wpList P (init ++ tail).toArray Q tail a' w') (dstsOf init) a0) :
    ∀ (fuel : Nat) (listed : Array Bool) (a : Act) (w : World), RelInv init tail T a0 w0 listed a w → unl listed ≤ fuel → wpAny P .any (init ++ tail).toArray Q fuel listed a w := by
  intro fuel
  induction fuel with
  | zero =>
    intro listed a w I hu
    exact rel_done F hQ I (fun i hi => unl_zero (by omega) i (by rw [I.len]; simp; omega)) (Nat.le_trans (unl_tail I) hu)
  | succ fuel ih =>
    intro listed a w I hu
    rcases first_open listed init.length with hall | ⟨i, hi, hopen, hmin⟩
    · exact rel_done F hQ I hall (Nat.le_trans (unl_tail I) hu)
    · have hii : init[i]? = some init[i] := List.getElem?_eq_getElem hi
      have hop : (init ++ tail).toArray[i]? = some init[i] := by rw [app_left i hi, hii]
      have hin : i ∈ Region.ready .any (init ++ tail).toArray listed := by
        rw [mem_ready]
        refine ⟨hopen, _, hop, fun e he hb => ?_⟩
        have h1 := F.back i init[i] (by rw [← List.getElem?_toArray]; exact hop) e he hb
        rw [getD_bool listed e.on (by rw [I.len]; simp; omega) false true]
        exact hmin _ h1
      refine ⟨fun h0 => (by rw [h0] at hin; cases hin), fun j hj => ?_⟩
      obtain ⟨h0, oj, hoj, hallj⟩ := mem_ready.1 hj
      rcases Nat.lt_or_ge j init.length with hjl | hjl
      · exact rel_op F hops I (List.getElem?_eq_getElem hjl) hj fun a' w' I' => ih _ _ _ I' (by have := unl_set h0; omega)
      · exfalso
        obtain ⟨m, rfl⟩ : ∃ m, j = init.length + m := ⟨j - init.length, by omega⟩
        have htm : tail[m]? = some oj := by rw [← app_right (init := init)]; exact hoj
        obtain ⟨e, he, hb, hon⟩ := F.wait m oj htm i (by omega)
        have := hallj e he hb
        rw [hon, getD_bool listed i (by rw [I.len]; simp; omega) false true, hopen] at this
        cases this

/-- A region that draws its order, by the facts of its slots. -/
theorem wp_region_rel {id : Nat} {a : Act} {w : World} {l : List Oper} (n : Nat) (T : Facts R) (hm : P.follows .mixedOrders = true) (hB : relB (l.take n) (l.drop n) a.tmps.size = true)
    (hops : relOps P l.toArray (dstsOf (l.take n)) T a w (l.take n))
    (hQ : ∀ w', R.r w w' → relAsk (dstsOf (l.take n)) T w' (fun a' => wpList P l.toArray Q (l.drop n) a' w') (dstsOf (l.take n)) a) :
    (Code.region id l.toArray true).wp P Q a w := by
  have F := relB_form hB
  have e : l.take n ++ l.drop n = l := List.take_append_drop n l
  refine wp_region_any hm ?_
  have key := rel_any (T := T) (w0 := w) F (by rw [e]; exact stepOk_rel hops) (by rw [e]; exact hQ) l.toArray.size (Array.replicate l.toArray.size false) a { w with drawn := w.drawn + 1 }
    ⟨R.drew _, rfl, rfl, fun _ _ => rfl, fun i o t _ _ h => by
      exfalso
      rw [Array.getD_eq_getD_getElem?, Array.getElem?_replicate] at h
      split at h <;> simp at h, by rw [e]; simp, fun i _ hi => by rw [e] at hi; simp [hi]⟩
    (by unfold unl; simp)
  rw [e] at key
  exact key
/-- The same, with the slots written laid out, and each operation asked in the frame as it comes. -/
theorem wp_region_see {id : Nat} {a : Act} {w : World} {l : List Oper} (n : Nat) (ds : List Nat) (T : Facts R) (hm : P.follows .mixedOrders = true) (hB : relB (l.take n) (l.drop n) a.tmps.size = true) (hd : dstsOf (l.take n) = ds)
    (hops : seeOps P l.toArray ds T a w (l.take n))
    (hQ : ∀ w', R.r w w' → relAsk ds T w' (fun a' => wpList P l.toArray Q (l.drop n) a' w') ds a) :
    (Code.region id l.toArray true).wp P Q a w := by
  subst hd
  have F := relB_form hB
  have e : l.take n ++ l.drop n = l := List.take_append_drop n l
  refine wp_region_any hm ?_
  have key := rel_any (T := T) (w0 := w) F (by rw [e]; exact stepOk_see hops) (by rw [e]; exact hQ) l.toArray.size (Array.replicate l.toArray.size false) a { w with drawn := w.drawn + 1 }
    ⟨R.drew _, rfl, rfl, fun _ _ => rfl, fun i o t _ _ h => by
      exfalso
      rw [Array.getD_eq_getD_getElem?, Array.getElem?_replicate] at h
      split at h <;> simp at h, by rw [e]; simp, fun i _ hi => by rw [e] at hi; simp [hi]⟩
    (by unfold unl; simp)
  rw [e] at key
  exact key
theorem seeOps_nil {a0 : Act} {w0 : World} : seeOps P ops ds T a0 w0 [] := trivial
theorem seeOps_cons {a0 : Act} {w0 : World} {o : Oper} {r : List Oper}
    (h : ∀ w, R.r w0 w → ∀ a : Act, (∀ t : Nat, t ∉ ds → a.tmps.getD t undef = a0.tmps.getD t undef) → (∀ t : Nat, t ∈ o.looksAt ops → t ∈ ds → factAt T t (a.tmps.getD t undef) w) → relStep P ops T o a w)
    (k : seeOps P ops ds T a0 w0 r) : seeOps P ops ds T a0 w0 (o :: r) := ⟨h, k⟩
theorem wanted_none {o : Oper} {a : Act} (h : o.guard = none) : Region.wanted o (yielded ops a.tmps) = true := by
  unfold Region.wanted; rw [h]
theorem wanted_some {o : Oper} {a : Act} {g t : Nat} {b : Bool} (h : o.guard = some (g, b)) (hg : (ops[g]?).bind (·.dst) = some t) (hv : a.tmps.getD t undef = .bool b) : Region.wanted o (yielded ops a.tmps) = true := by
  unfold Region.wanted
  rw [h]
  have : a.tmps[t]? = some (.bool b) := by
    rw [Array.getD_eq_getD_getElem?] at hv
    cases hx : a.tmps[t]? with
    | none => rw [hx] at hv; simp [undef] at hv
    | some v => rw [hx] at hv; simp at hv; rw [hv]
  simp [yielded, hg, this]
end
section
variable {R : Rl} {P : Program} {ops : Array Oper} {T : Facts R} {ds : List Nat}
theorem relOps_nil {a0 : Act} {w0 : World} : relOps P ops ds T a0 w0 [] := trivial
theorem relOps_cons {a0 : Act} {w0 : World} {o : Oper} {r : List Oper} (h : ∀ w, R.r w0 w → relAsk ds T w (fun a => relStep P ops T o a w) (o.looksAt ops) a0) (k : relOps P ops ds T a0 w0 r) : relOps P ops ds T a0 w0 (o :: r) := ⟨h, k⟩
theorem relAsk_nil {w : World} {K : Act → Prop} {a : Act} (h : K a) : relAsk ds T w K [] a := h
theorem relAsk_in {w : World} {K : Act → Prop} {a : Act} {t : Nat} {r : List Nat} (hc : ds.contains t = true) (h : ∀ v, factAt T t v w → relAsk ds T w K r (a.put (some t) v)) : relAsk ds T w K (t :: r) a := by
  unfold relAsk; rw [if_pos hc]; exact h
theorem relAsk_out {w : World} {K : Act → Prop} {a : Act} {t : Nat} {r : List Nat} (hc : ds.contains t = false) (h : relAsk ds T w K r a) : relAsk ds T w K (t :: r) a := by
  unfold relAsk; rw [if_neg (by rw [hc]; decide)]; exact h
theorem relStep_go {o : Oper} {a : Act} {w : World} (hw : Region.wanted o (yielded ops a.tmps) = true) (h : relUpon P T o.dst w ((execOp a.eval o).run P w)) : relStep P ops T o a w := by
  unfold relStep; rw [if_pos hw]; exact h
theorem relStep_skip {o : Oper} {a : Act} {w : World} (hw : Region.wanted o (yielded ops a.tmps) = false) (h : factTo T o.dst undef w) : relStep P ops T o a w := by
  unfold relStep; rw [if_neg (by rw [hw]; decide)]; exact h
theorem rel_val {d : Option Nat} {v : Value} {w : World} (h : factTo T d v w) : relUpon P T d w (.ok (.value v) w) := ⟨R.refl _, h⟩
end

/-- Block g holds n numbers. -/
def Shp (w : World) (g : Nat) (t : TypeId) (n : Nat) : Prop := ∃ xs : List Nat, xs.length = n ∧ Arr w g t xs
/-- Below block B nothing has turned, and blocks of numbers from B on are such still. -/
def Kept (B : Nat) : Rl := ⟨fun w w' => Below B w w' ∧ ∀ g t n, Shp w g t n → Shp w' g t n, fun _ => ⟨Below.refl _ _, fun _ _ _ h => h⟩, fun h k => ⟨h.1.trans k.1, fun g t n x => k.2 g t n (h.2 g t n x)⟩, fun _ => ⟨⟨rfl, rfl, rfl, Nat.le_refl _, fun _ _ => rfl⟩, fun _ _ _ h => h⟩⟩
section
variable {B : Nat} {w w' : World}
theorem Shp.lt {g : Nat} {t : TypeId} {n : Nat} (h : Shp w g t n) : g < w.heap.size := by obtain ⟨xs, _, k⟩ := h; exact k.lt
theorem kept_below (hB : B ≤ w.heap.size) (h : Below w.heap.size w w') : (Kept B).r w w' := ⟨h.mono hB, fun _ _ _ ⟨xs, hl, k⟩ => ⟨xs, hl, k.below h k.lt⟩⟩
theorem kept_alloc (hB : B ≤ w.heap.size) (o : Obj) : (Kept B).r w (w.alloc o) := kept_below hB ((Below.refl _ _).alloc (Nat.le_refl _) o)
theorem kept_set {f : Nat} {t : TypeId} {n k v : Nat} (hf : B ≤ f) (hs : Shp w f t n) : (Kept B).r w (w.setCell ⟨f, k, none⟩ (.int .u64 (v : Int))) := ⟨(Below.refl _ _).setCell (p := ⟨f, k, none⟩) hf _, fun g t' n' ⟨xs, hl, h⟩ => by
  by_cases e : g = f
  · subst e
    exact ⟨xs.set k v, by simpa using hl, h.set k v⟩
  · exact ⟨xs, hl, h.far e _⟩⟩
theorem kept_put4 {f : Nat} {t : TypeId} {n a b c d : Nat} (hf : B ≤ f) (hs : Shp w f t n) : (Kept B).r w ((((w.setCell ⟨f, 0, none⟩ (.int .u64 (a : Int))).setCell ⟨f, 1, none⟩ (.int .u64 (b : Int))).setCell ⟨f, 2, none⟩ (.int .u64 (c : Int))).setCell ⟨f, 3, none⟩ (.int .u64 (d : Int))) := by
  have h0 := kept_set (k := 0) (v := a) hf hs
  have h1 := kept_set (k := 1) (v := b) hf (h0.2 _ _ _ hs)
  have k1 := (Kept B).trans h0 h1
  have h2 := kept_set (k := 2) (v := c) hf (k1.2 _ _ _ hs)
  have k2 := (Kept B).trans k1 h2
  exact (Kept B).trans k2 (kept_set (k := 3) (v := d) hf (k2.2 _ _ _ hs))
end
def Fact.is {R : Rl} (c : Value) : Fact R := ⟨fun v _ => v = c, fun _ _ _ _ h => h⟩
/-- A pointer to a block of n numbers, from block B on. -/
def Pnt (w : World) (v : Value) (B : Nat) (t : TypeId) (n : Nat) : Prop := ∃ g, v = .pointer (some ⟨g, 0, none⟩) ∧ B ≤ g ∧ Shp w g t n
def Fact.pnt (B : Nat) (t : TypeId) (n : Nat) : Fact (Kept B) := ⟨fun v w => Pnt w v B t n, fun _ _ _ hb ⟨g, e, h, k⟩ => ⟨g, e, h, hb.2 _ _ _ k⟩⟩
end Go.Proofs.YtopeahjdglkheaaDoor.RK
