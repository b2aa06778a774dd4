/- Regions that keep their order, asked as those that draw it: each operation once, by the facts of the slots that it looks at. -/
import Derived.Test.YtopeahjdglkheaaDoorRel
import Derived.Test.YtopeahjdglkheaaDoorFacts
namespace Go.Proofs.YtopeahjdglkheaaDoor
open Go.RowKit

def seqB (ops : Array Oper) (init : List Oper) (nt : Nat) : Bool :=
  decide (dstsOf init).Nodup && (dstsOf init).all (fun d => decide (d < nt)) &&
  (List.range init.length).all (fun j => match init[j]? with
    | some o => (o.looksAt ops).all fun t => !(dstsOf init).contains t || (dstsOf (init.take j)).contains t
    | none => true)

theorem seq_go {P : Program} {ops : Array Oper} {T : Facts} {Q : Exit → Act → World → Prop} {init tail : List Oper} {a0 : Act} {w0 : World} (hB : seqB ops init a0.tmps.size = true) (hops : seeOps P ops (dstsOf init) T a0 w0 init)
    (hQ : ∀ w', Below w0.heap.size w0 w' → relAsk (dstsOf init) T w' (fun a' => wpList P ops Q tail a' w') (dstsOf init) a0) :
    ∀ (rest : List Oper) (k : Nat) (a : Act) (w : World), init.drop k = rest → Below w0.heap.size w0 w → a.defers = a0.defers → a.tmps.size = a0.tmps.size → (∀ t : Nat, t ∉ dstsOf init → a.tmps[t]? = a0.tmps[t]?) →
      (∀ (i : Nat) (o : Oper) (t : Nat), i < k → init[i]? = some o → o.dst = some t → factAt T t (a.tmps.getD t undef) w) → wpList P ops Q (rest ++ tail) a w := by
  unfold seqB at hB
  simp only [Bool.and_eq_true, decide_eq_true_eq, List.all_eq_true] at hB
  obtain ⟨⟨hnd, hsm⟩, hlk⟩ := hB
  intro rest
  induction rest with
  | nil =>
    intro k a w hk hb hd hs ho hf
    have hkl : init.length ≤ k := by simpa using hk
    obtain ⟨a'', k1, k2, k2', k3, k4, _, _⟩ := ask_spec (a' := a) _ _ (hQ w hb) hs.symm fun t ht htd => by
      obtain ⟨j, oj, hj, hjd⟩ := dsts_get htd
      have hjl : j < init.length := (List.getElem?_eq_some_iff.1 hj).1
      exact hf j oj t (by omega) hj hjd
    have hea : a'' = a := by
      have ht : a''.tmps = a.tmps := Array.ext_getElem? fun t => by
        by_cases htd : t ∈ dstsOf init
        · exact k3 t htd htd
        · rw [k4 t htd, ho t htd]
      have hd : a''.defers = a.defers := by rw [k2', hd]
      cases a''; cases a
      simp only at ht hd
      rw [ht, hd]
    subst hea
    simpa using k1
  | cons o rest ih =>
    intro k a w hk hb hd hs ho hf
    have hkl : k < init.length := by
      rcases Nat.lt_or_ge k init.length with h | h
      · exact h
      · rw [List.drop_eq_nil_of_le h] at hk; cases hk
    have hko : init[k]? = some o := by
      have := List.drop_eq_getElem_cons hkl
      rw [hk] at this
      injection this with h1 h2
      rw [List.getElem?_eq_getElem hkl, ← h1]
    have hkr : init.drop (k + 1) = rest := by
      have := List.drop_eq_getElem_cons hkl
      rw [hk] at this
      injection this with h1 h2
      exact h2.symm
    have hstep : relStep P ops T o a w := seeOps_get hops hko w hb a (fun t ht => by simp only [Array.getD_eq_getD_getElem?, ho t ht]) fun t ht htd => by
      have h1 := hlk k (List.mem_range.2 hkl)
      rw [hko] at h1
      simp only [List.all_eq_true] at h1
      have h2 := h1 t ht
      have h3 : (dstsOf (init.take k)).contains t = true := by
        rcases Bool.or_eq_true_iff.1 h2 with h | h
        · rw [Bool.not_eq_true'] at h
          have : (dstsOf init).contains t = true := by simpa using htd
          rw [this] at h; cases h
        · exact h
      obtain ⟨j, oj, hj, hjd⟩ := dsts_get (show t ∈ dstsOf (init.take k) by simpa using h3)
      have hjk : j < k := by
        have := (List.getElem?_eq_some_iff.1 hj).1
        rw [List.length_take] at this; omega
      rw [List.getElem?_take_of_lt hjk] at hj
      exact hf j oj t hjk hj hjd
    have next : ∀ v w', Below w.heap.size w w' → factTo T o.dst v w' → wpList P ops Q (rest ++ tail) (a.put o.dst v) w' := fun v w' hb' hf' => by
      refine ih (k + 1) _ w' hkr (hb.trans (hb'.mono hb.size)) ?_ (by rw [put_size]; exact hs) (fun t ht => ?_) fun j oj t hj hjo hjd => ?_
      · cases o.dst <;> exact hd
      · cases hd : o.dst with
        | none => exact ho t ht
        | some d =>
          rw [put_get, if_neg (fun e => by subst e; exact ht (mem_dsts hko hd))]
          exact ho t ht
      · by_cases hij : j = k
        · subst hij
          rw [hko] at hjo
          injection hjo with hjo
          subst hjo
          rw [hjd] at hf' ⊢
          have hlt : t < a.tmps.size := by rw [hs]; exact hsm t (mem_dsts hko hjd)
          have : (a.put (some t) v).tmps.getD t undef = v := by simp [Act.put, hlt]
          rw [this]
          exact hf'
        · have hold := factAt_mono hb' (hf j oj t (by omega) hjo hjd)
          have hne : o.dst ≠ some t := fun e => hij (dsts_inj hnd hjo hko hjd e)
          have : (a.put o.dst v).tmps.getD t undef = a.tmps.getD t undef := by
            cases hd : o.dst with
            | none => rfl
            | some d =>
              have hdt : d ≠ t := fun e => hne (by rw [hd, e])
              have h1 := put_get a d v t
              rw [if_neg hdt] at h1
              simp only [Array.getD_eq_getD_getElem?, h1]
          rw [this]
          exact hold
    refine wpList_step fun K hK => ?_
    unfold relStep at hstep
    by_cases hw : Region.wanted o (yielded ops a.tmps) = true
    · simp only [hw, if_true] at hstep ⊢
      unfold Oper.wp
      generalize (execOp a.eval o).run P w = r at hstep
      cases r with
      | halt x w' => simp [relUpon] at hstep
      | ok n w' =>
        cases n <;> simp only [relUpon] at hstep <;> simp only [Oper.upon]
        case value v => exact hK _ _ (next v w' hstep.1 hstep.2)
        case skip => exact hK _ _ (next undef w' hstep.1 hstep.2)
        case enter f args =>
          refine hstep.2.mono ?_
          rintro e w'' ⟨v, rfl, hb, hf⟩
          exact hK _ _ (next v w'' (hstep.1.trans (hb.mono hstep.1.size)) hf)
    · simp only [hw] at hstep ⊢
      exact hK _ _ (next undef w (Below.refl _ _) hstep)

theorem wp_region_seq {P : Program} {Q : Exit → Act → World → Prop} {id : Nat} {a : Act} {w : World} {l : List Oper} (n : Nat) (ds : List Nat) (T : Facts) (hB : seqB l.toArray (l.take n) a.tmps.size = true) (hd : dstsOf (l.take n) = ds)
    (hops : seeOps P l.toArray ds T a w (l.take n))
    (hQ : ∀ w', Below w.heap.size w w' → relAsk ds T w' (fun a' => wpList P l.toArray Q (l.drop n) a' w') ds a) :
    (Code.region id l.toArray false).wp P Q a w := by
  subst hd
  refine wp_region_lit ?_
  have h := seq_go (tail := l.drop n) hB hops hQ (l.take n) 0 a w (by simp) (Below.refl _ _) rfl rfl (fun _ _ => rfl) (fun i o t hi => by omega)
  rwa [List.take_append_drop] at h
end Go.Proofs.YtopeahjdglkheaaDoor
