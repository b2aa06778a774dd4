/- How long an item's form is: package rlp's measure. -/
import Derived.Test.YtgjiealcjaojaaaRlSize
import Derived.OneCell
namespace Go.Proofs.Ytgjiealcjaojaaa
open Go.RowKit

mutual
/-- How long an item's form is; how long forms are, one behind the other. -/
def fsz : Itm → Nat
  | .mk l bs xs => if l = true then hsz (psz xs) + psz xs else tsz bs
def psz : List Itm → Nat
  | [] => 0
  | x :: xs => fsz x + psz xs
end
mutual
/-- No more than so many lists in one another. -/
def okN : Itm → Nat → Bool
  | .mk l _ xs, n => if l = true then (match n with | 0 => false | n + 1 => okL xs n) else true
def okL : List Itm → Nat → Bool
  | [], _ => true
  | x :: xs, n => okN x n && okL xs n
end
mutual
/-- The lengths of the payloads of an item's lists, as they are met. -/
def plan : Itm → List Nat
  | .mk l _ xs => if l = true then psz xs :: planL xs else []
def planL : List Itm → List Nat
  | [] => []
  | x :: xs => plan x ++ planL xs
end
theorem psz_take {xs : List Itm} : ∀ {i : Nat} {x : Itm}, xs[i]? = some x → psz (xs.take (i + 1)) = psz (xs.take i) + fsz x := by
  induction xs with
  | nil => intro i x h; simp at h
  | cons y ys ih =>
    intro i x h
    cases i with
    | zero => simp at h; subst h; simp [psz]
    | succ i => simp at h; simp only [List.take_succ_cons, psz, ih h]; omega
theorem planL_take {xs : List Itm} : ∀ {i : Nat} {x : Itm}, xs[i]? = some x → planL (xs.take (i + 1)) = planL (xs.take i) ++ plan x := by
  induction xs with
  | nil => intro i x h; simp at h
  | cons y ys ih =>
    intro i x h
    cases i with
    | zero => simp at h; subst h; simp [planL]
    | succ i => simp at h; simp only [List.take_succ_cons, planL, ih h, List.append_assoc]
theorem okL_take {n : Nat} {xs : List Itm} : ∀ {i : Nat} {x : Itm}, xs[i]? = some x → okL (xs.take (i + 1)) n = (okL (xs.take i) n && okN x n) := by
  induction xs with
  | nil => intro i x h; simp at h
  | cons y ys ih =>
    intro i x h
    cases i with
    | zero => simp at h; subst h; simp [okL]
    | succ i => simp at h; simp only [List.take_succ_cons, okL, ih h, Bool.and_assoc]
theorem okL_bad {n : Nat} {xs : List Itm} : ∀ {i : Nat} {x : Itm}, xs[i]? = some x → okN x n = false → okL xs n = false := by
  induction xs with
  | nil => intro i x h; simp at h
  | cons y ys ih =>
    intro i x h hb
    cases i with
    | zero => simp at h; subst h; simp [okL, hb]
    | succ i => simp at h; simp [okL, ih h hb]
theorem psz_le {xs : List Itm} : ∀ (i : Nat), psz (xs.take i) ≤ psz xs := by
  induction xs with
  | nil => intro i; simp
  | cons y ys ih =>
    intro i
    cases i with
    | zero => simp [psz]
    | succ i => simp only [List.take_succ_cons, psz]; have := ih i; omega
theorem fsz_le {xs : List Itm} : ∀ {i : Nat} {x : Itm}, xs[i]? = some x → fsz x ≤ psz xs := by
  induction xs with
  | nil => intro i x h; simp at h
  | cons y ys ih =>
    intro i x h
    cases i with
    | zero => simp at h; subst h; simp [psz]
    | succ i => simp at h; have := ih h; simp only [psz]; omega
theorem plan_le {xs : List Itm} : ∀ {i : Nat} {x : Itm}, xs[i]? = some x → (planL (xs.take i)).length + (plan x).length ≤ (planL xs).length := by
  intro i x h
  have e : planL xs = planL (xs.take (i + 1)) ++ planL (xs.drop (i + 1)) := by
    clear h
    induction xs generalizing i with
    | nil => simp [planL]
    | cons y ys ih =>
      cases i with
      | zero => simp [planL]
      | succ i => simp only [List.take_succ_cons, List.drop_succ_cons, planL, List.append_assoc]; rw [← ih]
  rw [e, planL_take h]
  simp only [List.length_append]; omega
theorem Itm.ind {P : Itm → Prop} (h : ∀ l bs xs, (∀ (j : Nat) (x : Itm), xs[j]? = some x → P x) → P (.mk l bs xs)) : ∀ x, P x
  | .mk l bs xs => h l bs xs fun j x _hj => Itm.ind h x
decreasing_by
  have h1 : x ∈ xs := List.mem_of_getElem? _hj
  have h2 := List.sizeOf_lt_of_mem h1
  simp only [Itm.mk.sizeOf_spec]; omega

theorem hsz_pos (n : Nat) : 1 ≤ hsz n := by unfold hsz; split <;> omega
theorem fsz_pos (x : Itm) : 1 ≤ fsz x := by
  cases x with
  | mk l bs xs =>
    rw [fsz]
    split
    · have := hsz_pos (psz xs); omega
    · unfold tsz
      split
      · omega
      · have := hsz_pos bs.length; omega
theorem psz_len : ∀ xs : List Itm, xs.length ≤ psz xs
  | [] => by simp
  | x :: xs => by simp only [List.length_cons, psz]; have := fsz_pos x; have := psz_len xs; omega
/-- A plan in memory: its block, the slice of lengths that it owns. -/
structure PlanAt (w : World) (P base : Nat) (v : Value) (ns : List Nat) (k : Nat) : Prop where
  cell : w.heap[P]? = some (.cells #[v, .int .i64 (k : Int)] 104 (0, 0))
  row : w.ownsRow base 3 1 v ns.length (ns.map fun n : Nat => Value.int .i64 (n : Int))
/-- What a call that has a plan leaves. -/
structure Mz (P : Nat) (w w' : World) (v v' : Value) : Prop where
  os : w'.os = w.os
  tape : w'.tape = w.tape
  output : w'.output = w.output
  size : w.heap.size ≤ w'.heap.size
  block : ∀ k, k < w.heap.size → k ≠ P → some k ≠ v.ownBlock → w'.heap[k]? = w.heap[k]?
  own : v'.ownBlock = v.ownBlock ∨ ∃ g, v'.ownBlock = some g ∧ w.heap.size ≤ g
theorem Mz.refl (P : Nat) (w : World) (v : Value) : Mz P w w v v := ⟨rfl, rfl, rfl, Nat.le_refl _, fun _ _ _ _ => rfl, .inl rfl⟩
theorem Mz.trans {P : Nat} {w1 w2 w3 : World} {v1 v2 v3 : Value} (h : Mz P w1 w2 v1 v2) (k : Mz P w2 w3 v2 v3) : Mz P w1 w3 v1 v3 := by
  refine ⟨k.os.trans h.os, k.tape.trans h.tape, k.output.trans h.output, Nat.le_trans h.size k.size, fun b hb hP hv => (k.block b (Nat.lt_of_lt_of_le hb h.size) hP ?_).trans (h.block b hb hP hv), ?_⟩
  · rcases h.own with e | ⟨g, e, hg⟩
    · rw [e]; exact hv
    · rw [e]; intro e2; injection e2 with e2; omega
  · rcases k.own with e | ⟨g, e, hg⟩
    · rcases h.own with e2 | ⟨g, e2, hg⟩
      · exact .inl (e.trans e2)
      · exact .inr ⟨g, e.trans e2, hg⟩
    · exact .inr ⟨g, e, Nat.le_trans h.size hg⟩
theorem Mz.of {P : Nat} {w w' : World} {v : Value} (h : Below w.heap.size w w') : Mz P w w' v v := ⟨h.os, h.tape, h.output, h.size, fun k hk _ _ => h.block k hk, .inl rfl⟩
theorem PlanAt.below {w w' : World} {P base k : Nat} {v : Value} {ns : List Nat} (h : PlanAt w P base v ns k) (hb : Below w.heap.size w w') : PlanAt w' P base v ns k := by
  refine ⟨(hb.block P (Array.getElem?_eq_some_iff.1 h.cell).1).trans h.cell, h.row.1, ?_⟩
  rcases h.row.2 with h1 | ⟨g, cap, cur, e, hg, hh, r1, r2, r3, r4⟩
  · exact .inl h1
  · exact .inr ⟨g, cap, cur, e, hg, (hb.block g (Array.getElem?_eq_some_iff.1 hh).1).trans hh, r1, r2, r3, r4⟩
theorem PlanAt.lt {w : World} {P base k : Nat} {v : Value} {ns : List Nat} (h : PlanAt w P base v ns k) : P < w.heap.size := (Array.getElem?_eq_some_iff.1 h.cell).1
theorem PlanAt.ne {w : World} {P base k : Nat} {v : Value} {ns : List Nat} (h : PlanAt w P base v ns k) : v.ownBlock ≠ some P := by
  intro e
  rcases h.row.2 with ⟨e1, _⟩ | ⟨g, cap, cur, e1, hg, hh, _⟩
  · rw [e1] at e; simp [Value.ownBlock] at e
  · rw [e1] at e
    simp [Value.ownBlock] at e
    subst e
    rw [h.cell] at hh
    injection hh with hh
    injection hh with _ hh _
    exact absurd hh (by decide)
theorem PlanAt.form {w : World} {P base k : Nat} {v : Value} {ns : List Nat} (h : PlanAt w P base v ns k) : ∃ A c, v = .slice A ns.length c := by
  rcases h.row.2 with ⟨e, h0⟩ | ⟨g, cap, cur, e, _⟩
  · exact ⟨none, 0, by rw [e, h0]⟩
  · exact ⟨_, _, e⟩
theorem PlanAt.some {w : World} {P base k : Nat} {v : Value} {ns : List Nat} (h : PlanAt w P base v ns k) (h0 : 0 < ns.length) : ∃ g c, v = .slice (some ⟨g, 0, none⟩) ns.length c := by
  rcases h.row.2 with ⟨e, h1⟩ | ⟨g, cap, cur, e, _⟩
  · omega
  · exact ⟨_, _, e⟩
/-- An item ahead of the plan stays as it is. -/
theorem IAt.mz {N0 P base k : Nat} {w w' : World} {v v' u : Value} {ns : List Nat} {x : Itm} (h : IAt (fun b => b < N0) w u x) (hp : PlanAt w P base v ns k) (hP : N0 ≤ P) (hb : N0 ≤ base) (hm : Mz P w w' v v') : IAt (fun b => b < N0) w' u x :=
  h.move hm.size (fun _ _ h => h) fun p hp2 hlt => World.cell?_of_block (w := w) (hm.block _ hlt (by omega) (fun e => by have := (hp.row.lt _ e.symm).1; omega))
theorem ta_items_text (v : Value) (w : World) : (Instr.typeAssert (.iface 131 v) 20 112 true).run Try.prog w = .ok (.tuple #[.slice none 0 0, .bool false]) w := by kernel_rfl
theorem ta_items (v : Value) (w : World) : (Instr.typeAssert (.iface 131 v) 20 131 false).run Try.prog w = .ok v w := by kernel_rfl

theorem two_cells2 {w : World} {g : Nat} {u v : Value} {t : TypeId} (h : w.heap[g]? = some (.cells #[u, v] t (0, 0))) : w.cell? ⟨g, 0, none⟩ = some u ∧ w.cell? ⟨g, 1, none⟩ = some v ∧ w.frozen? ⟨g, 0, none⟩ = false ∧ w.frozen? ⟨g, 1, none⟩ = false := by
  refine ⟨?_, ?_, ?_, ?_⟩
  · rw [cell_of_row _ _ _ _ t (0, 0) h]; rfl
  · rw [cell_of_row _ _ _ _ t (0, 0) h]; rfl
  · exact frozen_of_row _ _ _ _ t h
  · exact frozen_of_row _ _ _ _ t h
/-- What measure tells. -/
def MeasR (P base : Nat) (v : Value) (ns : List Nat) (k nest : Nat) (x : Itm) (w : World) (e : Ending) (w' : World) : Prop := ∃ v' ns', Mz P w w' v v' ∧ PlanAt w' P base v' ns' k ∧
  ((okN x nest = true ∧ ns' = ns ++ plan x ∧ e = .returned (.tuple #[.int .i64 (fsz x : Nat), .bool true])) ∨ (okN x nest = false ∧ e = .returned (.tuple #[.int .i64 0, .bool false])))

theorem infoInt : (Try.prog.info? 3).map (fun i => (i.zero, i.size, i.bytes)) = some (some (.int .i64 0), 1, 8) := by kernel_rfl
theorem info_int : ∃ i, Try.prog.info? 3 = some i ∧ i.zero = some (.int .i64 0) ∧ i.size = 1 ∧ i.bytes = 8 := by
  obtain ⟨i, hi, he⟩ := Option.map_eq_some_iff.1 infoInt
  injection he with h1 h2
  injection h2 with h2 h3
  exact ⟨i, hi, h1, h2, h3⟩
theorem one_new {w : World} {z : Value} {t : TypeId} : ∀ j u, ([z] : List Value)[j]? = some u → (w.alloc (.cells #[z] t)).cell? ((⟨w.heap.size, 0, none⟩ : Addr).add j) = some u := by
  intro j u hj
  have e : (⟨w.heap.size, 0, none⟩ : Addr).add j = ⟨w.heap.size, j, none⟩ := by unfold Addr.add; by_cases h : j = 0 <;> simp [h]
  rw [e, cell_of_row (w.alloc (.cells #[z] t)) w.heap.size j #[z] t (0, 0) (heap_alloc_new w _)]
  simpa using hj
theorem own_ne {w : World} {P base n : Nat} {v : Value} {us : List Value} {c : Array Value} (h : w.ownsRow base 3 1 v n us) (hP : w.heap[P]? = some (.cells c 104 (0, 0))) : v.ownBlock ≠ some P := by
  intro e
  rcases h.2 with ⟨e1, _⟩ | ⟨g, cap, cur, e1, hg, hh, _⟩
  · rw [e1] at e; simp [Value.ownBlock] at e
  · rw [e1] at e
    simp [Value.ownBlock] at e
    subst e
    rw [hP] at hh
    injection hh with hh
    injection hh with _ hh _
    exact absurd hh (by decide)
/-- A length more in the plan. -/
theorem plan_push {w w3 : World} {P base k : Nat} {v v' : Value} {ns : List Nat} {o : Obj} (hp : PlanAt w P base v ns k) (hown : w3.ownsRow base 3 1 v' (ns.length + 1) ((ns.map fun n : Nat => Value.int .i64 (n : Int)) ++ [.int .i64 0]))
    (hg : (w.alloc o).grownBy w3 v.ownBlock) (hat : v'.ownBlock = v.ownBlock ∨ v'.ownBlock = some (w.alloc o).heap.size) :
    w3.heap[P]? = some (.cells #[v, .int .i64 (k : Int)] 104 (0, 0)) ∧ Mz P w (w3.setCell ⟨P, 0, none⟩ v') v v' ∧ PlanAt (w3.setCell ⟨P, 0, none⟩ v') P base v' (ns ++ [0]) k := by
  have hlt := hp.lt
  have h3 : w3.heap[P]? = some (.cells #[v, .int .i64 (k : Int)] 104 (0, 0)) := (hg.block P (by simp; omega) (fun e => hp.ne e.symm)).trans ((Below.heap_alloc _ _ _ hlt).trans hp.cell)
  have hs : w.heap.size ≤ w3.heap.size := by have := hg.size; simp at this; omega
  refine ⟨h3, ⟨hg.os, hg.tape, hg.output, by simpa using hs, fun b hb hP hv => ?_, ?_⟩, ⟨?_, ?_⟩⟩
  · rw [Below.heap_setCell _ _ _ _ (by exact hP)]
    exact (hg.block b (by simp; omega) hv).trans (Below.heap_alloc _ _ _ hb)
  · rcases hat with e | e
    · exact .inl e
    · exact .inr ⟨_, e, by simp⟩
  · have := heap_setCell_same w3 P 0 _ _ v' h3
    simpa using this
  · have := ownsRow_setCell_other hown (a := ⟨P, 0, none⟩) (own_ne hown h3) v'
    simpa using this

/-- What measure is asked of an item. -/
def MeasC (x : Itm) : Prop := ∀ (P N0 base nest k : Nat) (w : World) (v vx : Value) (ns : List Nat), nest ≤ 1024 → N0 ≤ P → N0 ≤ base → base ≤ w.heap.size → IAt (fun b => b < N0) w vx x → PlanAt w P base v ns k → fsz x ≤ 1099511627776 →
  ns.length + (plan x).length ≤ 16777216 → Calls Try.prog 59 #[.pointer (some ⟨P, 0, none⟩), vx, .int .i64 nest] w (MeasR P base v ns k nest x w)

set_option maxRecDepth 100000 in
set_option maxHeartbeats 6400000 in
theorem measure_text (bs : List Nat) (xs : List Itm) : MeasC (.mk false bs xs) := by
  intro P N0 base nest k w v vx ns hn hP hN hb hx hp hs hl
  have hf : fsz (.mk false bs xs) = tsz bs := by simp [fsz]
  have hlen : bs.length ≤ 1099511627776 := by
    rw [hf] at hs
    unfold tsz at hs
    split at hs
    · rename_i h; have := (of_decide_eq_true h).1; omega
    · omega
  cases hx with
  | mk l A c B cap b off u bs xs hA hd hAb hB hc hcn hu hxx =>
    have hb1 : Below w.heap.size w (w.alloc (.cells #[.bool false, .slice A bs.length c, .slice B xs.length cap] 56)) := (Below.refl _ _).alloc (Nat.le_refl _) _
    have HB1 := Lib.hid hb1
    have HA := Lib.hid (hA.below hb1)
    have c1 := contents_c false A B bs.length c xs.length cap (w.alloc (.cells #[.bool false, .slice A bs.length c, .slice B xs.length cap] 56))
    have hg := heap_alloc_new w (.cells #[.bool false, .slice A bs.length c, .slice B xs.length cap] 56)
    obtain ⟨x0, x1, x2, -, -, -⟩ := three_cells hg
    have CT := Lib.hid (fun (w' : World) (h : Below w.heap.size w w') => textSize_c w' (hA.below h) hlen)
    have HR : Hid (∀ w', Below w.heap.size w w' → MeasR P base v ns k nest (.mk false bs xs) w (.returned (.tuple #[.int .i64 (tsz bs : Nat), .bool true])) w') := fun w' hb' =>
      ⟨v, ns, Mz.of hb', hp.below hb', .inl ⟨by simp [okN], by simp [plan], by rw [hf]⟩⟩
    have T1 := ta_text
    obtain ⟨L, hL⟩ : ∃ L, L = bs.length := ⟨_, rfl⟩
    obtain ⟨M, hM⟩ : ∃ M, M = xs.length := ⟨_, rfl⟩
    obtain ⟨T, hT⟩ : ∃ T, T = tsz bs := ⟨_, rfl⟩
    rw [← hL, ← hM] at c1 x1 x2 ⊢
    simp only [← hL, ← hT] at CT HR
    have C1 := Lib.hid c1
    have HS : Hid ((w.alloc (.cells #[.bool false, .slice A L c, .slice B M cap] 56)).heap.size = w.heap.size + 1) := by show _ = _; simp
    rw [← hL, ← hM] at HB1
    clear hb1 c1 hg hA hd hAb hB hc hcn hu hxx hp hs hl hf hlen hL hM hT HA hn hP hN hb
    go_enter Try.func59, Try.ntmps59
    go_wp2_with fail
    (with_reducible refine C1.out.mono ?_)
    rintro e w1 ⟨rfl, hb2⟩
    have HB2 := Lib.hid (HB1.out.trans (hb2.mono HB1.out.size))
    clear C1 hb2 HB1
    go_wp2_with fail
    (with_reducible refine (CT.out _ HB2.out).mono ?_)
    rintro e w2 ⟨rfl, rfl⟩
    clear CT
    go_wp2_with fail
    go_ret2
    exact HR.out _ HB2.out

set_option maxRecDepth 100000 in
set_option maxHeartbeats 6400000 in
theorem measure_list (bs : List Nat) (xs : List Itm) (ih : ∀ (j : Nat) (x : Itm), xs[j]? = some x → MeasC x) : MeasC (.mk true bs xs) := by
  intro P N0 base nest k w v vx ns hn hP hN hb hx hp hs hl
  have hf : fsz (.mk true bs xs) = hsz (psz xs) + psz xs := by simp [fsz]
  have hpl : plan (.mk true bs xs) = psz xs :: planL xs := by simp [plan]
  cases hx with
  | mk l A c B cap b off u bs xs hA hd hAb hB hc hcn hu hxx =>
    have hb1 : Below w.heap.size w (w.alloc (.cells #[.bool true, .slice A bs.length c, .slice B xs.length cap] 56)) := (Below.refl _ _).alloc (Nat.le_refl _) _
    have c1 := contents_c true A B bs.length c xs.length cap (w.alloc (.cells #[.bool true, .slice A bs.length c, .slice B xs.length cap] 56))
    have hg := heap_alloc_new w (.cells #[.bool true, .slice A bs.length c, .slice B xs.length cap] 56)
    obtain ⟨x0, x1, x2, -, -, -⟩ := three_cells hg
    have T1 := ta_items_text
    have T2 := ta_items
    have HBI := Lib.hid hB
    have HUI := Lib.hid hu
    have HXI := Lib.hid hxx
    have HCI := Lib.hid hc
    have HNI := Lib.hid hcn
    have HP := Lib.hid hp
    have HS := Lib.hid hs
    have HL := Lib.hid hl
    have HF := Lib.hid hf
    have HPL := Lib.hid hpl
    have HH : Hid (nest ≤ 1024 ∧ N0 ≤ P ∧ N0 ≤ base ∧ base ≤ w.heap.size) := ⟨hn, hP, hN, hb⟩
    have IH := Lib.hid ih
    obtain ⟨L, hL⟩ : ∃ L, L = bs.length := ⟨_, rfl⟩
    obtain ⟨M, hM⟩ : ∃ M, M = xs.length := ⟨_, rfl⟩
    rw [← hL, ← hM] at c1 x1 x2 hb1 ⊢
    have C1 := Lib.hid c1
    have HB1 := Lib.hid hb1
    have HM := Lib.hid hM
    clear hb1 c1 hg hA hd hAb hB hc hcn hu hxx hp hs hl hf hL hM hP hN hb ih hpl hn
    by_cases hn0 : nest = 0
    · have hn1 : ((nest : Int) == 0) = true := by simp; omega
      have HR : Hid (∀ w', Below w.heap.size w w' → MeasR P base v ns k nest (.mk true bs xs) w (.returned (.tuple #[.int .i64 0, .bool false])) w') := fun w' hb' =>
        ⟨v, ns, Mz.of hb', HP.out.below hb', .inr ⟨by rw [hn0]; simp [okN], rfl⟩⟩
      clear hn0
      go_enter Try.func59, Try.ntmps59
      go_wp2_with fail
      (with_reducible refine C1.out.mono ?_)
      rintro e w1 ⟨rfl, hb2⟩
      have HB2 := Lib.hid (HB1.out.trans (hb2.mono HB1.out.size))
      clear C1 hb2 HB1
      go_wp2_with fail
      go_ret2
      exact HR.out _ HB2.out
    · have hn1 : ((nest : Int) == 0) = false := by simp; omega
      obtain ⟨nm, hnm⟩ : ∃ nm, nest = nm + 1 := ⟨nest - 1, by omega⟩
      have en1 : (nest : Int) - 1 = (nm : Int) := by omega
      have en2 : IntKind.i64.wrap (nm : Int) = (nm : Int) := IntWalk.i64_in _ (by have := HH.out; omega)
      have HNM := Lib.hid hnm
      clear hnm
      go_enter Try.func59, Try.ntmps59
      go_wp2_with fail
      (with_reducible refine C1.out.mono ?_)
      rintro e w1 ⟨rfl, hb2⟩
      have HB2 := Lib.hid (HB1.out.trans (hb2.mono HB1.out.size))
      have HP2 := Lib.hid (HP.out.below HB2.out)
      clear C1 hb2 HB1 x0 x1 x2
      obtain ⟨VA, vc, rfl⟩ := HP.out.form
      obtain ⟨K, hK⟩ : ∃ K, K = ns.length := ⟨_, rfl⟩
      rw [← hK] at HP HP2
      have HK := Lib.hid hK
      clear hK
      obtain ⟨y0, y1, y2, y3⟩ := two_cells2 HP2.out.cell
      have HOWN : Hid ((w1.alloc (.cells #[.int .i64 0] 3)).ownsRow base 3 1 (.slice VA K vc) K (ns.map fun n : Nat => Value.int .i64 (n : Int))) := by
        have := World.ownsRow.alloc HP2.out.row (.cells #[.int .i64 0] 3)
        rw [← HK.out] at this
        exact this
      obtain ⟨i0, hi, hz0, hz1, hz2⟩ := info_int
      have HSZ : Hid (base ≤ (w1.alloc (.cells #[.int .i64 0] 3)).heap.size) := by show _ ≤ _; simp; have := HH.out; have := HB2.out.size; omega
      have hK1 : K + 1 ≤ 16777216 := by have := HL.out; rw [HPL.out] at this; simp at this; have := HK.out; omega
      clear y2 y3
      go_upto_region 8 with (fail)
      go_wp2_with (at_builtin; refine wpList_append_own_at _ rfl (.tmp 38) (.tmp 39) 102 rfl base 3 i0 (.int .i64 0) 1 8 Try.underlying102 hi hz0 hz1 hz2 rfl (by decide) (.slice VA K vc) K _ rfl HOWN.out ⟨w1.heap.size, 0, none⟩ 1 1 [.int .i64 0] rfl rfl one_new (by intro u hu; simp at hu; subst hu; rfl) (by unfold maxLen; omega) (by omega) HSZ.out ?_)
      intro v' w3 hown hg _ hat
      obtain ⟨hc3, hmz, hpl3⟩ := plan_push HP2.out (by rw [← HK.out]; exact hown) hg (by simpa using hat)
      obtain ⟨y0, y1, y2, y3⟩ := two_cells2 hc3
      obtain ⟨VB, vd, rfl⟩ := hpl3.form
      obtain ⟨K1, hK1e⟩ : ∃ K1, K1 = (ns ++ [0]).length := ⟨_, rfl⟩
      rw [← hK1e] at hmz hpl3 ⊢
      have MZ := Lib.hid ((Mz.of HB2.out).trans hmz)
      have HP3 := Lib.hid hpl3
      clear hown hg hat hc3 hmz hpl3 HOWN HP2 HB2 HSZ hK1e
      go_upto_region 10 with (fail)
      clear y0 y1 y2 y3 hi hz0 hz1 hz2
      generalize w3.setCell ⟨P, 0, none⟩ (.slice VB K1 vd) = w4 at *
      have HK1 : Hid (K + 1 ≤ 16777216) := hK1
      have HN0 : Hid (¬ nest = 0) := hn0
      clear hK1 hn0
      go_loopw [12, 46] (fun s i wr => ∃ (j : Nat) (v2 : Value), j ≤ M ∧ i = .int .i64 (j : Int) ∧ s = .int .i64 ((psz (xs.take j) : Nat) : Int) ∧ Hid (okL (xs.take j) nm = true) ∧ Hid (Mz P w wr (.slice VA K vc) v2) ∧ Hid (PlanAt wr P base v2 (ns ++ [0] ++ planL (xs.take j)) k))
        (fun _ i _ => M - (intOf i).toNat)
      case atStart =>
        refine ⟨0, _, by omega, rfl, by simp [psz], ?_, MZ.out, ?_⟩
        · show _ = _; simp [okL]
        · have := HP3.out; simpa [planL, Hid] using this
      case round =>
        obtain ⟨j, v2, hj, rfl, rfl, hok, hmz, hpl⟩ := hrel
        by_cases hjM : j < M
        · obtain ⟨xi, hxi⟩ : ∃ x, xs[j]? = some x := ⟨_, List.getElem?_eq_getElem (by rw [← HM.out]; exact hjM)⟩
          obtain ⟨rfl, hbl, hbN⟩ := HBI.out (by rw [← HM.out]; omega)
          have hkeep : ∀ q, wr.cell? ⟨b, q, none⟩ = w.cell? ⟨b, q, none⟩ := fun q => World.cell?_of_block (w := w) (hmz.out.block b hbl (by have := HH.out; omega) (fun e => by have h1 := (HP.out.row.lt b e.symm).1; have := HH.out; omega))
          have hIt := HXI.out j xi hxi
          obtain ⟨l1, a1, n1, c2, b1, m1, cp1, hparts⟩ := hIt.parts
          injection hparts with hp1
          have q0 : u (3 * j) = .bool l1 := by have := congrArg (fun z : Array Value => z[0]?) hp1; simpa using this
          have q1 : u (3 * j + 1) = .slice a1 n1 c2 := by have := congrArg (fun z : Array Value => z[1]?) hp1; simpa using this
          have q2 : u (3 * j + 2) = .slice b1 m1 cp1 := by have := congrArg (fun z : Array Value => z[2]?) hp1; simpa using this
          rw [q0, q1, q2] at hIt
          have z0 := (hkeep (off + 3 * j)).trans (HUI.out (3 * j) (by have := HM.out; omega))
          have z1 := (hkeep (off + (3 * j + 1))).trans (HUI.out (3 * j + 1) (by have := HM.out; omega))
          have z2 := (hkeep (off + (3 * j + 2))).trans (HUI.out (3 * j + 2) (by have := HM.out; omega))
          rw [q0, show off + 3 * j = off + j * 3 by omega] at z0
          rw [q1, show off + (3 * j + 1) = off + j * 3 + 1 by omega] at z1
          rw [q2, show off + (3 * j + 2) = off + j * 3 + 2 by omega] at z2
          have hj1 : (j : Int) < (M : Int) := by omega
          have HJ : Hid (j < M) := hjM
          have HXJ := Lib.hid hxi
          have HIT := Lib.hid hIt
          clear hkeep hp1 q0 q1 q2 hxi hIt hbl hbN hjM
          have hWb : Below wr.heap.size wr (wr.alloc (.cells #[.bool l1, .slice a1 n1 c2, .slice b1 m1 cp1] 56)) := (Below.refl _ _).alloc (Nat.le_refl _) _
          have hfx : fsz xi ≤ psz xs := fsz_le HXJ.out
          have hpx := plan_le HXJ.out
          have hps : psz xs ≤ 1099511627776 := by have := HS.out; rw [HF.out] at this; omega
          have c2' := IH.out j xi HXJ.out P N0 base nm k (wr.alloc (.cells #[.bool l1, .slice a1 n1 c2, .slice b1 m1 cp1] 56)) v2 (.agg #[.bool l1, .slice a1 n1 c2, .slice b1 m1 cp1]) _ (by have := HH.out; have := HNM.out; omega) HH.out.2.1 HH.out.2.2.1 (by have := HH.out; have := hmz.out.size; simp; omega)
            ((IAt.mz HIT.out HP.out HH.out.2.1 HH.out.2.2.1 hmz.out).keep hWb) (hpl.out.below hWb) (by omega) (by
              simp only [List.length_append, List.length_singleton]
              have := HL.out; rw [HPL.out] at this; simp only [List.length_cons] at this; omega)
          have C2 := Lib.hid c2'
          have HWB := Lib.hid (hmz.out.trans (Mz.of hWb))
          have hpt := psz_take HXJ.out
          obtain ⟨s0, hs0⟩ : ∃ s, s = psz (xs.take j) := ⟨_, rfl⟩
          obtain ⟨s1, hs1⟩ : ∃ s, s = fsz xi := ⟨_, rfl⟩
          have hle := psz_le (xs := xs) (j + 1)
          rw [← hs0, ← hs1] at hpt
          have es : IntKind.i64.wrap ((s0 : Int) + (s1 : Int)) = (s0 : Int) + (s1 : Int) := IntWalk.i64_in _ (by omega)
          have ej : IntKind.i64.wrap ((j : Int) + 1) = (j : Int) + 1 := IntWalk.i64_in _ (by have := HJ.out; have := HM.out; have := psz_len xs; omega)
          have HPT := Lib.hid hpt
          have HS1 := Lib.hid hs1
          rw [← hs0]
          clear c2' hWb hmz hpl hpt hle hs0 hs1 hfx hpx hps
          go_wp2_with fail
          (with_reducible refine C2.out.mono ?_)
          rintro e w5 ⟨v3, ns3, hm3, hp3, hres⟩
          have HM3 := Lib.hid (HWB.out.trans hm3)
          have HP3 := Lib.hid hp3
          clear C2 hm3 hp3 HWB z0 z1 z2
          rcases hres with ⟨hk1, hk2, rfl⟩ | ⟨hk1, rfl⟩
          · have HK2 := Lib.hid hk1
            have HK3 := Lib.hid hk2
            rw [← HS1.out]
            clear hk1 hk2
            go_wp2_with fail
            refine ⟨⟨j + 1, v3, HJ.out, by simp, by rw [HPT.out]; simp, ?_, HM3.out, ?_⟩, by simp [intOf]; have := HJ.out; omega⟩
            · show _ = _
              rw [okL_take HXJ.out, hok.out, HK2.out]; rfl
            · show PlanAt _ _ _ _ _ _
              rw [planL_take HXJ.out, ← List.append_assoc, ← HK3.out]
              exact HP3.out
          · have HBAD := Lib.hid (okL_bad HXJ.out hk1)
            have HQ : Hid (MeasR P base (.slice VA ns.length vc) ns k nest (.mk true bs xs) w (.returned (.tuple #[.int .i64 0, .bool false])) w5) := by
              refine ⟨v3, ns3, ?_, HP3.out, .inr ⟨?_, rfl⟩⟩
              · rw [← HK.out]; exact HM3.out
              · rw [HNM.out]; simp [okN, HBAD.out]
            clear hk1
            go_wp2_with fail
            go_ret2
            exact HQ.out
        · have hjM' : j = M := by omega
          subst hjM'
          have hj1 : ¬ (j : Int) < (j : Int) := by omega
          have hpl2 := hpl.out
          rw [HM.out, List.take_length] at hpl2
          rw [HM.out, List.take_length] at hok
          have hlen : (ns ++ [0] ++ planL xs).length = K + 1 + (planL xs).length := by simp only [List.length_append, List.length_singleton]; rw [HK.out]
          obtain ⟨g, gc, rfl⟩ := hpl2.some (by omega)
          obtain ⟨G, hG⟩ : ∃ G, G = (ns ++ [0] ++ planL xs).length := ⟨_, rfl⟩
          have hcell : wr.cell? ⟨g, K, none⟩ = some (.int .i64 0) := by
            rw [hpl2.row.cellAt K (by omega), List.getElem?_map, List.append_assoc, List.getElem?_append_right (by rw [HK.out]; exact Nat.le_refl _), HK.out]
            simp
          have hfro : wr.frozen? ⟨g, K, none⟩ = false := hpl2.row.frozenAt K
          have hgP : P ≠ g := fun e => hpl2.ne (by rw [e]; rfl)
          obtain ⟨S, hS⟩ : ∃ S, S = psz xs := ⟨_, rfl⟩
          have hSl : S ≤ 1099511627776 := by have := HS.out; rw [HF.out, ← hS] at this; omega
          have hset : ((ns ++ [0] ++ planL xs).map fun n : Nat => Value.int .i64 (n : Int)).set K (.int .i64 (S : Int)) = (ns ++ S :: planL xs).map fun n : Nat => Value.int .i64 (n : Int) := by
            rw [List.append_assoc, List.map_append, List.map_append, List.set_append_right _ _ (by simp [HK.out])]
            simp [HK.out]
          have hst := hpl2.row.stored K (.int .i64 (S : Int))
          rw [hset] at hst
          have HPF : Hid (PlanAt (wr.setCell ⟨g, K, none⟩ (.int .i64 (S : Int))) P base (.slice (some ⟨g, 0, none⟩) G gc) (ns ++ S :: planL xs) k) := by
            refine ⟨(Below.heap_setCell _ _ _ _ hgP).trans ?_, ?_⟩
            · rw [hG]; exact hpl2.cell
            · have h := hst.1
              rw [hG]
              have e : (ns ++ [0] ++ planL xs).length = (ns ++ S :: planL xs).length := by simp
              rw [e] at h ⊢
              exact h
          have HMF : Hid (Mz P w (wr.setCell ⟨g, K, none⟩ (.int .i64 (S : Int))) (.slice VA K vc) (.slice (some ⟨g, 0, none⟩) G gc)) := by
            refine hmz.out.trans ⟨rfl, rfl, rfl, by simp, fun q hq hP hv => Below.heap_setCell _ _ _ _ (fun e => hv (by rw [e]; rfl)), .inl rfl⟩
          obtain ⟨y0, y1, y2, y3⟩ := two_cells2 hpl2.cell
          have CH := Lib.hid (headSize_c S hSl (wr.setCell ⟨g, K, none⟩ (.int .i64 (S : Int))))
          have hh := hsz_le hSl
          obtain ⟨H, hH⟩ : ∃ H, H = hsz S := ⟨_, rfl⟩
          rw [← hH] at CH hh
          have eH : IntKind.i64.wrap ((H : Int) + (S : Int)) = (H : Int) + (S : Int) := IntWalk.i64_in _ (by omega)
          have hKG : (K : Int) < (G : Int) := by omega
          have hKG2 : K < G := by omega
          have HQ : Hid (MeasR P base (.slice VA ns.length vc) ns k nest (.mk true bs xs) w (.returned (.tuple #[.int .i64 ((H : Int) + (S : Int)), .bool true])) (wr.setCell ⟨g, K, none⟩ (.int .i64 (S : Int)))) := by
            refine ⟨_, _, ?_, HPF.out, .inl ⟨?_, ?_, ?_⟩⟩
            · rw [← HK.out]; exact HMF.out
            · rw [HNM.out]; simp [okN, hok.out]
            · rw [HPL.out, hS]
            · rw [HF.out, ← hS, ← hH]; simp
          rw [← hG] at y0
          rw [show List.take j xs = xs from by rw [HM.out, List.take_length], ← hS]
          clear hlen hG hgP hSl hset hst hH hh hS hpl2 hmz hpl HPF HMF hok
          go_wp2_with fail
          (with_reducible refine CH.out.mono ?_)
          rintro e w6 ⟨rfl, rfl⟩
          clear CH y0 y1 y2 y3 hcell hfro
          go_wp2_with fail
          go_ret2
          exact HQ.out
/-- measure, of any item. -/
theorem measure_c : ∀ x, MeasC x := Itm.ind fun l bs xs ih => by
  cases l with
  | false => exact measure_text bs xs
  | true => exact measure_list bs xs ih
end Go.Proofs.Ytgjiealcjaojaaa
