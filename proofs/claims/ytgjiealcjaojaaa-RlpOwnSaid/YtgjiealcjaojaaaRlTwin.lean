/- The laws' Twin of an item: its contract. -/
import Derived.Test.YtgjiealcjaojaaaRlTwinMath
import Derived.Test.YtgjiealcjaojaaaTwinA
import Derived.Test.YtgjiealcjaojaaaLawRlpSplit
import Derived.Deep.RegionLaw
namespace Go.Proofs.Ytgjiealcjaojaaa
open Go.RowKit

/-- What was there stands, but for the blocks of which K speaks. -/
structure Tk (K : Nat → Prop) (w w' : World) : Prop where
  os : w'.os = w.os
  tape : w'.tape = w.tape
  output : w'.output = w.output
  size : w.heap.size ≤ w'.heap.size
  block : ∀ k, k < w.heap.size → ¬ K k → w'.heap[k]? = w.heap[k]?
theorem Tk.refl (K : Nat → Prop) (w : World) : Tk K w w := ⟨rfl, rfl, rfl, Nat.le_refl _, fun _ _ _ => rfl⟩
theorem Tk.trans {K : Nat → Prop} {a b c : World} (h : Tk K a b) (k : Tk K b c) : Tk K a c :=
  ⟨k.os.trans h.os, k.tape.trans h.tape, k.output.trans h.output, Nat.le_trans h.size k.size, fun i hi hn => (k.block i (Nat.lt_of_lt_of_le hi h.size) hn).trans (h.block i hi hn)⟩
theorem Tk.of {K : Nat → Prop} {a b : World} (h : Below a.heap.size a b) : Tk K a b := ⟨h.os, h.tape, h.output, h.size, fun k hk _ => h.block k hk⟩
/-- Later worlds: what turns behind a's blocks does not count. -/
theorem Tk.then {K : Nat → Prop} {a b c : World} (h : Tk K a b) (k : Below a.heap.size b c) : Tk K a c :=
  ⟨k.os.trans h.os, k.tape.trans h.tape, k.output.trans h.output, Nat.le_trans h.size k.size, fun i hi hn => (k.block i hi).trans (h.block i hi hn)⟩
theorem Tk.more {K K' : Nat → Prop} {a b c : World} (h : Tk K a b) (k : Tk K' b c) (hK : ∀ i, i < a.heap.size → K' i → K i) : Tk K a c :=
  ⟨k.os.trans h.os, k.tape.trans h.tape, k.output.trans h.output, Nat.le_trans h.size k.size, fun i hi hn => (k.block i (Nat.lt_of_lt_of_le hi h.size) (fun e => hn (hK i hi e))).trans (h.block i hi hn)⟩
theorem Tk.set {K : Nat → Prop} {a b : World} (h : Tk K a b) (g j : Nat) (v : Value) (hg : g < a.heap.size → K g) : Tk K a (b.setCell ⟨g, j, none⟩ v) :=
  ⟨h.os, h.tape, h.output, by simpa using h.size, fun i hi hn => (Below.heap_setCell _ _ _ _ (fun e => hn (by have e' : i = g := e; subst e'; exact hg hi))).trans (h.block i hi hn)⟩
theorem Tk.grown {K : Nat → Prop} {a b c : World} {row : Option Nat} (h : Tk K a b) (hg : b.grownBy c row) (hr : ∀ k, row = some k → a.heap.size ≤ k) : Tk K a c :=
  ⟨hg.os.trans h.os, hg.tape.trans h.tape, hg.output.trans h.output, Nat.le_trans h.size hg.size, fun i hi hn => (hg.block i (Nat.lt_of_lt_of_le hi h.size) (fun e => by have := hr i e.symm; omega)).trans (h.block i hi hn)⟩
theorem Tk.item {K S : Nat → Prop} {a b : World} {v : Value} {x : Itm} (h : Tk K a b) (hx : IAt S a v x) (hS : ∀ i, S i → ¬ K i) : IAt S b v x :=
  hx.move h.size (fun _ _ h => h) fun _ hp hlt => World.cell?_of_block (w := a) (h.block _ hlt (hS _ hp))

/-- An item without items, in new memory. -/
theorem IAt.flat {B0 : Nat} {w : World} {v : Value} {bs : List Nat} (l : Bool) (h : Acc w B0 v bs) (hd : Ds 256 bs) : IAt (fun b => B0 ≤ b) w (.agg #[.bool l, v, .slice none 0 0]) (.mk l bs []) := by
  obtain ⟨A, c, rfl⟩ := h.form
  refine .mk l A c none 0 0 0 (fun _ => undef) bs [] h.rd hd (fun h0 => ?_) (fun h => absurd h (by simp)) (Nat.le_refl _) (fun _ => rfl) (fun j hj => absurd hj (by simp)) (fun j x hj => by simp at hj)
  rcases h.2 with ⟨e, h1⟩ | ⟨g, cap, cur, e, hb, _⟩
  · omega
  · injection e with e1 e2 e3
    exact ⟨g, 0, e1, hb⟩
/-- Bytes and items, both in new memory, as one item. -/
theorem AccI.join {w : World} {base : Nat} {B : Option Addr} {m cap : Nat} {us : List Value} {xs : List Itm} {v : Value} {bs : List Nat} (l : Bool) (h : AccI w base (.slice B m cap) us xs) (hb : Acc w base v bs) (hd : Ds 256 bs) :
    IAt (fun b => base ≤ b) w (.agg #[.bool l, v, .slice B m cap]) (.mk l bs xs) := by
  obtain ⟨A, c, rfl⟩ := hb.form
  have hi := h.item
  have hl : m = xs.length := by
    obtain ⟨A', c', e⟩ := h.form
    injection e
  subst hl
  have hAb : 0 < bs.length → ∃ b o, A = some ⟨b, o, none⟩ ∧ base ≤ b := fun h0 => by
    rcases hb.2 with ⟨e, h1⟩ | ⟨g, cap, cur, e, hb, _⟩
    · omega
    · injection e with e1 e2 e3
      exact ⟨g, 0, e1, hb⟩
  generalize hv : Value.agg #[.bool true, .slice none 0 0, .slice B xs.length cap] = u at hi
  generalize hy : Itm.list xs = y at hi
  cases hi with
  | mk l' A' c' B' cap' b off u' bs' xs' hA' hd' hAb' hB hc hn hu hx =>
    injection hy with _ _ hy
    subst hy
    injection hv with hv
    have h2 : Value.slice B xs.length cap = .slice B' xs.length cap' := by have := congrArg (fun z : Array Value => z[2]?) hv; simpa using this
    injection h2 with e1 _ e3
    subst e1 e3
    exact .mk l A c B cap b off u' bs xs hb.rd hd hAb hB hc hn hu hx
theorem Acc.mono' {w : World} {base base' : Nat} {v : Value} {bs : List Nat} (h : Acc w base v bs) (hb : base' ≤ base) : Acc w base' v bs := by
  refine ⟨h.1, ?_⟩
  rcases h.2 with h1 | ⟨g, cap, cur, e, hg, r⟩
  · exact .inl h1
  · exact .inr ⟨g, cap, cur, e, Nat.le_trans hb hg, r⟩
theorem AccI.mono' {w : World} {base base' : Nat} {v : Value} {us : List Value} {xs : List Itm} (h : AccI w base v us xs) (hb : base' ≤ base) : AccI w base' v us xs := by
  refine ⟨⟨h.1.1, ?_⟩, fun j x hj => (h.2 j x hj).mono fun _ _ hS => ⟨Nat.le_trans hb hS.1, hS.2⟩⟩
  rcases h.1.2 with h1 | ⟨g, cap, cur, e, hg, r⟩
  · exact .inl h1
  · exact .inr ⟨g, cap, cur, e, Nat.le_trans hb hg, r⟩
theorem AccI.far {w w' : World} {base : Nat} {v : Value} {us : List Value} {xs : List Itm} (h : AccI w base v us xs) (hs : w.heap.size ≤ w'.heap.size) (hk : ∀ k, base ≤ k → k < w.heap.size → w'.heap[k]? = w.heap[k]?) : AccI w' base v us xs := by
  refine ⟨⟨h.1.1, ?_⟩, fun j x hj => (h.2 j x hj).move hs (fun _ _ h => h) fun p hp hlt => World.cell?_of_block (w := w) (hk _ hp.1 hlt)⟩
  rcases h.1.2 with h1 | ⟨g, cap, cur, e, hg, hh, r⟩
  · exact .inl h1
  · exact .inr ⟨g, cap, cur, e, hg, (hk g hg (Array.getElem?_eq_some_iff.1 hh).1).trans hh, r⟩

/-- append to a slice that a call owns, as one step of a region that draws; and where it lies. -/
theorem step_append_own_at {P : Program} {ops : Array Oper} {o : Oper} {a : Act} {w : World} {K : Act → World → Prop} {Q : Exit → Act → World → Prop} {E : Prop} (hgd : o.guard = none) (s x : Operand) (t : TypeId)
    (ho : o.op = .call { callee := .builtin .append, args := #[s, x], argTypes := #[t, t] })
    (base : Nat) (e : TypeId) (i : TypeInfo) (z : Value) (size bytes : Nat) (ht : P.underlying t = some (.slice e)) (hi : P.info? e = some i) (hz : i.zero = some z)
    (hsize : i.size = size) (hby : i.bytes = bytes) (hzs : z.cells.size = size) (hsz : 0 < size)
    (v : Value) (n : Nat) (xs : List Value) (hs : a.eval s = v) (hown : w.ownsRow base e size v n xs)
    (ad : Addr) (m c : Nat) (news : List Value) (hx : a.eval x = .slice (some ad) m c) (hl : news.length = m * size) (hnews : ∀ j u, news[j]? = some u → w.cell? (ad.add j) = some u) (h1 : ∀ u ∈ news, u.oneCell' = true)
    (h63 : n + m ≤ maxLen) (hbytes : (n + m) * bytes ≤ 140737488355328) (hbase : base ≤ w.heap.size)
    (h : ∀ v' w', w'.ownsRow base e size v' (n + m) (xs ++ news) → w.grownBy w' v.ownBlock → (v' = .slice none 0 0 ↔ v = .slice none 0 0 ∧ m = 0) → (v'.ownBlock = v.ownBlock ∨ v'.ownBlock = some w.heap.size) → K (a.put o.dst v') w') :
    if Region.wanted o (yielded ops a.tmps) = true then o.wp P a w K Q else E := by
  have hw : Region.wanted o (yielded ops a.tmps) = true := by simp [Region.wanted, hgd]
  rw [if_pos hw]
  obtain ⟨v', w', hr, h2, h3, h4, h5⟩ := run_append_own_at (P := P) w base t o.type e i z size bytes ht hi hz hsize hby hzs hsz v n xs hown ad m c news hl hnews h1 h63 hbytes hbase
  unfold Oper.wp execOp
  simp only [ho, resolve, invoke, builtin, Sem.run_bind, Sem.run_pure, Result.andThen_ok, List.map_toArray, List.map_cons, List.map_nil, hs, hx, hr]
  exact h v' w' h2 h3 h4 h5
end Go.Proofs.Ytgjiealcjaojaaa
