/- The laws' Twin of an item: its contract. -/
import Derived.Test.YtgjiealcjaojaaaRlTwin
import Derived.Test.YtgjiealcjaojaaaRlRef
import Derived.Test.YtgjiealcjaojaaaRlNested
namespace Go.Proofs.Ytgjiealcjaojaaa
open Go.RowKit

theorem int_cell {w : World} {g : Nat} {v : Value} {t : TypeId} (h : w.heap[g]? = some (.cells #[v] t (0, 0))) : w.cell? ⟨g, 0, none⟩ = some v ∧ w.frozen? ⟨g, 0, none⟩ = false := ⟨cell_of_one h, frozen_of_row _ _ _ _ t h⟩
/-- What Twin tells: the copy, in new memory; the counter has gone down. -/
def TwR (G d : Nat) (x : Itm) (n : Nat) (w : World) (e : Ending) (w' : World) : Prop := Tk (fun k => k = G) w w' ∧ w'.heap[G]? = some (.cells #[.int .i64 ((twI d x n).2 : Nat)] 3 (0, 0)) ∧
  ∃ v, e = .returned v ∧ IAt (fun b => w.heap.size ≤ b) w' v (twI d x n).1
def TwC (d : Nat) : Prop := ∀ (G n : Nat) (x : Itm) (w : World) (vx : Value), IAt (fun b => b ≠ G) w vx x → w.heap[G]? = some (.cells #[.int .i64 (n : Nat)] 3 (0, 0)) → 0 < n → n ≤ 1000000 →
  Calls Try.prog 26 #[vx, .int .i64 (d : Nat), .pointer (some ⟨G, 0, none⟩)] w (TwR G d x n w)

def Fact.acc (B : Nat) (bs : List Nat) : Fact := ⟨fun v w => Acc w B v bs, fun _ _ _ hb h => h.below hb⟩
/-- A pointer to a new block of an empty item. -/
def PItem (B : Nat) (v : Value) (w : World) : Prop := ∃ g, v = .pointer (some ⟨g, 0, none⟩) ∧ B ≤ g ∧ w.heap[g]? = some (.cells #[.bool false, .slice none 0 0, .slice none 0 0] 56 (0, 0))
def Fact.pitem (B : Nat) : Fact := ⟨fun v w => PItem B v w, fun _ _ _ hb ⟨g, e, h, k⟩ => ⟨g, e, h, (hb.block g (heap_lt2 k)).trans k⟩⟩
def Fact.flat (B : Nat) (l : Bool) (bs : List Nat) : Fact := ⟨fun v w => ∃ u, v = .agg #[.bool l, u, .slice none 0 0] ∧ Acc w B u bs, fun _ _ _ hb ⟨u, e, h⟩ => ⟨u, e, h.below hb⟩⟩


theorem IAt.inv2 {S : Nat → Prop} {w : World} {p q r : Value} {l : Bool} {bs : List Nat} {xs : List Itm} (h : IAt S w (.agg #[p, q, r]) (.mk l bs xs)) :
    ∃ (B : Option Addr) (cap b off : Nat) (u : Nat → Value), r = .slice B xs.length cap ∧ (0 < xs.length → B = some ⟨b, off, none⟩ ∧ b < w.heap.size ∧ S b) ∧ xs.length ≤ cap ∧
      (∀ j, j < 3 * xs.length → w.cell? ⟨b, off + j, none⟩ = some (u j)) ∧ (∀ (j : Nat) (x : Itm), xs[j]? = some x → IAt S w (.agg #[u (3 * j), u (3 * j + 1), u (3 * j + 2)]) x) := by
  generalize hv : Value.agg #[p, q, r] = v at h
  cases h with
  | mk l A c B cap b off u bs xs hA hd hAb hB hc hn hu hx =>
    injection hv with hv
    have h2 : r = .slice B xs.length cap := by have := congrArg (fun z : Array Value => z[2]?) hv; simpa using this
    exact ⟨B, cap, b, off, u, h2, hB, hc, hu, hx⟩
theorem own_form {w : World} {base size n : Nat} {t : TypeId} {v : Value} {us : List Value} (h : w.ownsRow base t size v (n + 1) us) : ∃ A c, v = .slice A (n + 1) c := by
  rcases h.2 with ⟨_, h0⟩ | ⟨g, cap, cur, e, _⟩
  · omega
  · exact ⟨_, _, e⟩
theorem Tk.lift {K : Nat → Prop} {a b : World} {p : Addr} (h : Tk K a b) (hp : p.block < a.heap.size) (hn : ¬ K p.block) : b.cell? p = a.cell? p := World.cell?_of_block (w := a) (h.block _ hp hn)

section
variable {ops : Array Oper} {T : Facts} {o : Oper} {a : Act} {w : World}
theorem op_fieldI {g k : Nat} (x : Operand) (ho : o.op = .fieldAddr 56 x k) (hk : k = 0 ∨ k = 1 ∨ k = 2) (hx : a.eval x = .pointer (some ⟨g, 0, none⟩)) (hw : Region.wanted o (yielded ops a.tmps) = true) (hf : factTo T o.dst (.pointer (some ⟨g, k, none⟩)) w) : relStep Try.prog ops T o a w :=
  relStep_val (.pointer (some ⟨g, k, none⟩)) hw hf (by
    unfold execOp
    rw [ho]
    simp only [hx]
    rcases hk with rfl | rfl | rfl <;> go_simp)
theorem op_loadB {g k : Nat} {b : Bool} (x : Operand) (ho : o.op = .load 4 x) (hx : a.eval x = .pointer (some ⟨g, k, none⟩)) (hc : w.cell? ⟨g, k, none⟩ = some (.bool b)) (hw : Region.wanted o (yielded ops a.tmps) = true) (hf : factTo T o.dst (.bool b) w) : relStep Try.prog ops T o a w :=
  relStep_val (.bool b) hw hf (by
    unfold execOp
    rw [ho]
    simp only [hx]
    go_simp)
theorem op_loadSB {g k : Nat} {A : Option Addr} {n c : Nat} (x : Operand) (ho : o.op = .load 22 x) (hx : a.eval x = .pointer (some ⟨g, k, none⟩)) (hc : w.cell? ⟨g, k, none⟩ = some (.slice A n c)) (hw : Region.wanted o (yielded ops a.tmps) = true) (hf : factTo T o.dst (.slice A n c) w) : relStep Try.prog ops T o a w :=
  relStep_val (.slice A n c) hw hf (by
    unfold execOp
    rw [ho]
    simp only [hx]
    go_simp)
theorem op_buildI {l : Bool} {v : Value} (x y : Operand) (ho : o.op = .build 56 #[(0, x), (1, y)]) (hx : a.eval x = .bool l) (hy : ∃ A n c, v = .slice A n c) (hy2 : a.eval y = v) (hw : Region.wanted o (yielded ops a.tmps) = true) (hf : factTo T o.dst (.agg #[.bool l, v, .slice none 0 0]) w) : relStep Try.prog ops T o a w :=
  relStep_val (.agg #[.bool l, v, .slice none 0 0]) hw hf (by
    obtain ⟨A, n, c, rfl⟩ := hy
    clear hw hf
    generalize a.eval = p at *
    unfold execOp
    rw [ho]
    go_simp)
theorem op_allocI {B : Nat} (ho : o.op = .alloc 56) (hB : B ≤ w.heap.size) (hw : Region.wanted o (yielded ops a.tmps) = true) (hf : ∀ v w', PItem B v w' → factTo T o.dst v w') : relStep Try.prog ops T o a w := by
  refine relStep_go hw ?_
  have e : (execOp a.eval o).run Try.prog w = .ok (.value (.pointer (some ⟨w.heap.size, 0, none⟩))) (w.alloc (.cells #[.bool false, .slice none 0 0, .slice none 0 0] 56)) := by
    unfold execOp
    rw [ho]
    go_simp
  rw [e]
  exact ⟨(Below.refl _ _).alloc (Nat.le_refl _) _, hf _ _ ⟨_, rfl, hB, heap_alloc_new w _⟩⟩
end
section
variable {ops : Array Oper} {T : Facts} {o : Oper} {a : Act} {w : World}
theorem op_callT {f : FuncId} {tys : Array TypeId} {R : World → Value → Prop} (x y : Operand) (ho : o.op = .call { callee := .value (.func f), args := #[x, y], argTypes := tys }) (he : ∀ args w, (callFunc f args).run Try.prog w = .ok (.enter f args) w) (hw : Region.wanted o (yielded ops a.tmps) = true)
    (h : Calls Try.prog f #[a.eval x, a.eval y] w (RetR R w)) (k : ∀ v w', R w' v → factTo T o.dst v w') : relStep Try.prog ops T o a w :=
  relStep_call f #[a.eval x, a.eval y] hw h k (by
    have hp : a.eval (.func f) = .func (.func f) #[] #[] := rfl
    have e := he #[a.eval x, a.eval y] w
    clear h hw k
    generalize a.eval = p at *
    unfold execOp
    rw [ho]
    go_simp)
end
/-- A call of a function of three arguments, as one step of a region that draws. -/
theorem step_call3 {ops : Array Oper} {o : Oper} {a : Act} {w : World} {K : Act → World → Prop} {Q : Exit → Act → World → Prop} {E : Prop} (hgd : o.guard = none) (f : FuncId) (x y z : Operand) {tys : Array TypeId}
    (ho : o.op = .call { callee := .value (.func f), args := #[x, y, z], argTypes := tys }) (he : ∀ args w, (callFunc f args).run Try.prog w = .ok (.enter f args) w) {R : Ending → World → Prop} (args : Array Value) (ha : #[a.eval x, a.eval y, a.eval z] = args)
    (h : Calls Try.prog f args w R) (hR : ∀ e w', R e w' → ∃ v, e = .returned v ∧ K (a.put o.dst v) w') : if Region.wanted o (yielded ops a.tmps) = true then o.wp Try.prog a w K Q else E := by
  have hw : Region.wanted o (yielded ops a.tmps) = true := by simp [Region.wanted, hgd]
  rw [if_pos hw]
  subst ha
  have e : (execOp a.eval o).run Try.prog w = .ok (.enter f #[a.eval x, a.eval y, a.eval z]) w := by
    have hp : a.eval (.func f) = .func (.func f) #[] #[] := rfl
    have e := he #[a.eval x, a.eval y, a.eval z] w
    clear h hw hR
    generalize a.eval = p at *
    unfold execOp
    rw [ho]
    go_simp
  unfold Oper.wp
  rw [e]
  refine h.mono fun e w' hr => ?_
  obtain ⟨v, rfl, hk⟩ := hR e w' hr
  exact hk
theorem en_keepTwin (args : Array Value) (w : World) : (callFunc 7 args).run Try.prog w = .ok (.enter 7 args) w := by go_simp
theorem en_twin (args : Array Value) (w : World) : (callFunc 26 args).run Try.prog w = .ok (.enter 26 args) w := by go_simp

set_option maxRecDepth 100000 in
set_option maxHeartbeats 6400000 in
theorem twin_step (d : Nat) (hd : d ≤ 100000) (hrec : ∀ d', d = d' + 1 → TwC d') : TwC d := by
  intro G n x w vx hx hG hn0 hn
  obtain ⟨l, bs, xs⟩ := x
  obtain ⟨l0, a1, m1, c1, b1, k1, cp1, rfl⟩ := hx.parts
  obtain ⟨hl0, ⟨a1', c1', hsl, hr1, hd1⟩, hit⟩ := hx.inv
  injection hl0 with hl0
  subst hl0
  injection hsl with e1 e2 e3
  subst e1 e2 e3
  have hGlt := heap_lt2 hG
  have hbx : Below w.heap.size w ((w.alloc (.cells #[.bool l0, .slice a1 bs.length c1, .slice b1 k1 cp1] 56)).alloc (.cells #[.bool false, .slice none 0 0, .slice none 0 0] 56)) := ((Below.refl w.heap.size w).alloc (Nat.le_refl _) _).alloc (by simp) _
  have hp1 : ((w.alloc (.cells #[.bool l0, .slice a1 bs.length c1, .slice b1 k1 cp1] 56)).alloc (.cells #[.bool false, .slice none 0 0, .slice none 0 0] 56)).heap[w.heap.size]? = some (.cells #[.bool l0, .slice a1 bs.length c1, .slice b1 k1 cp1] 56 (0, 0)) := by
    rw [Below.heap_alloc _ _ _ (by simp)]
    exact heap_alloc_new w _
  have hp2 : ((w.alloc (.cells #[.bool l0, .slice a1 bs.length c1, .slice b1 k1 cp1] 56)).alloc (.cells #[.bool false, .slice none 0 0, .slice none 0 0] 56)).heap[w.heap.size + 1]? = some (.cells #[.bool false, .slice none 0 0, .slice none 0 0] 56 (0, 0)) := by
    have := heap_alloc_new (w.alloc (.cells #[.bool l0, .slice a1 bs.length c1, .slice b1 k1 cp1] 56)) (.cells #[.bool false, .slice none 0 0, .slice none 0 0] 56)
    simpa using this
  have hG2 := (hbx.block G hGlt).trans hG
  have hx1 : IAt (fun b => b ≠ G ∧ b < w.heap.size) w (.agg #[.bool l0, .slice a1 bs.length c1, .slice b1 k1 cp1]) (.mk l0 bs xs) := hx.mono (fun b hb h => ⟨h, hb⟩)
  have hsz : ((w.alloc (.cells #[.bool l0, .slice a1 bs.length c1, .slice b1 k1 cp1] 56)).alloc (.cells #[.bool false, .slice none 0 0, .slice none 0 0] 56)).heap.size = w.heap.size + 2 := by simp
  obtain ⟨gc, gf⟩ := int_cell hG2
  have dn : IntKind.i64.wrap ((n : Int) - 1) = ((n - 1 : Nat) : Int) := by rw [IntWalk.i64_in _ (by omega)]; omega
  have htk : Tk (fun k => k = G) w (((w.alloc (.cells #[.bool l0, .slice a1 bs.length c1, .slice b1 k1 cp1] 56)).alloc (.cells #[.bool false, .slice none 0 0, .slice none 0 0] 56)).setCell ⟨G, 0, none⟩ (.int .i64 ((n - 1 : Nat) : Int))) := (Tk.of hbx).set G 0 _ (fun _ => rfl)
  have hp1' := (Below.heap_setCell ((w.alloc (.cells #[.bool l0, .slice a1 bs.length c1, .slice b1 k1 cp1] 56)).alloc (.cells #[.bool false, .slice none 0 0, .slice none 0 0] 56)) ⟨G, 0, none⟩ (.int .i64 ((n - 1 : Nat) : Int)) w.heap.size (show w.heap.size ≠ G by omega)).trans hp1
  have hp2' := (Below.heap_setCell ((w.alloc (.cells #[.bool l0, .slice a1 bs.length c1, .slice b1 k1 cp1] 56)).alloc (.cells #[.bool false, .slice none 0 0, .slice none 0 0] 56)) ⟨G, 0, none⟩ (.int .i64 ((n - 1 : Nat) : Int)) (w.heap.size + 1) (show w.heap.size + 1 ≠ G by omega)).trans hp2
  have hG3 := heap_setCell_same _ G 0 _ _ (.int .i64 ((n - 1 : Nat) : Int)) hG2
  have hsz' : (((w.alloc (.cells #[.bool l0, .slice a1 bs.length c1, .slice b1 k1 cp1] 56)).alloc (.cells #[.bool false, .slice none 0 0, .slice none 0 0] 56)).setCell ⟨G, 0, none⟩ (.int .i64 ((n - 1 : Nat) : Int))).heap.size = w.heap.size + 2 := by simp
  have hrd : Rd .u8 (((w.alloc (.cells #[.bool l0, .slice a1 bs.length c1, .slice b1 k1 cp1] 56)).alloc (.cells #[.bool false, .slice none 0 0, .slice none 0 0] 56)).setCell ⟨G, 0, none⟩ (.int .i64 ((n - 1 : Nat) : Int))) a1 c1 bs := by
    obtain ⟨-, ⟨_, _, e, h, _⟩, _⟩ := (htk.item hx1 (fun i h => h.1)).inv
    injection e with e1 e2 e3
    subst e1 e3
    exact h
  have HP1 := Lib.hid hp1'
  have HP2 := Lib.hid hp2'
  have HG3 := Lib.hid hG3
  have HX1 := Lib.hid hx1
  have HSZ := Lib.hid hsz'
  have HTK := Lib.hid htk
  have HRD := Lib.hid hrd
  have HN : Hid (0 < n ∧ n ≤ 1000000) := ⟨hn0, hn⟩
  have HD := Lib.hid hd
  have HD1 := Lib.hid hd1
  have HREC := Lib.hid hrec
  have HGL := Lib.hid hGlt
  obtain ⟨tb, htb⟩ : ∃ tb, tb = bs.take 400 := ⟨_, rfl⟩
  have HTB := Lib.hid htb
  have hTD : Ds 256 tb := by rw [htb]; exact hd1.take 400
  have HTD := Lib.hid hTD
  obtain ⟨L, hL⟩ : ∃ L, L = bs.length := ⟨_, rfl⟩
  have HL := Lib.hid hL
  clear hx hG hbx hp1 hp2 hG2 hx1 hsz hn0 hn hd hd1 hrec hGlt hit hr1 hTD htb htk hp1' hp2' hG3 hsz' hrd
  rw [← hL] at HP1 HP2 HG3 HX1 HSZ HTK HRD gc gf ⊢
  clear hL
  go_enter Try.func26, Try.ntmps26
  go_upto_region 2 with (fail)
  generalize hWe : (((w.alloc (.cells #[.bool l0, .slice a1 L c1, .slice b1 k1 cp1] 56)).alloc (.cells #[.bool false, .slice none 0 0, .slice none 0 0] 56)).setCell ⟨G, 0, none⟩ (.int .i64 ((n - 1 : Nat) : Int))) = W at *
  clear hWe gc gf dn
  refine wp_region_see 7 [14, 15, 16, 17, 18, 19, 7] [(14, .is (.pointer (some ⟨w.heap.size, 0, none⟩))), (15, .is (.bool l0)), (16, .is (.pointer (some ⟨w.heap.size, 1, none⟩))), (17, .is (.slice a1 L c1)), (18, .acc (w.heap.size + 2) tb), (19, .flat (w.heap.size + 2) l0 tb), (7, .pitem (w.heap.size + 2))] (by kernel_rfl) (by kernel_rfl) (by rfl) ?_ ?_
  · refine seeOps_cons ?_ (seeOps_cons ?_ (seeOps_cons ?_ (seeOps_cons ?_ (seeOps_cons ?_ (seeOps_cons ?_ (seeOps_cons ?_ seeOps_nil))))))
    · intro w2 hb2 fr hout hin
      have h3 : fr.tmps.getD 3 undef = .pointer (some ⟨w.heap.size, 0, none⟩) := hout 3 (by decide)
      clear hout hin
      exact op_fieldI (.tmp 3) rfl (by omega) h3 (wanted_none rfl) rfl
    · intro w2 hb2 fr hout hin
      have h14 : fr.tmps.getD 14 undef = .pointer (some ⟨w.heap.size, 0, none⟩) := hin 14 (by decide) (by decide)
      clear hout hin
      exact op_loadB (.tmp 14) rfl h14 (three_cells ((hb2.block _ (by rw [HSZ.out]; omega)).trans HP1.out)).1 (wanted_none rfl) rfl
    · intro w2 hb2 fr hout hin
      have h3 : fr.tmps.getD 3 undef = .pointer (some ⟨w.heap.size, 0, none⟩) := hout 3 (by decide)
      clear hout hin
      exact op_fieldI (.tmp 3) rfl (by omega) h3 (wanted_none rfl) rfl
    · intro w2 hb2 fr hout hin
      have h16 : fr.tmps.getD 16 undef = .pointer (some ⟨w.heap.size, 1, none⟩) := hin 16 (by decide) (by decide)
      clear hout hin
      exact op_loadSB (.tmp 16) rfl h16 (three_cells ((hb2.block _ (by rw [HSZ.out]; omega)).trans HP1.out)).2.1 (wanted_none rfl) rfl
    · intro w2 hb2 fr hout hin
      have h17 : fr.tmps.getD 17 undef = .slice a1 L c1 := hin 17 (by decide) (by decide)
      clear hout hin
      refine op_callT (R := fun w' v => Acc w' w2.heap.size v tb) (.tmp 17) (.const (.int .i64 400)) rfl en_keepTwin (wanted_none rfl) ?_ (fun _ _ h => h.mono' (by have := hb2.size; rw [HSZ.out] at this; exact this))
      rw [show fr.eval (.tmp 17) = _ from h17, HL.out]
      have := twin_a w2 (HRD.out.below hb2) HD1.out 400 (by omega) (by omega)
      rw [← HTB.out] at this
      exact this
    · intro w2 hb2 fr hout hin
      have h15 : fr.tmps.getD 15 undef = .bool l0 := hin 15 (by decide) (by decide)
      have h18 : Acc w2 (w.heap.size + 2) (fr.tmps.getD 18 undef) tb := hin 18 (by decide) (by decide)
      clear hout hin
      exact op_buildI (.tmp 15) (.tmp 18) rfl h15 (by obtain ⟨A, c, e⟩ := h18.form; exact ⟨A, _, c, e⟩) rfl (wanted_none rfl) ⟨_, rfl, h18⟩
    · intro w2 hb2 fr hout hin
      clear hout hin
      exact op_allocI (B := w.heap.size + 2) rfl (by have := hb2.size; rw [HSZ.out] at this; exact this) (wanted_none rfl) (fun _ _ h => h)
  intro w2 hb2
  refine relAsk_in (by rfl) ?_
  intro v14 h14
  obtain rfl : v14 = .pointer (some ⟨w.heap.size, 0, none⟩) := h14
  refine relAsk_in (by rfl) ?_
  intro v15 h15
  obtain rfl : v15 = .bool l0 := h15
  refine relAsk_in (by rfl) ?_
  intro v16 h16
  obtain rfl : v16 = .pointer (some ⟨w.heap.size, 1, none⟩) := h16
  refine relAsk_in (by rfl) ?_
  intro v17 h17
  obtain rfl : v17 = .slice a1 L c1 := h17
  refine relAsk_in (by rfl) ?_
  intro v18 h18
  refine relAsk_in (by rfl) ?_
  intro v19 h19
  obtain ⟨u19, rfl, hacc⟩ : ∃ u, v19 = .agg #[.bool l0, u, .slice none 0 0] ∧ Acc w2 (w.heap.size + 2) u tb := h19
  obtain ⟨A2, c2, rfl⟩ := hacc.form
  refine relAsk_in (by rfl) ?_
  intro v7 h7
  obtain ⟨X, rfl, hX, hXc⟩ : PItem (w.heap.size + 2) v7 w2 := h7
  refine relAsk_nil ?_
  clear h18
  have hXne : (Value.slice A2 tb.length c2).ownBlock ≠ some X := Acc.no hacc hXc
  obtain ⟨x0, x1, x2, y0, y1, y2⟩ := three_cells hXc
  have hsz2 : w.heap.size + 2 ≤ w2.heap.size := by have := hb2.size; rw [HSZ.out] at this; exact this
  have Z1 := item_set hXc (.bool l0) (.slice A2 tb.length c2) (.slice none 0 0)
  have Z2 : Tk (fun k => k = G) w (((w2.setCell ⟨X, 0, none⟩ (.bool l0)).setCell ⟨X, 1, none⟩ (.slice A2 tb.length c2)).setCell ⟨X, 2, none⟩ (.slice none 0 0)) :=
    (((HTK.out.then (hb2.mono (by rw [HSZ.out]; omega))).set X 0 _ (fun h => by omega)).set X 1 _ (fun h => by omega)).set X 2 _ (fun h => by omega)
  have Z3 : (((w2.setCell ⟨X, 0, none⟩ (.bool l0)).setCell ⟨X, 1, none⟩ (.slice A2 tb.length c2)).setCell ⟨X, 2, none⟩ (.slice none 0 0)).heap[G]? = some (.cells #[.int .i64 ((n - 1 : Nat) : Int)] 3 (0, 0)) :=
    (item_far (by have := HGL.out; omega)).trans ((hb2.block G (by rw [HSZ.out]; have := HGL.out; omega)).trans HG3.out)
  have Z4 := (item_far (w := w2) (a := .bool l0) (b := .slice A2 tb.length c2) (c := .slice none 0 0) (show w.heap.size ≠ X by omega)).trans ((hb2.block w.heap.size (by rw [HSZ.out]; omega)).trans HP1.out)
  have Z5 := (item_far (w := w2) (a := .bool l0) (b := .slice A2 tb.length c2) (c := .slice none 0 0) (show w.heap.size + 1 ≠ X by omega)).trans ((hb2.block (w.heap.size + 1) (by rw [HSZ.out]; omega)).trans HP2.out)
  have Z6 : Acc (((w2.setCell ⟨X, 0, none⟩ (.bool l0)).setCell ⟨X, 1, none⟩ (.slice A2 tb.length c2)).setCell ⟨X, 2, none⟩ (.slice none 0 0)) (w.heap.size + 2) (.slice A2 tb.length c2) tb := hacc.far fun k hk _ => item_far (fun e => hXne (by rw [hk, e]))
  have Z7 : X < (((w2.setCell ⟨X, 0, none⟩ (.bool l0)).setCell ⟨X, 1, none⟩ (.slice A2 tb.length c2)).setCell ⟨X, 2, none⟩ (.slice none 0 0)).heap.size := heap_lt2 Z1
  replace Z1 := Lib.hid Z1
  replace Z2 := Lib.hid Z2
  replace Z3 := Lib.hid Z3
  replace Z4 := Lib.hid Z4
  replace Z5 := Lib.hid Z5
  replace Z6 := Lib.hid Z6
  replace Z7 := Lib.hid Z7
  have HXX : Hid (w.heap.size + 2 ≤ X) := hX
  clear hXne hacc hXc hX hb2 hsz2 HTK HSZ HG3 HP1 HP2 HRD
  go_upto_region 3 with (fail)
  generalize hWe : (((w2.setCell ⟨X, 0, none⟩ (.bool l0)).setCell ⟨X, 1, none⟩ (.slice A2 tb.length c2)).setCell ⟨X, 2, none⟩ (.slice none 0 0)) = W3 at *
  clear hWe x0 x1 x2 y0 y1 y2
  obtain ⟨u0, u1, u2, u3, u4, u5⟩ := three_cells Z1.out
  obtain ⟨x0, x1, x2, -, -, -⟩ := three_cells Z4.out
  obtain ⟨r0, r1, r2, r3, r4, r5⟩ := three_cells Z5.out
  have HTR : Hid (∀ (W : World) (v : Value), Tk (fun k => k = G) w W → Tk (fun k => k = G) w (((W.setCell ⟨w.heap.size + 1, 0, none⟩ (.bool l0)).setCell ⟨w.heap.size + 1, 1, none⟩ (.slice A2 tb.length c2)).setCell ⟨w.heap.size + 1, 2, none⟩ v)) :=
    fun W v h => ((h.set (w.heap.size + 1) 0 _ (fun h => by omega)).set (w.heap.size + 1) 1 _ (fun h => by omega)).set (w.heap.size + 1) 2 _ (fun h => by omega)
  by_cases hdeep : l0 = true ∧ d ≠ 0
  rotate_left
  · have hq : twI d (.mk l0 bs xs) n = (.mk l0 tb [], n - 1) := by
      rw [HTB.out]
      cases d with
      | zero => rw [twI]
      | succ d => cases l0 with
        | true => exact absurd ⟨rfl, by omega⟩ hdeep
        | false => rw [twI]; simp
    have HQ := Lib.hid hq
    have HND := Lib.hid hdeep
    have HFL := Lib.hid ((IAt.flat l0 Z6.out HTD.out).move (w' := ((W3.setCell ⟨w.heap.size + 1, 0, none⟩ (.bool l0)).setCell ⟨w.heap.size + 1, 1, none⟩ (.slice A2 tb.length c2)).setCell ⟨w.heap.size + 1, 2, none⟩ (.slice none 0 0)) (S' := fun b => w.heap.size ≤ b) (by simp) (fun b _ h => by omega) (fun p hp hlt => below_cell_item (by omega)))
    clear hq hdeep
    cases l0 with
    | false =>
      go_wp2_with fail
      refine bodyPost_ret (results_item Try.results26 _ _ (w.heap.size + 1) _ _ _ rfl (item_set Z5.out _ _ _)) rfl ⟨HTR.out _ _ Z2.out, ?_, _, rfl, ?_⟩
      · rw [HQ.out]; exact (item_far (by have := HGL.out; omega)).trans Z3.out
      · rw [HQ.out]; exact HFL.out
    | true =>
      have hd0 : d = 0 := by
        have := HND.out
        rcases Nat.eq_zero_or_pos d with h | h
        · exact h
        · exact absurd ⟨rfl, by omega⟩ this
      subst hd0
      go_wp2_with fail
      refine bodyPost_ret (results_item Try.results26 _ _ (w.heap.size + 1) _ _ _ rfl (item_set Z5.out _ _ _)) rfl ⟨HTR.out _ _ Z2.out, ?_, _, rfl, ?_⟩
      · rw [HQ.out]; exact (item_far (by have := HGL.out; omega)).trans Z3.out
      · rw [HQ.out]; exact HFL.out
  · obtain ⟨rfl, hd0⟩ := hdeep
    obtain ⟨d', hde⟩ : ∃ d', d = d' + 1 := ⟨d - 1, by omega⟩
    have CR := Lib.hid (HREC.out d' hde)
    have d1 : ¬ (d : Int) = 0 := by omega
    have d2 : ((d : Int) == 0) = false := by simpa using d1
    have d3 : IntKind.i64.wrap ((d : Int) - 1) = ((d' : Nat) : Int) := by rw [IntWalk.i64_in _ (by have := HD.out; omega)]; omega
    have HDE := Lib.hid hde
    obtain ⟨B, cap, b, off, u, e2, hB, hcap, hu, hxs⟩ := HX1.out.inv2
    injection e2 with e1 e2 e3
    subst e1 e3
    have HM := Lib.hid e2
    have HBB := Lib.hid hB
    have HPC := Lib.hid (fun j x h => part_cells hu hxs (j := j) (x := x) h)
    obtain ⟨i0, hi, hz0, hz1, hz2⟩ : ∃ i, Try.prog.info? 56 = some i ∧ i.zero = some (.agg #[.bool false, .slice none 0 0, .slice none 0 0]) ∧ i.size = 3 ∧ i.bytes = 56 := by
      obtain ⟨i, hi, he⟩ := Option.map_eq_some_iff.1 infoIt
      injection he with h1 h2
      injection h2 with h2 h3
      exact ⟨i, hi, h1, h2, h3⟩
    have HXL : Hid (b1 = none → k1 = 0) := fun e => by
      rcases Nat.eq_zero_or_pos xs.length with h | h
      · show k1 = 0; omega
      · have := (hB h).1; rw [e] at this; cases this
    clear hde e2 hB hu hxs HREC hd0
    have hT0 : Hid (Tk (fun k => k = G ∨ k = X) W3 W3) := Tk.refl _ _
    go_upto_region 6 with (fail)
    clear u0 u1 u2 u3 u4 u5 x0 x1 x2 r0 r1 r2 r3 r4 r5
    go_loopw [8] (fun i wr => ∃ (j q : Nat) (ys : List Itm) (us : List Value) (v : Value), j ≤ k1 ∧ i = .int .i64 (j : Int) ∧ Hid (ys.length = j) ∧ Hid (twL (twI d') (xs.take j) (n - 1) = (ys, q)) ∧ Hid (wr.heap[X]? = some (.cells #[.bool true, .slice A2 tb.length c2, v] 56 (0, 0))) ∧ Hid (wr.heap[G]? = some (.cells #[.int .i64 (q : Int)] 3 (0, 0))) ∧ Hid (AccI wr W3.heap.size v us ys) ∧ Hid (Tk (fun k => k = G ∨ k = X) W3 wr))
      (fun i _ => k1 - (intOf i).toNat)
    case atStart => exact ⟨0, n - 1, [], [], _, by omega, rfl, by simp [Hid], by simp [Hid, twL], Z1.out, Z3.out, AccI.nil _ _, hT0.out⟩
    case round =>
      obtain ⟨j, q, ys, us, v, hj, rfl, hyl, htw, hcx, hcg, hacc, htk⟩ := hrel
      obtain ⟨BB, cc, rfl⟩ := hacc.out.form
      have hGX : G ≠ X ∧ G < w.heap.size := ⟨by have := HGL.out; have := HXX.out; omega, HGL.out⟩
      have hW3 : X < W3.heap.size := Z7.out
      have hWX : w.heap.size + 2 ≤ X := HXX.out
      have hws : W3.heap.size ≤ wr.heap.size := htk.out.size
      have htk0 : Tk (fun k => k = G) w wr := Z2.out.more htk.out (fun i hi hK => by rcases hK with h | h <;> omega)
      have hP := (htk.out.block w.heap.size (by omega) (by omega)).trans Z4.out
      have hR := (htk.out.block (w.heap.size + 1) (by omega) (by omega)).trans Z5.out
      have hq : j + q ≤ n - 1 := by
        have h := (twL_sz (twI d') 1000000 (fun x n => twI_sz d' x n) (xs.take j) (n - 1) (by have := HN.out; omega)).2.1
        rw [htw.out] at h
        have h2 := iszL_len ys
        have h3 := hyl.out
        have h4 : iszL ys + q ≤ n - 1 := h
        omega
      have hab : Acc wr (w.heap.size + 2) (.slice A2 tb.length c2) tb := Z6.out.far fun k hk hlt => htk.out.block k hlt (fun h => by
        rcases h with rfl | rfl
        · have := Acc.own Z6.out _ hk; omega
        · exact Acc.no Z6.out Z1.out hk)
      obtain ⟨x0, x1, x2, -, -, -⟩ := three_cells hP
      obtain ⟨gc, gf⟩ := int_cell hcg.out
      by_cases hgo : j < k1 ∧ 0 < q
      · obtain ⟨xi, hxi⟩ : ∃ x, xs[j]? = some x := ⟨_, List.getElem?_eq_getElem (by rw [← HM.out]; exact hgo.1)⟩
        obtain ⟨rfl, hg1, hgG⟩ := HBB.out (by rw [← HM.out]; omega)
        obtain ⟨l3, a3, n3, c3, a4, n4, c4, p0, p1, p2, hI1⟩ := HPC.out j xi hxi
        have p0 := (htk0.lift (p := ⟨b, off + j * 3, none⟩) hg1 (by show ¬ b = G; exact hgG.1)).trans p0
        have p1 := (htk0.lift (p := ⟨b, off + j * 3 + 1, none⟩) hg1 (by show ¬ b = G; exact hgG.1)).trans p1
        have p2 := (htk0.lift (p := ⟨b, off + j * 3 + 2, none⟩) hg1 (by show ¬ b = G; exact hgG.1)).trans p2
        have hI2 : IAt (fun b => b ≠ G) wr.drew (.agg #[.bool l3, .slice a3 n3 c3, .slice a4 n4 c4]) xi := ((htk0.item hI1 (fun i h => h.1)).mono (fun b _ h => h.1)).keep (Below.refl _ _).drew
        have C := Lib.hid (CR.out G q xi wr.drew _ hI2 hcg.out (by omega) (by have := HN.out; omega))
        obtain ⟨q', hq'⟩ : ∃ q', q' = (twI d' xi q).2 := ⟨_, rfl⟩
        obtain ⟨yi, hyi⟩ : ∃ y, y = (twI d' xi q).1 := ⟨_, rfl⟩
        have hnx : twL (twI d') (xs.take (j + 1)) (n - 1) = (ys ++ [yi], q') := by
          have h := twL_snoc (twI d') j xs (n - 1) xi hxi (by rw [htw.out]; show q ≠ 0; omega)
          rw [htw.out] at h
          rw [h, hq', hyi]
        have hj1 : (j : Int) < (k1 : Int) := by omega
        have hq1 : (0 : Int) < (q : Int) := by omega
        have ej : IntKind.i64.wrap ((j : Int) + 1) = (j : Int) + 1 := IntWalk.i64_in _ (by have := HN.out; omega)
        have HJ : Hid (j < k1 ∧ 0 < q ∧ j + q ≤ n - 1 ∧ n ≤ 1000000 ∧ W3.heap.size ≤ wr.heap.size ∧ X < W3.heap.size ∧ w.heap.size + 2 ≤ X ∧ G < w.heap.size) := ⟨hgo.1, hgo.2, hq, HN.out.2, hws, hW3, hWX, hGX.2⟩
        have HNX := Lib.hid hnx
        have HYI := Lib.hid hyi
        have HQ' := Lib.hid hq'
        have HA0 := Lib.hid hacc.out
        have HT0 := Lib.hid htk.out
        have HCX := Lib.hid hcx.out
        have HOWN : Hid (∀ k, (Value.slice BB ys.length cc).ownBlock = some k → W3.heap.size ≤ k ∧ k < wr.heap.size) := hacc.out.1.lt
        have HYL := Lib.hid hyl.out
        obtain ⟨m, hm⟩ : ∃ m, m = ys.length := ⟨_, rfl⟩
        have HMM := Lib.hid hm
        rw [← hm] at HCX HA0 HOWN
        obtain ⟨u0, u1, u2, -, -, -⟩ := three_cells HCX.out
        clear hgo hq hxi hg1 hgG hI1 hI2 hq' hyi hnx hacc htk htk0 hP hR hws hW3 hWX hGX hab hcx hcg htw hyl hm hj
        go_upto_region 8 with (fail)
        go_region_law (first
          | (refine step_call3 rfl 26 (.tmp 47) (.tmp 49) (.tmp 50) rfl en_twin _ rfl C.out ?_
             rintro e w5 ⟨htk5, hG5, v5, rfl, hi5⟩
             rw [← HQ'.out] at hG5
             rw [← HYI.out] at hi5
             obtain ⟨l6, a6, n6, c6, b6, m6, cp6, rfl⟩ := hi5.parts
             refine ⟨_, rfl, ?_⟩
             have hX5 := (htk5.block X (Nat.lt_of_lt_of_le HJ.out.2.2.2.2.2.1 HJ.out.2.2.2.2.1) (by have := HJ.out; omega)).trans HCX.out
             have hA5 := HA0.out.far (w' := w5) htk5.size (fun k hk hlt => htk5.block k hlt (by have := HJ.out; omega))
             have hX6 := (Below.heap_alloc w5 (.cells #[.bool l6, .slice a6 n6 c6, .slice b6 m6 cp6] 56) X (heap_lt2 hX5)).trans hX5
             have HX6 := Lib.hid hX6
             have HTK5 := Lib.hid htk5
             have HG5 := Lib.hid hG5
             have HI5 := Lib.hid hi5
             have HA6 := Lib.hid (hA5.below ((Below.refl w5.heap.size w5).alloc (Nat.le_refl _) (.cells #[.bool l6, .slice a6 n6 c6, .slice b6 m6 cp6] 56)))
             obtain ⟨s0, s1, s2, -, -, -⟩ := three_cells hX5
             obtain ⟨t0, t1, t2, -, -, -⟩ := three_cells hX6
             clear htk5 hG5 hi5 hX5 hA5 hX6)
          | (refine step_append_own_at rfl (.tmp 42) (.tmp 52) 54 rfl W3.heap.size 56 i0 (.agg #[.bool false, .slice none 0 0, .slice none 0 0]) 3 56 Try.underlying54 hi hz0 hz1 hz2 rfl (by decide) (.slice BB m cc) m us rfl (by have := HA6.out.1; rwa [← HMM.out] at this) ⟨w5.heap.size, 0, none⟩ 1 1 [.bool l6, .slice a6 n6 c6, .slice b6 m6 cp6] rfl rfl item_new (by intro u hu; simp at hu; rcases hu with rfl | rfl | rfl <;> rfl) (by have := HJ.out; have := HMM.out; have := HYL.out; unfold maxLen; omega) (by have := HJ.out; have := HMM.out; have := HYL.out; omega) (by have := HTK5.out.size; have h2 : wr.drew.heap.size = wr.heap.size := rfl; have := HJ.out; simp; omega) ?_
             intro v' w7 hown hg _ hat
             obtain ⟨A7, c7, rfl⟩ := own_form hown
             have hX7 := (hg.block X (heap_lt2 HX6.out) (fun e => by have := (HOWN.out X e.symm).1; have := HJ.out; omega)).trans HX6.out
             have HX7 := Lib.hid hX7
             have HO7 := Lib.hid hown
             have HG7 := Lib.hid hg
             have HAT := Lib.hid hat
             obtain ⟨z0, z1, z2, z3, z4, z5⟩ := three_cells hX7
             clear hown hg hat hX7))
        all_goals
          have hb6 : Below w5.heap.size w5 (w5.alloc (.cells #[.bool l6, .slice a6 n6 c6, .slice b6 m6 cp6] 56)) := (Below.refl _ _).alloc (Nat.le_refl _) _
          have hwd : wr.drew.heap.size = wr.heap.size := rfl
          have hs6 := hb6.size
          have hs5 := HTK5.out.size
          have hJ := HJ.out
          have N1 := (HA6.out.grow (lo := wr.heap.size) hJ.2.2.2.2.1 (fun k hk => (HOWN.out k (by rw [← hk, HMM.out])).2) (HI5.out.keep hb6) (by rw [← HMM.out]; exact HO7.out) (by have := HG7.out; rwa [HMM.out] at this) (by have := HAT.out; rwa [HMM.out] at this)).set (z := .slice A7 (m + 1) c7) (X := X) (i := 2) (by omega)
          have N2 := heap_setCell_same w7 X 2 _ _ (.slice A7 (m + 1) c7) HX7.out
          have N3 := (Below.heap_setCell w7 ⟨X, 2, none⟩ (.slice A7 (m + 1) c7) G (show G ≠ X by omega)).trans ((HG7.out.block G (by omega) (fun e => by have := (HOWN.out G e.symm).1; omega)).trans ((hb6.block G (heap_lt2 HG5.out)).trans HG5.out))
          have N4 := (((((HT0.out.more (Tk.of (Below.refl wr.heap.size wr).drew) (fun i _ h => h)).more HTK5.out (fun i _ h => .inl h)).then (hb6.mono (by omega))).grown HG7.out (fun k hk => (HOWN.out k hk).1)).set X 2 (.slice A7 (m + 1) c7) (fun _ => .inr rfl))
          have N1 := Lib.hid N1
          have N2 := Lib.hid N2
          have N3 := Lib.hid N3
          have N4 := Lib.hid N4
          clear hb6 hwd hs6 hs5 hJ s0 s1 s2 t0 t1 t2 u0 u1 u2 z0 z1 z2 z3 z4 z5 HO7 HG7 HAT HA6 HI5 HTK5 HG5 HX6 HX7 x0 x1 x2 gc gf p0 p1 p2
          go_simp
          go_wp2_with fail
          exact ⟨⟨j + 1, q', ys ++ [yi], _, _, by have := HJ.out; omega, by simp, (by show _ = _; rw [List.length_append, List.length_singleton, HYL.out]), HNX.out, by have := N2.out; simpa [Hid] using this, N3.out, N1.out, N4.out⟩, by simp [intOf]; have := HJ.out; omega⟩
      · have hfin : twL (twI d') xs (n - 1) = (ys, q) := by
          rcases Nat.lt_or_ge j k1 with h | h
          · rw [twL_stop (twI d') j xs (n - 1) (by rw [htw.out]; show q = 0; omega), htw.out]
          · have h2 := htw.out
            rwa [List.take_of_length_le (by have := HM.out; omega)] at h2
        have hq2 : twI d (.mk true bs xs) n = (.mk true tb ys, q) := by
          rw [HDE.out, twI, if_pos rfl, hfin, HTB.out]
        have HQ := Lib.hid hq2
        have HFL := Lib.hid ((AccI.join true (hacc.out.mono' (base' := w.heap.size + 2) (by omega)) hab HTD.out).move (w' := ((wr.setCell ⟨w.heap.size + 1, 0, none⟩ (.bool true)).setCell ⟨w.heap.size + 1, 1, none⟩ (.slice A2 tb.length c2)).setCell ⟨w.heap.size + 1, 2, none⟩ (.slice BB ys.length cc)) (S' := fun b => w.heap.size ≤ b) (by simp) (fun b _ h => by omega) (fun p hp hlt => below_cell_item (by omega)))
        have HRR := Lib.hid hR
        have HCG := Lib.hid hcg.out
        have HT0 := Lib.hid htk0
        have HNE : Hid (G ≠ w.heap.size + 1) := by show _ ≠ _; omega
        obtain ⟨u0, u1, u2, -, -, -⟩ := three_cells hcx.out
        obtain ⟨r0, r1, r2, r3, r4, r5⟩ := three_cells hR
        obtain ⟨m, hm⟩ : ∃ m, m = ys.length := ⟨_, rfl⟩
        rw [← hm] at u2 HFL
        clear hacc htk htk0 hP hR hws hW3 hWX hGX hab hcx hcg htw hyl hm hfin hq2 hq
        by_cases hjM : j < k1
        · have hj1 : (j : Int) < (k1 : Int) := by omega
          have hq0 : q = 0 := by omega
          subst hq0
          clear hgo
          go_wp2_with fail
          refine bodyPost_ret (results_item Try.results26 _ _ (w.heap.size + 1) _ _ _ rfl (item_set HRR.out _ _ _)) rfl ⟨HTR.out _ _ HT0.out, ?_, _, rfl, ?_⟩
          · rw [HQ.out]; exact (item_far HNE.out).trans HCG.out
          · rw [HQ.out]; exact HFL.out
        · have hj1 : ¬ (j : Int) < (k1 : Int) := by omega
          clear hgo
          go_wp2_with fail
          refine bodyPost_ret (results_item Try.results26 _ _ (w.heap.size + 1) _ _ _ rfl (item_set HRR.out _ _ _)) rfl ⟨HTR.out _ _ HT0.out, ?_, _, rfl, ?_⟩
          · rw [HQ.out]; exact (item_far HNE.out).trans HCG.out
          · rw [HQ.out]; exact HFL.out
/-- The laws' Twin of an item. -/
theorem twin_i : ∀ d : Nat, d ≤ 100000 → TwC d
  | 0, _ => twin_step 0 (by omega) (fun d' h => by omega)
  | d + 1, hd => twin_step (d + 1) hd (fun d' h => by
    obtain rfl : d' = d := by omega
    exact twin_i d' (by omega))
end Go.Proofs.Ytgjiealcjaojaaa
