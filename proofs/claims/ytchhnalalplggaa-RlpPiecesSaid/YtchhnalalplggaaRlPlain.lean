/- The laws' plain: an item without what is not looked at. -/
import Derived.Test.YtchhnalalplggaaRlCut
namespace Go.Proofs.Ytchhnalalplggaa
open Go.RowKit

/-- A slice of items that a call owns; the items lie below block N0 or in new memory. -/
def AccP (N0 : Nat) (w : World) (base : Nat) (v : Value) (us : List Value) (xs : List Itm) : Prop :=
  w.ownsRow base 25 3 v xs.length us ∧ ∀ (j : Nat) (x : Itm), xs[j]? = some x → IAt (fun b => (b < N0 ∨ base ≤ b) ∧ v.ownBlock ≠ some b) w (.agg #[us.getD (3 * j) undef, us.getD (3 * j + 1) undef, us.getD (3 * j + 2) undef]) x
theorem AccP.nil (N0 : Nat) (w : World) (base : Nat) : AccP N0 w base (.slice none 0 0) [] [] := ⟨World.ownsRow_nil _ _ _ _, fun j x h => by simp at h⟩
theorem AccP.form {N0 : Nat} {w : World} {base : Nat} {v : Value} {us : List Value} {xs : List Itm} (h : AccP N0 w base v us xs) : ∃ A c, v = .slice A xs.length c := by
  rcases h.1.2 with ⟨e, h0⟩ | ⟨g, cap, cur, e, _⟩
  · exact ⟨none, 0, by rw [e, h0]⟩
  · exact ⟨_, _, e⟩
theorem AccP.item {N0 : Nat} {w : World} {base : Nat} {B : Option Addr} {m cap : Nat} {us : List Value} {xs : List Itm} (h : AccP N0 w base (.slice B m cap) us xs) :
    IAt (fun b => b < N0 ∨ base ≤ b) w (.agg #[.bool true, .slice none 0 0, .slice B m cap]) (.list xs) := by
  have hl := h.1.1
  rcases h.1.2 with ⟨e, h0⟩ | ⟨g, cap', cur, e, hb, hg, hn, hm, hs, ht⟩
  · injection e with e1 e2 e3
    have : xs = [] := List.eq_nil_of_length_eq_zero h0
    subst e1 e2 e3 this
    exact .mk true none 0 none 0 0 0 (fun _ => undef) [] [] (Rd.nil _) Ds.nil (fun h => absurd h (by simp)) (fun h => absurd h (by simp)) (Nat.le_refl _) (fun _ => rfl) (fun j hj => absurd hj (by simp)) (fun j x hj => by simp at hj)
  · injection e with e1 e2 e3
    subst e1 e2 e3
    refine .mk true none 0 (some ⟨g, 0, none⟩) cap g 0 (fun j => us.getD j undef) [] xs (Rd.nil _) Ds.nil (fun h => absurd h (by simp)) (fun _ => ⟨rfl, (Array.getElem?_eq_some_iff.1 hg).1, .inr hb⟩) hn (fun e => by cases e) (fun j hj => ?_) (fun j x hj => (h.2 j x hj).mono fun _ _ h => h.1)
    rw [Nat.zero_add, cell_of_row w g j cur _ (0, 0) hg, ← Array.getElem?_toList]
    have h1 : us[j]? = cur.toList[j]? := by rw [← ht, List.getElem?_take_of_lt (by omega)]
    have h2 : us[j]? = some (us.getD j undef) := by
      rw [List.getD_eq_getElem?_getD, List.getElem?_eq_getElem (by omega)]; rfl
    rw [← h1, h2]
theorem AccP.own {N0 : Nat} {w : World} {base : Nat} {v : Value} {us : List Value} {xs : List Itm} (h : AccP N0 w base v us xs) : ∀ k, v.ownBlock = some k → base ≤ k := fun k hk => (h.1.lt k hk).1
theorem AccP.below {N0 : Nat} {w w' : World} {base : Nat} {v : Value} {us : List Value} {xs : List Itm} (h : AccP N0 w base v us xs) (hb : Below w.heap.size w w') : AccP N0 w' base v us xs := by
  refine ⟨⟨h.1.1, ?_⟩, fun j x hj => (h.2 j x hj).keep hb⟩
  rcases h.1.2 with h1 | ⟨g, cap, cur, e, hg, hh, r1, r2, r3, r4⟩
  · exact .inl h1
  · exact .inr ⟨g, cap, cur, e, hg, (hb.block g (Array.getElem?_eq_some_iff.1 hh).1).trans hh, r1, r2, r3, r4⟩
theorem AccP.set {N0 : Nat} {w : World} {base : Nat} {v z : Value} {us : List Value} {xs : List Itm} {X i : Nat} (h : AccP N0 w base v us xs) (h0 : N0 ≤ X) (hX : X < base) : AccP N0 (w.setCell ⟨X, i, none⟩ z) base v us xs :=
  ⟨ownsRow_setCell_other h.1 (a := ⟨X, i, none⟩) (fun e => by have := h.own X e; omega) _, fun j x hj => (h.2 j x hj).move (by simp) (fun _ _ h => h) fun p hp _ => World.cell?_of_block (w := w) (Below.heap_setCell _ _ _ _ (fun e => by have h1 := hp.1; have e2 : p.block = X := e; omega))⟩
/-- One item more. -/
theorem AccP.more {N0 : Nat} {w w' : World} {base : Nat} {v v' : Value} {us : List Value} {xs : List Itm} {x : Itm} {p q r : Value} (h : AccP N0 w base v us xs)
    (ho : w'.ownsRow base 25 3 v' (xs.length + 1) (us ++ [p, q, r])) (hi : ∀ (j : Nat) (x : Itm), xs[j]? = some x → IAt (fun b => (b < N0 ∨ base ≤ b) ∧ v'.ownBlock ≠ some b) w' (.agg #[us.getD (3 * j) undef, us.getD (3 * j + 1) undef, us.getD (3 * j + 2) undef]) x) (hx : IAt (fun b => (b < N0 ∨ base ≤ b) ∧ v'.ownBlock ≠ some b) w' (.agg #[p, q, r]) x) : AccP N0 w' base v' (us ++ [p, q, r]) (xs ++ [x]) := by
  have hl := h.1.1
  refine ⟨by simpa using ho, fun j y hj => ?_⟩
  rcases Nat.lt_or_ge j xs.length with hlt | hge
  · rw [List.getElem?_append_left hlt] at hj
    have := hi j y hj
    simp only [List.getD_eq_getElem?_getD] at this ⊢
    rw [List.getElem?_append_left (by omega), List.getElem?_append_left (by omega), List.getElem?_append_left (by omega)]
    exact this
  · rw [List.getElem?_append_right hge] at hj
    have h0 : j = xs.length := by
      rcases Nat.eq_zero_or_pos (j - xs.length) with h0 | h0
      · omega
      · rw [List.getElem?_eq_none (by simp; omega)] at hj; cases hj
    subst h0
    simp at hj
    subst hj
    have e0 : 3 * xs.length = us.length := by omega
    simp only [List.getD_eq_getElem?_getD, e0]
    rw [List.getElem?_append_right (by omega), List.getElem?_append_right (by omega), List.getElem?_append_right (by omega)]
    simp
    exact hx
theorem AccP.grow {N0 : Nat} {w w' : World} {base : Nat} {v v' : Value} {us : List Value} {xs : List Itm} {x : Itm} {p q r : Value} {lo : Nat} (h : AccP N0 w base v us xs) (h0 : N0 ≤ base) (hlo : base ≤ lo) (hv : ∀ k, v.ownBlock = some k → k < lo) (hx : IAt (fun b => b < N0 ∨ lo ≤ b) w (.agg #[p, q, r]) x)
    (ho : w'.ownsRow base 25 3 v' (xs.length + 1) (us ++ [p, q, r])) (hg : w.grownBy w' v.ownBlock) (hat : v'.ownBlock = v.ownBlock ∨ v'.ownBlock = some w.heap.size) : AccP N0 w' base v' (us ++ [p, q, r]) (xs ++ [x]) := by
  refine h.more ho (fun j y hj => (h.2 j y hj).move hg.size (fun b hb hS => ⟨hS.1, ?_⟩) fun p hp hlt => World.cell?_of_block (w := w) (hg.block _ hlt (Ne.symm hp.2))) (hx.move hg.size (fun b hb hS => ⟨hS.imp id (Nat.le_trans hlo), ?_⟩) fun p hp hlt => World.cell?_of_block (w := w) (hg.block _ hlt fun e => ?_))
  · rcases hat with e | e
    · rw [e]; exact hS.2
    · rw [e]; intro e2; injection e2 with e2; omega
  · rcases hat with e | e
    · rw [e]; intro e2; have := hv _ e2; have := h.own _ e2; omega
    · rw [e]; intro e2; injection e2 with e2; omega
  · have := hv _ e.symm
    have := h.own _ e.symm
    omega

theorem IAt.bare {S : Nat → Prop} {w : World} {p q r : Value} {l : Bool} {bs : List Nat} {xs : List Itm} (h : IAt S w (.agg #[p, q, r]) (.mk l bs xs)) : IAt S w (.agg #[p, q, .slice none 0 0]) (.mk l bs []) := by
  generalize hv : Value.agg #[p, q, r] = v at h
  cases h with
  | mk l A c B cap b off u bs xs hA hd hAb hB hc hn hu hx =>
    injection hv with hv
    have h0 : p = .bool l := by have := congrArg (fun z : Array Value => z[0]?) hv; simpa using this
    have h1 : q = .slice A bs.length c := by have := congrArg (fun z : Array Value => z[1]?) hv; simpa using this
    subst h0 h1
    exact .mk l A c none 0 0 0 (fun _ => undef) bs [] hA hd hAb (fun h => absurd h (by simp)) (Nat.le_refl _) (fun _ => rfl) (fun j hj => absurd hj (by simp)) (fun j x hj => by simp at hj)
theorem plainL_take : ∀ {i : Nat} {xs : List Itm} {x : Itm}, xs[i]? = some x → plainL (xs.take (i + 1)) = plainL (xs.take i) ++ [plainI x]
  | i, [], x, h => by simp at h
  | 0, y :: ys, x, h => by simp at h; subst h; simp [plainL]
  | i + 1, y :: ys, x, h => by
    simp only [List.getElem?_cons_succ] at h
    simp only [List.take_succ_cons, plainL, plainL_take h, List.cons_append]
theorem plainL_len : ∀ xs : List Itm, (plainL xs).length = xs.length
  | [] => by simp [plainL]
  | x :: xs => by simp [plainL, plainL_len xs]

/-- A call of a function of one argument, as one step of a region that draws. -/
theorem step_call1 {ops : Array Oper} {o : Oper} {a : Act} {w : World} {K : Act → World → Prop} {Q : Exit → Act → World → Prop} {E : Prop} (hgd : o.guard = none) (f : FuncId) (x : Operand) {tys : Array TypeId}
    (ho : o.op = .call { callee := .value (.func f), args := #[x], argTypes := tys }) (he : ∀ args w, (callFunc f args).run Try.prog w = .ok (.enter f args) w) {R : Ending → World → Prop} (args : Array Value) (ha : #[a.eval x] = args)
    (h : Calls Try.prog f args w R) (hR : ∀ e w', R e w' → ∃ v, e = .returned v ∧ K (a.put o.dst v) w') : if Region.wanted o (yielded ops a.tmps) = true then o.wp Try.prog a w K Q else E := by
  have hw : Region.wanted o (yielded ops a.tmps) = true := by simp [Region.wanted, hgd]
  rw [if_pos hw]
  subst ha
  have e : (execOp a.eval o).run Try.prog w = .ok (.enter f #[a.eval x]) w := by
    have hp : a.eval (.func f) = .func (.func f) #[] #[] := rfl
    have e := he #[a.eval x] w
    clear h hw hR
    generalize a.eval = p at *
    unfold execOp
    rw [ho]
    go_simp
  unfold Oper.wp
  rw [e]
  refine h.mono fun e w' hr => ?_
  obtain ⟨v, rfl, hk⟩ := hR e w' hr
  exact hk
theorem en_plain (args : Array Value) (w : World) : (callFunc 20 args).run Try.prog w = .ok (.enter 20 args) w := by go_simp

def PlC (x : Itm) : Prop := ∀ (N0 : Nat) (w : World) (vx : Value), N0 ≤ w.heap.size → IAt (fun b => b < N0) w vx x → isz x ≤ 1099511627776 →
  Calls Try.prog 20 #[vx] w (RetR (fun w' v => IAt (fun b => b < N0 ∨ w.heap.size ≤ b) w' v (plainI x)) w)

set_option maxRecDepth 100000 in
set_option maxHeartbeats 6400000 in
theorem plain_step (l : Bool) (bs : List Nat) (xs : List Itm) (ih : ∀ (j : Nat) (x : Itm), xs[j]? = some x → PlC x) : PlC (.mk l bs xs) := by
  intro N0 w vx hN0 hx hsz
  obtain ⟨l0, a1, m1, c1, b1, k1, cp1, rfl⟩ := hx.parts
  obtain ⟨hl0, ⟨a1', c1', hsl, hr1, hd1⟩, hit⟩ := hx.inv
  injection hl0 with hl0
  subst hl0
  injection hsl with e1 e2 e3
  subst e1 e2 e3
  have hbx : Below w.heap.size w ((w.alloc (.cells #[.bool l0, .slice a1 bs.length c1, .slice b1 k1 cp1] 25)).alloc (.cells #[.bool false, .slice none 0 0, .slice none 0 0] 25)) := ((Below.refl w.heap.size w).alloc (Nat.le_refl _) _).alloc (by simp) _
  have hp1 : ((w.alloc (.cells #[.bool l0, .slice a1 bs.length c1, .slice b1 k1 cp1] 25)).alloc (.cells #[.bool false, .slice none 0 0, .slice none 0 0] 25)).heap[w.heap.size]? = some (.cells #[.bool l0, .slice a1 bs.length c1, .slice b1 k1 cp1] 25 (0, 0)) := by
    rw [Below.heap_alloc _ _ _ (by simp)]
    exact heap_alloc_new w _
  have hp2 : ((w.alloc (.cells #[.bool l0, .slice a1 bs.length c1, .slice b1 k1 cp1] 25)).alloc (.cells #[.bool false, .slice none 0 0, .slice none 0 0] 25)).heap[w.heap.size + 1]? = some (.cells #[.bool false, .slice none 0 0, .slice none 0 0] 25 (0, 0)) := by
    have := heap_alloc_new (w.alloc (.cells #[.bool l0, .slice a1 bs.length c1, .slice b1 k1 cp1] 25)) (.cells #[.bool false, .slice none 0 0, .slice none 0 0] 25)
    simpa using this
  have hsz2 : ((w.alloc (.cells #[.bool l0, .slice a1 bs.length c1, .slice b1 k1 cp1] 25)).alloc (.cells #[.bool false, .slice none 0 0, .slice none 0 0] 25)).heap.size = w.heap.size + 2 := by simp
  have hx2 := hx.keep hbx
  have HX := Lib.hid hx
  have HX2 := Lib.hid hx2
  have HIH := Lib.hid ih
  have HIZ := Lib.hid hsz
  have HN0 := Lib.hid hN0
  have HD1 := Lib.hid hd1
  obtain ⟨Wz, hWz⟩ : ∃ W, W = ((w.alloc (.cells #[.bool l0, .slice a1 bs.length c1, .slice b1 k1 cp1] 25)).alloc (.cells #[.bool false, .slice none 0 0, .slice none 0 0] 25)) := ⟨_, rfl⟩
  rw [← hWz] at hp1 hp2 hbx hx2 hsz2 HX2
  have HWZ := Lib.hid hWz
  have HBX := Lib.hid hbx
  have HP1 := Lib.hid hp1
  have HP2 := Lib.hid hp2
  have HSZ := Lib.hid hsz2
  obtain ⟨L, hL⟩ : ∃ L, L = bs.length := ⟨_, rfl⟩
  have HL := Lib.hid hL
  clear hx hx2 ih hsz hN0 hd1 hr1 hit hbx hWz hsz2
  obtain ⟨x0, x1, x2, -, -, -⟩ := three_cells hp1
  obtain ⟨r0, r1, r2, r3, r4, r5⟩ := three_cells hp2
  clear hp1 hp2
  rw [← hL] at HX HX2 HP1 HWZ x1 ⊢
  clear hL
  go_enter Try.func20, Try.ntmps20
  go_upto_region 1 with (fail)
  rw [← HWZ.out]
  clear HWZ
  cases l0 with
  | false =>
    have HI := Lib.hid (HX2.out.bare.move (w' := ((Wz.setCell ⟨w.heap.size + 1, 0, none⟩ (.bool false)).setCell ⟨w.heap.size + 1, 1, none⟩ (.slice a1 L c1)).setCell ⟨w.heap.size + 1, 2, none⟩ (.slice none 0 0)) (S' := fun b => b < N0 ∨ w.heap.size ≤ b) (by simp) (fun b _ h => .inl h) (fun p hp hlt => below_cell_item (by have := HN0.out; omega)))
    go_wp2_with fail
    refine bodyPost_ret (results_item Try.results20 _ _ (w.heap.size + 1) _ _ _ rfl (item_set HP2.out _ _ _)) rfl ⟨_, rfl, ?_, below_item HBX.out (by omega) _ _ _⟩
    rw [plainI, if_neg (by simp)]
    exact HI.out
  | true =>
    obtain ⟨B, cap, b, off, u, e2, hB, hcap, hu, hxs⟩ := HX.out.inv2
    injection e2 with e1 e2 e3
    subst e1 e3
    have HM := Lib.hid e2
    have HBB := Lib.hid hB
    have HPC := Lib.hid (fun j x h => part_cells hu hxs (j := j) (x := x) h)
    obtain ⟨i0, hi, hz0, hz1, hz2⟩ : ∃ i, Try.prog.info? 25 = some i ∧ i.zero = some (.agg #[.bool false, .slice none 0 0, .slice none 0 0]) ∧ i.size = 3 ∧ i.bytes = 56 := by
      obtain ⟨i, hi, he⟩ := Option.map_eq_some_iff.1 infoIt
      injection he with h1 h2
      injection h2 with h2 h3
      exact ⟨i, hi, h1, h2, h3⟩
    have HK : Hid (k1 ≤ 1099511627776) := by
      have h1 := HIZ.out
      rw [isz] at h1
      have h2 := iszL_len xs
      show k1 ≤ _
      omega
    have HCX : Hid ((Wz.alloc (.cells #[.bool true, .slice none 0 0, .slice none 0 0] 25)).heap[Wz.heap.size]? = some (.cells #[.bool true, .slice none 0 0, .slice none 0 0] 25 (0, 0))) := heap_alloc_new Wz _
    have HB3 : Hid (Below Wz.heap.size Wz (Wz.alloc (.cells #[.bool true, .slice none 0 0, .slice none 0 0] 25))) := (Below.refl _ _).alloc (Nat.le_refl _) _
    obtain ⟨X, hX⟩ : ∃ X, X = Wz.heap.size := ⟨_, rfl⟩
    rw [← hX] at HCX HB3
    have HXE : Hid (X = Wz.heap.size ∧ X = w.heap.size + 2 ∧ N0 ≤ w.heap.size) := ⟨hX, by rw [hX, HSZ.out], HN0.out⟩
    clear e2 hB hu hxs hcap
    go_upto_region 5 with (fail)
    rw [← hX]
    clear hX x0 x1 x2 r0 r1 r2 r3 r4 r5
    go_loopw [4] (fun i wr => ∃ (j : Nat) (us : List Value) (v : Value), j ≤ k1 ∧ i = .int .i64 (j : Int) ∧ Hid (wr.heap[X]? = some (.cells #[.bool true, .slice none 0 0, v] 25 (0, 0))) ∧ Hid (AccP N0 wr (X + 1) v us (plainL (xs.take j))) ∧ Hid (Below X Wz wr))
      (fun i _ => k1 - (intOf i).toNat)
    case atStart => exact ⟨0, [], _, by omega, rfl, HCX.out, AccP.nil _ _ _, HB3.out⟩
    case round =>
      obtain ⟨j, us, v, hj, rfl, hcx, hacc, hbel⟩ := hrel
      obtain ⟨ys, hys⟩ : ∃ ys, ys = plainL (xs.take j) := ⟨_, rfl⟩
      rw [← hys] at hacc
      obtain ⟨BB, cc, rfl⟩ := hacc.out.form
      have hP := (hbel.out.block w.heap.size (by have := HXE.out; omega)).trans HP1.out
      have hR := (hbel.out.block (w.heap.size + 1) (by have := HXE.out; omega)).trans HP2.out
      have hXr := heap_lt2 hcx.out
      have hyl : ys.length = j := by rw [hys, plainL_len, List.length_take]; have := HM.out; omega
      obtain ⟨x0, x1, x2, -, -, -⟩ := three_cells hP
      by_cases hjM : j < k1
      · obtain ⟨xi, hxi⟩ : ∃ x, xs[j]? = some x := ⟨_, List.getElem?_eq_getElem (by rw [← HM.out]; exact hjM)⟩
        obtain ⟨rfl, hg1, hgG⟩ := HBB.out (by rw [← HM.out]; omega)
        obtain ⟨l3, a3, n3, c3, a4, n4, c4, p0, p1, p2, hI1⟩ := HPC.out j xi hxi
        have hbw : Below w.heap.size w wr := HBX.out.trans (hbel.out.mono (by have := HXE.out; omega))
        have p0 := (hbw.cell (p := ⟨b, off + j * 3, none⟩) hg1).trans p0
        have p1 := (hbw.cell (p := ⟨b, off + j * 3 + 1, none⟩) hg1).trans p1
        have p2 := (hbw.cell (p := ⟨b, off + j * 3 + 2, none⟩) hg1).trans p2
        have hiz : isz xi ≤ 1099511627776 := by
          have h1 := HIZ.out
          rw [isz] at h1
          have := isz_le hxi
          omega
        have C := Lib.hid (HIH.out j xi hxi N0 wr.drew _ (by have h2 : wr.drew.heap.size = wr.heap.size := rfl; have := HXE.out; omega) (hI1.keep hbw.drew) hiz)
        have hnx : plainL (xs.take (j + 1)) = ys ++ [plainI xi] := by rw [plainL_take hxi, hys]
        obtain ⟨yi, hyi⟩ : ∃ y, y = plainI xi := ⟨_, rfl⟩
        rw [← hyi] at hnx C
        have hj1 : (j : Int) < (k1 : Int) := by omega
        have ej : IntKind.i64.wrap ((j : Int) + 1) = (j : Int) + 1 := IntWalk.i64_in _ (by have := HK.out; omega)
        have HJ : Hid (j < k1 ∧ k1 ≤ 1099511627776 ∧ X < wr.heap.size ∧ X = w.heap.size + 2 ∧ N0 ≤ w.heap.size) := ⟨hjM, HK.out, hXr, HXE.out.2.1, HXE.out.2.2⟩
        have HNX := Lib.hid hnx
        have HA0 := Lib.hid hacc.out
        have HT0 := Lib.hid hbel.out
        have HCX := Lib.hid hcx.out
        have HOWN : Hid (∀ k, (Value.slice BB ys.length cc).ownBlock = some k → X + 1 ≤ k ∧ k < wr.heap.size) := hacc.out.1.lt
        have HYL := Lib.hid hyl
        obtain ⟨m, hm⟩ : ∃ m, m = ys.length := ⟨_, rfl⟩
        have HMM := Lib.hid hm
        rw [← hm] at HCX HA0 HOWN
        obtain ⟨u0, u1, u2, -, -, -⟩ := three_cells HCX.out
        clear hxi hg1 hgG hI1 hyi hnx hacc hbel hP hR hXr hcx hyl hm hj hjM hiz hys hbw
        go_upto_region 7 with (fail)
        go_region_law (first
          | (refine step_call1 rfl 20 (.tmp 25) rfl en_plain _ rfl C.out ?_
             rintro e w5 ⟨v5, rfl, hi5, hb5⟩
             obtain ⟨l6, a6, n6, c6, b6, m6, cp6, rfl⟩ := hi5.parts
             refine ⟨_, rfl, ?_⟩
             have hX5 := (hb5.block X HJ.out.2.2.1).trans HCX.out
             have hA5 := HA0.out.below ((Below.refl wr.heap.size wr).drew.trans hb5)
             have hX6 := (Below.heap_alloc w5 (.cells #[.bool l6, .slice a6 n6 c6, .slice b6 m6 cp6] 25) X (heap_lt2 hX5)).trans hX5
             have HX6 := Lib.hid hX6
             have HTK5 := Lib.hid hb5
             have HI5 := Lib.hid hi5
             have HA6 := Lib.hid (hA5.below ((Below.refl w5.heap.size w5).alloc (Nat.le_refl _) (.cells #[.bool l6, .slice a6 n6 c6, .slice b6 m6 cp6] 25)))
             obtain ⟨s0, s1, s2, -, -, -⟩ := three_cells hX5
             obtain ⟨t0, t1, t2, -, -, -⟩ := three_cells hX6
             clear hb5 hi5 hX5 hA5 hX6)
          | (refine step_append_own_at rfl (.tmp 20) (.tmp 27) 23 rfl (X + 1) 25 i0 (.agg #[.bool false, .slice none 0 0, .slice none 0 0]) 3 56 Try.underlying23 hi hz0 hz1 hz2 rfl (by decide) (.slice BB m cc) m us rfl (by have := HA6.out.1; rwa [← HMM.out] at this) ⟨w5.heap.size, 0, none⟩ 1 1 [.bool l6, .slice a6 n6 c6, .slice b6 m6 cp6] rfl rfl item_new (by intro u hu; simp at hu; rcases hu with rfl | rfl | rfl <;> rfl) (by have := HJ.out; have := HMM.out; have := HYL.out; unfold maxLen; omega) (by have := HJ.out; have := HMM.out; have := HYL.out; omega) (by have := HTK5.out.size; have h2 : wr.drew.heap.size = wr.heap.size := rfl; have := HJ.out; simp; omega) ?_
             intro v' w7 hown hg _ hat
             obtain ⟨A7, c7, rfl⟩ := own_form hown
             have hX7 := (hg.block X (heap_lt2 HX6.out) (fun e => by have := (HOWN.out X e.symm).1; have := HJ.out; omega)).trans HX6.out
             have HX7 := Lib.hid hX7
             have HO7 := Lib.hid hown
             have HG7 := Lib.hid hg
             have HAT := Lib.hid hat
             obtain ⟨z0, z1, z2, z3, z4, z5⟩ := three_cells hX7
             clear hown hg hat hX7))
        all_goals
          have hb6 : Below w5.heap.size w5 (w5.alloc (.cells #[.bool l6, .slice a6 n6 c6, .slice b6 m6 cp6] 25)) := (Below.refl _ _).alloc (Nat.le_refl _) _
          have hwd : wr.drew.heap.size = wr.heap.size := rfl
          have hs6 := hb6.size
          have hs5 := HTK5.out.size
          have hJ := HJ.out
          have N1 := (HA6.out.grow (lo := wr.heap.size) (by omega) (by omega) (fun k hk => (HOWN.out k (by rw [← hk, HMM.out])).2) (HI5.out.keep hb6) (by rw [← HMM.out]; exact HO7.out) (by have := HG7.out; rwa [HMM.out] at this) (by have := HAT.out; rwa [HMM.out] at this)).set (z := .slice A7 (m + 1) c7) (X := X) (i := 2) (by omega) (by omega)
          have N2 := heap_setCell_same w7 X 2 _ _ (.slice A7 (m + 1) c7) HX7.out
          have N4 := (((HT0.out.trans (((Below.refl wr.heap.size wr).drew.trans HTK5.out).mono (by omega))).trans (hb6.mono (by omega))).grown HG7.out (by omega) (fun k hk => by have := (HOWN.out k hk).1; omega)).setCell (p := ⟨X, 2, none⟩) (Nat.le_refl X) (.slice A7 (m + 1) c7)
          have N1 := Lib.hid N1
          have N2 := Lib.hid N2
          have N4 := Lib.hid N4
          clear hb6 hwd hs6 hs5 hJ s0 s1 s2 t0 t1 t2 u0 u1 u2 z0 z1 z2 z3 z4 z5 HO7 HG7 HAT HA6 HI5 HTK5 HX6 HX7 x0 x1 x2 p0 p1 p2
          go_simp
          go_wp2_with fail
          exact ⟨⟨j + 1, _, _, by have := HJ.out; omega, by simp, by have := N2.out; simpa [Hid] using this, by rw [HNX.out]; exact N1.out, N4.out⟩, by simp [intOf]; have := HJ.out; omega⟩
      · have hj1 : ¬ (j : Int) < (k1 : Int) := by omega
        have hfin : plainI (.mk true bs xs) = .list ys := by
          rw [plainI, if_pos rfl, hys, List.take_of_length_le (by have := HM.out; omega)]
        have HQ := Lib.hid hfin
        have HFL := Lib.hid (hacc.out.item.move (w' := ((wr.setCell ⟨w.heap.size + 1, 0, none⟩ (.bool true)).setCell ⟨w.heap.size + 1, 1, none⟩ (.slice none 0 0)).setCell ⟨w.heap.size + 1, 2, none⟩ (.slice BB ys.length cc)) (S' := fun b => b < N0 ∨ w.heap.size ≤ b) (by simp) (fun b _ h => by have := HXE.out; omega) (fun p hp hlt => below_cell_item (by have := HXE.out; omega)))
        have HRR := Lib.hid hR
        have HT0 := Lib.hid (HBX.out.trans (hbel.out.mono (by have := HXE.out; omega)))
        obtain ⟨u0, u1, u2, -, -, -⟩ := three_cells hcx.out
        obtain ⟨r0, r1, r2, r3, r4, r5⟩ := three_cells hR
        obtain ⟨m, hm⟩ : ∃ m, m = ys.length := ⟨_, rfl⟩
        rw [← hm] at u2 HFL
        clear hacc hbel hP hR hcx hyl hm hfin hys hjM
        go_wp2_with fail
        refine bodyPost_ret (results_item Try.results20 _ _ (w.heap.size + 1) _ _ _ rfl (item_set HRR.out _ _ _)) rfl ⟨_, rfl, ?_, below_item HT0.out (by omega) _ _ _⟩
        rw [HQ.out]; exact HFL.out
theorem plain_c : ∀ x, PlC x := Itm.ind fun l bs xs ih => plain_step l bs xs ih
end Go.Proofs.Ytchhnalalplggaa
