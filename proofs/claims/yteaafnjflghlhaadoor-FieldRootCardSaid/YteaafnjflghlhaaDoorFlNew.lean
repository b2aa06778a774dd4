/- Package field's New: a field is made. -/
import Derived.Test.YteaafnjflghlhaaDoorFlReduce
import Derived.Test.YteaafnjflghlhaaDoorFlText
import Derived.Test.YteaafnjflghlhaaDoorFlNumber
import Derived.Test.YteaafnjflghlhaaDoorNStrip
import Derived.Test.YteaafnjflghlhaaDoorWordBits
import Derived.Test.YteaafnjflghlhaaDoorRBit
import Derived.Test.YteaafnjflghlhaaDoorRFrom
import Derived.Test.YteaafnjflghlhaaDoorNDivMod
import Derived.Test.YteaafnjflghlhaaDoorFlLine
import Derived.Deep.QuietTactic
import Derived.Deep.DeepCutAuto
import Derived.Deep.CutBlock
namespace Go.Proofs.YteaafnjflghlhaaDoor
open Go.RowKit

/-- A call of a function of one argument, as one step of a region that draws. -/
theorem step_call1 {ops : Array Oper} {o : Oper} {a : Act} {w : World} {K : Act → World → Prop} {Q : Exit → Act → World → Prop} {E : Prop} (hgd : o.guard = none) (f : FuncId) (x : Operand) {tys : Array TypeId}
    (ho : o.op = .call { callee := .value (.func f), args := #[x], argTypes := tys }) (he : ∀ args w, (callFunc f args).run Tryd.prog w = .ok (.enter f args) w) {R : Ending → World → Prop} (args : Array Value) (ha : #[a.eval x] = args)
    (h : Calls Tryd.prog f args w R) (hR : ∀ e w', R e w' → ∃ v, e = .returned v ∧ K (a.put o.dst v) w') : if Region.wanted o (yielded ops a.tmps) = true then o.wp Tryd.prog a w K Q else E := by
  have hw : Region.wanted o (yielded ops a.tmps) = true := by simp [Region.wanted, hgd]
  rw [if_pos hw]
  subst ha
  have e : (execOp a.eval o).run Tryd.prog w = .ok (.enter f #[a.eval x]) w := by
    have hp : a.eval (.func f) = .func (.func f) #[] #[] := rfl
    have e := he #[a.eval x] w
    clear h hw hR
    generalize a.eval = p at *
    unfold execOp
    rw [ho]
    go_simp
  unfold Oper.wp
  rw [e]
  refine h.mono fun e w' hr => ?_
  obtain ⟨v, rfl, hk⟩ := hR e w' hr
  exact hk
/-- A call of a function of two arguments, as one step of a region that draws. -/
theorem step_call2 {ops : Array Oper} {o : Oper} {a : Act} {w : World} {K : Act → World → Prop} {Q : Exit → Act → World → Prop} {E : Prop} (hgd : o.guard = none) (f : FuncId) (x y : Operand) {tys : Array TypeId}
    (ho : o.op = .call { callee := .value (.func f), args := #[x, y], argTypes := tys }) (he : ∀ args w, (callFunc f args).run Tryd.prog w = .ok (.enter f args) w) {R : Ending → World → Prop} (args : Array Value) (ha : #[a.eval x, a.eval y] = args)
    (h : Calls Tryd.prog f args w R) (hR : ∀ e w', R e w' → ∃ v, e = .returned v ∧ K (a.put o.dst v) w') : if Region.wanted o (yielded ops a.tmps) = true then o.wp Tryd.prog a w K Q else E := by
  have hw : Region.wanted o (yielded ops a.tmps) = true := by simp [Region.wanted, hgd]
  rw [if_pos hw]
  subst ha
  have e : (execOp a.eval o).run Tryd.prog w = .ok (.enter f #[a.eval x, a.eval y]) w := by
    have hp : a.eval (.func f) = .func (.func f) #[] #[] := rfl
    have e := he #[a.eval x, a.eval y] w
    clear h hw hR
    generalize a.eval = p at *
    unfold execOp
    rw [ho]
    go_simp
  unfold Oper.wp
  rw [e]
  refine h.mono fun e w' hr => ?_
  obtain ⟨v, rfl, hk⟩ := hR e w' hr
  exact hk

/-- A number boxed: six cells of a new block. -/
abbrev Box6 (w : World) (x0 x1 x2 x3 x4 x5 : Nat) : World := w.alloc (.cells #[.int .u64 (x0 : Nat), .int .u64 (x1 : Nat), .int .u64 (x2 : Nat), .int .u64 (x3 : Nat), .int .u64 (x4 : Nat), .int .u64 (x5 : Nat)] 24)
theorem box6 (w : World) (x0 x1 x2 x3 x4 x5 : Nat) : L6 (Box6 w x0 x1 x2 x3 x4 x5) w.heap.size 0 x0 x1 x2 x3 x4 x5 ∧ (∀ k, (Box6 w x0 x1 x2 x3 x4 x5).frozen? ⟨w.heap.size, k, none⟩ = false) ∧ Below w.heap.size w (Box6 w x0 x1 x2 x3 x4 x5) ∧ (Box6 w x0 x1 x2 x3 x4 x5).heap.size = w.heap.size + 1 := by
  obtain ⟨h1, h2⟩ := six_new (heap_alloc_new w (.cells #[.int .u64 (x0 : Nat), .int .u64 (x1 : Nat), .int .u64 (x2 : Nat), .int .u64 (x3 : Nat), .int .u64 (x4 : Nat), .int .u64 (x5 : Nat)] 24))
  exact ⟨h1, h2, (Below.refl _ _).alloc (Nat.le_refl _) _, by simp⟩

set_option maxRecDepth 100000 in
set_option maxHeartbeats 3200000 in
theorem fsize_c {P L B : Nat} (w : World) (hL : L = 4 ∨ L = 6) (hF : FldAt P L w B) :
    Calls Tryd.prog 43 #[.pointer (some ⟨B, 0, none⟩)] w fun e w' => e = .returned (.int .i64 ((8 * L : Nat) : Int)) ∧ w' = w := by
  obtain ⟨p0, p1, p2, p3, p4, p5, v, o0, o1, o2, o3, o4, o5, q0, q1, q2, q3, q4, q5, hC⟩ := hF
  have hc := hC.hL
  clear hC
  rcases hL with rfl | rfl <;>
  · go_enter Tryd.func43, Tryd.ntmps43
    go_wp2_with fail
    go_ret
    exact ⟨rfl, rfl⟩

/-- Six cells of a block, none of them frozen. -/
def Six (w : World) (g x0 x1 x2 x3 x4 x5 : Nat) : Prop := L6 w g 0 x0 x1 x2 x3 x4 x5 ∧ ∀ k, w.frozen? ⟨g, k, none⟩ = false
theorem Six.keepB {w w' : World} {g x0 x1 x2 x3 x4 x5 : Nat} (h : Six w g x0 x1 x2 x3 x4 x5) (hb : w'.heap[g]? = w.heap[g]?) : Six w' g x0 x1 x2 x3 x4 x5 :=
  ⟨h.1.keepB hb, fun k => (World.frozen?_of_block (w := w) (a := ⟨g, k, none⟩) hb).trans (h.2 k)⟩
theorem Six.cells {w : World} {g x0 x1 x2 x3 x4 x5 : Nat} (h : Six w g x0 x1 x2 x3 x4 x5) :
    (w.cell? ⟨g, 0, none⟩ = some (.int .u64 (x0 : Nat)) ∧ w.cell? ⟨g, 1, none⟩ = some (.int .u64 (x1 : Nat)) ∧ w.cell? ⟨g, 2, none⟩ = some (.int .u64 (x2 : Nat)) ∧ w.cell? ⟨g, 3, none⟩ = some (.int .u64 (x3 : Nat)) ∧ w.cell? ⟨g, 4, none⟩ = some (.int .u64 (x4 : Nat)) ∧ w.cell? ⟨g, 5, none⟩ = some (.int .u64 (x5 : Nat))) ∧
    w.frozen? ⟨g, 0, none⟩ = false ∧ w.frozen? ⟨g, 1, none⟩ = false ∧ w.frozen? ⟨g, 2, none⟩ = false ∧ w.frozen? ⟨g, 3, none⟩ = false ∧ w.frozen? ⟨g, 4, none⟩ = false ∧ w.frozen? ⟨g, 5, none⟩ = false :=
  ⟨⟨h.1.c0, h.1.c1, h.1.c2, h.1.c3, h.1.c4, h.1.c5⟩, h.2 0, h.2 1, h.2 2, h.2 3, h.2 4, h.2 5⟩
/-- A number boxed, and a cell for the answer. -/
theorem box_zero {w X : World} {x0 x1 x2 x3 x4 x5 : Nat} (hX : X = (w.alloc (.cells #[.int .u64 (x0 : Nat), .int .u64 (x1 : Nat), .int .u64 (x2 : Nat), .int .u64 (x3 : Nat), .int .u64 (x4 : Nat), .int .u64 (x5 : Nat)] 24)).alloc (.cells #[.int .u64 0, .int .u64 0, .int .u64 0, .int .u64 0, .int .u64 0, .int .u64 0] 24)) :
    Six X w.heap.size x0 x1 x2 x3 x4 x5 ∧ Six X (w.heap.size + 1) 0 0 0 0 0 0 ∧ Below w.heap.size w X ∧ X.heap.size = w.heap.size + 2 := by
  subst hX
  refine ⟨six_new ((Below.heap_alloc _ _ _ (by simp)).trans (heap_alloc_new w _)), ?_, ((Below.refl _ _).alloc (Nat.le_refl _) _).alloc (by simp) _, by simp⟩
  have h := heap_alloc_new (w.alloc (.cells #[.int .u64 (x0 : Nat), .int .u64 (x1 : Nat), .int .u64 (x2 : Nat), .int .u64 (x3 : Nat), .int .u64 (x4 : Nat), .int .u64 (x5 : Nat)] 24)) (.cells #[.int .u64 0, .int .u64 0, .int .u64 0, .int .u64 0, .int .u64 0, .int .u64 0] 24)
  have e : (w.alloc (.cells #[.int .u64 (x0 : Nat), .int .u64 (x1 : Nat), .int .u64 (x2 : Nat), .int .u64 (x3 : Nat), .int .u64 (x4 : Nat), .int .u64 (x5 : Nat)] 24)).heap.size = w.heap.size + 1 := by simp
  rw [e] at h
  exact six_new h
theorem new_zero {w X : World} (hX : X = w.alloc (.cells #[.int .u64 0, .int .u64 0, .int .u64 0, .int .u64 0, .int .u64 0, .int .u64 0] 24)) :
    Six X w.heap.size 0 0 0 0 0 0 ∧ Below w.heap.size w X ∧ X.heap.size = w.heap.size + 1 := by
  subst hX
  exact ⟨six_new (heap_alloc_new w _), (Below.refl _ _).alloc (Nat.le_refl _) _, by simp⟩

set_option maxRecDepth 100000 in
theorem en_size (args : Array Value) (w : World) : (callFunc 43 args).run Tryd.prog w = .ok (.enter 43 args) w := by go_simp
set_option maxRecDepth 100000 in
theorem en_text (args : Array Value) (w : World) : (callFunc 45 args).run Tryd.prog w = .ok (.enter 45 args) w := by go_simp

set_option maxRecDepth 100000 in
set_option maxHeartbeats 3200000 in
theorem fencode_c {P L B x0 x1 x2 x3 x4 x5 : Nat} (w : World) (hk : FNum P L) (hF : FldAt P L w B) (lx : Lim6 x0 x1 x2 x3 x4 x5) :
    Calls Tryd.prog 23 #[.pointer (some ⟨B, 0, none⟩), W6 x0 x1 x2 x3 x4 x5] w fun e w' => ∃ g zs, e = .returned (.slice (some ⟨g, 0, none⟩) (8 * L) (8 * L)) ∧ zs.length = 8 * L ∧ Ds 256 zs ∧ (∀ j, j < 8 * L → zs.getD j 0 = n6 x0 x1 x2 x3 x4 x5 % P / 256 ^ (8 * L - 1 - j) % 256) ∧ Row .u8 w' g 5 zs ∧ Below w.heap.size w w' := by
  obtain ⟨ha, hf, hb, hs⟩ := box6 w x0 x1 x2 x3 x4 x5
  have hBl := hF.lt
  have C := Lib.hid (freduce_c _ hk (hF.below hb hBl) ha lx hf (by omega))
  have HF := Lib.hid hF
  have HK := Lib.hid hk
  have HB := Lib.hid hb
  have HS := Lib.hid hs
  have HBL := Lib.hid hBl
  clear ha hf hb hs hk hF lx hBl
  go_enter Tryd.func23, Tryd.ntmps23
  go_upto_region 1 with (fail)
  go_wp2_with fail
  (with_reducible refine (C.out).mono ?_)
  rintro e w3 ⟨rfl, hg, s0, s1, s2, s3, s4, s5, hs, ls, es⟩
  have hbw := HB.out.trans (hg.below (b := w.heap.size) (Nat.le_refl _) (by rw [HS.out]; omega))
  obtain ⟨c0, c1, c2, c3, c4, c5⟩ := hs
  have HG := Lib.hid hbw
  have HLS := Lib.hid ls
  have HES := Lib.hid es
  have CS : Hid (∀ n : Nat, _) := fun n => fsize_c (P := P) (L := L) (B := B) (w3.drewN n) HK.out.limbs ((HF.out.below hbw HBL.out).keepB rfl)
  have CT : Hid (∀ n : Nat, _) := fun n => ftext_c (N := 8 * L) (w3.drewN n) HLS.out (by rcases HK.out.limbs with e | e <;> omega)
  simp only [Nat.zero_add] at c1 c2 c3 c4 c5
  clear hg hbw ls es C HB HS HF HK
  go_upto_region 2 with (fail)
  go_region_law (first
    | (refine step_call1 rfl 43 (.tmp 8) rfl en_size _ rfl (CS.out 1) ?_
       rintro e w4 ⟨rfl, rfl⟩
       refine ⟨_, rfl, ?_⟩)
    | (refine step_call2 rfl 45 (.tmp 7) (.tmp 9) rfl en_text _ rfl (CT.out 1) ?_
       rintro e w4 ⟨rfl, zs, h1, h2, h3, h4, h5⟩
       refine ⟨_, rfl, ?_⟩
       have HT := Lib.hid (And.intro h1 (And.intro h2 (And.intro h3 (And.intro h4 h5))))
       clear h1 h2 h3 h4 h5))
  all_goals
    go_wp2_with fail
    go_ret
    obtain ⟨h1, h2, h3, h4, h5⟩ := HT.out
    refine ⟨_, zs, rfl, h1, h2, fun j hj => ?_, h4, HG.out.trans (h5.mono (by show w.heap.size ≤ (w3.drewN 1).heap.size; exact HG.out.size) |> fun h => ⟨h.os, h.tape, h.output, h.size, h.block⟩)⟩
    rw [h3 j hj, HES.out]
end Go.Proofs.YteaafnjflghlhaaDoor
namespace Go.Proofs.YteaafnjflghlhaaDoor
open Go.RowKit

/-- A number put into six cells. -/
abbrev Put (X : World) (g s0 s1 s2 s3 s4 s5 : Nat) : World := (((((X.setCell ⟨g, 0, none⟩ (.int .u64 (s0 : Nat))).setCell ⟨g, 1, none⟩ (.int .u64 (s1 : Nat))).setCell ⟨g, 2, none⟩ (.int .u64 (s2 : Nat))).setCell ⟨g, 3, none⟩ (.int .u64 (s3 : Nat))).setCell ⟨g, 4, none⟩ (.int .u64 (s4 : Nat))).setCell ⟨g, 5, none⟩ (.int .u64 (s5 : Nat))
theorem put_end {g z0 z1 z2 z3 z4 z5 : Nat} {X Y : World} (hz : Six X g z0 z1 z2 z3 z4 z5) (s0 s1 s2 s3 s4 s5 : Nat) (hY : Y = (((((X.setCell ⟨g, 0, none⟩ (.int .u64 (s0 : Nat))).setCell ⟨g, 1, none⟩ (.int .u64 (s1 : Nat))).setCell ⟨g, 2, none⟩ (.int .u64 (s2 : Nat))).setCell ⟨g, 3, none⟩ (.int .u64 (s3 : Nat))).setCell ⟨g, 4, none⟩ (.int .u64 (s4 : Nat))).setCell ⟨g, 5, none⟩ (.int .u64 (s5 : Nat))) :
    (Y.cell? ⟨g, 0, none⟩ = some (.int .u64 (s0 : Nat)) ∧ Y.cell? ⟨g, 1, none⟩ = some (.int .u64 (s1 : Nat)) ∧ Y.cell? ⟨g, 2, none⟩ = some (.int .u64 (s2 : Nat)) ∧ Y.cell? ⟨g, 3, none⟩ = some (.int .u64 (s3 : Nat)) ∧ Y.cell? ⟨g, 4, none⟩ = some (.int .u64 (s4 : Nat)) ∧ Y.cell? ⟨g, 5, none⟩ = some (.int .u64 (s5 : Nat))) ∧ Below g X Y := by
  have h := put_six hz.1 s0 s1 s2 s3 s4 s5
  simp only [Nat.zero_add] at h
  rw [← hY] at h
  obtain ⟨hp, y0, y1, y2, y3, y4, y5⟩ := h
  simp only [Nat.zero_add] at y1 y2 y3 y4 y5
  exact ⟨⟨y0, y1, y2, y3, y4, y5⟩, hp.os, hp.tape, hp.output, Nat.le_of_eq hp.size.symm, fun k hk => hp.block k (by omega)⟩

set_option maxRecDepth 100000 in
set_option maxHeartbeats 3200000 in
theorem fmodulus_c {P L B : Nat} (w : World) (hF : FldAt P L w B) :
    Calls Tryd.prog 51 #[.pointer (some ⟨B, 0, none⟩)] w fun e w' => ∃ p0 p1 p2 p3 p4 p5, e = .returned (W6 p0 p1 p2 p3 p4 p5) ∧ Lim6 p0 p1 p2 p3 p4 p5 ∧ n6 p0 p1 p2 p3 p4 p5 = P ∧ Below w.heap.size w w' := by
  obtain ⟨p0, p1, p2, p3, p4, p5, v, o0, o1, o2, o3, o4, o5, q0, q1, q2, q3, q4, q5, hC⟩ := hF
  obtain ⟨X, hX⟩ : ∃ X, X = w.alloc (.cells #[.int .u64 0, .int .u64 0, .int .u64 0, .int .u64 0, .int .u64 0, .int .u64 0] 24) := ⟨_, rfl⟩
  obtain ⟨hz, gW, hs⟩ := new_zero hX
  obtain ⟨c0, c1, c2, c3, c4, c5⟩ := (hC.keepB (gW.block B hC.hp.lt)).hp
  have HZ := Lib.hid hz
  obtain ⟨⟨y0, y1, y2, y3, y4, y5⟩, f0, f1, f2, f3, f4, f5⟩ := hz.cells
  have HC := Lib.hid hC
  have HX := Lib.hid hX
  have HG := Lib.hid gW
  have HS := Lib.hid hs
  simp only [Nat.zero_add] at c1 c2 c3 c4 c5
  clear hC hX gW hz hs
  go_enter Tryd.func51, Tryd.ntmps51
  go_upto_region 1 with (fail)
  rw [← HX.out]
  go_wp2_with fail
  have gW := HG.out
  clear y0 y1 y2 y3 y4 y5 f0 f1 f2 f3 f4 f5
  obtain ⟨Y, hY⟩ : ∃ Y, Y = (((((X.setCell ⟨w.heap.size, 0, none⟩ (.int .u64 (p0 : Nat))).setCell ⟨w.heap.size, 1, none⟩ (.int .u64 (p1 : Nat))).setCell ⟨w.heap.size, 2, none⟩ (.int .u64 (p2 : Nat))).setCell ⟨w.heap.size, 3, none⟩ (.int .u64 (p3 : Nat))).setCell ⟨w.heap.size, 4, none⟩ (.int .u64 (p4 : Nat))).setCell ⟨w.heap.size, 5, none⟩ (.int .u64 (p5 : Nat)) := ⟨_, rfl⟩
  rw [← hY]
  obtain ⟨⟨y0, y1, y2, y3, y4, y5⟩, hb⟩ := put_end HZ.out p0 p1 p2 p3 p4 p5 hY
  clear hY
  exact bodyPost_ret (v := W6 p0 p1 p2 p3 p4 p5) (by simp [results, Tryd.results51, go_sem, y0, y1, y2, y3, y4, y5]) rfl ⟨p0, p1, p2, p3, p4, p5, rfl, HC.out.lp, HC.out.np, gW.trans (hb.mono (by omega))⟩

set_option maxRecDepth 100000 in
set_option maxHeartbeats 3200000 in
theorem fReduce_c {P L B x0 x1 x2 x3 x4 x5 : Nat} (w : World) (hk : FNum P L) (hF : FldAt P L w B) (lx : Lim6 x0 x1 x2 x3 x4 x5) :
    Calls Tryd.prog 17 #[.pointer (some ⟨B, 0, none⟩), W6 x0 x1 x2 x3 x4 x5] w fun e w' => ∃ s0 s1 s2 s3 s4 s5, e = .returned (W6 s0 s1 s2 s3 s4 s5) ∧ Lim6 s0 s1 s2 s3 s4 s5 ∧ n6 s0 s1 s2 s3 s4 s5 = n6 x0 x1 x2 x3 x4 x5 % P ∧ Below w.heap.size w w' := by
  obtain ⟨X, hX⟩ : ∃ X, X = (w.alloc (.cells #[.int .u64 (x0 : Nat), .int .u64 (x1 : Nat), .int .u64 (x2 : Nat), .int .u64 (x3 : Nat), .int .u64 (x4 : Nat), .int .u64 (x5 : Nat)] 24)).alloc (.cells #[.int .u64 0, .int .u64 0, .int .u64 0, .int .u64 0, .int .u64 0, .int .u64 0] 24) := ⟨_, rfl⟩
  obtain ⟨ha, hz, hb, hs⟩ := box_zero hX
  have hBl := hF.lt
  have C := Lib.hid (freduce_c X hk (hF.below hb hBl) ha.1 lx ha.2 (by omega))
  have HX := Lib.hid hX
  have HB := Lib.hid hb
  have HZ := Lib.hid hz
  have HS := Lib.hid hs
  clear hX ha hz hb hs hk hF lx hBl
  go_enter Tryd.func17, Tryd.ntmps17
  go_upto_region 1 with (fail)
  rw [← HX.out]
  go_wp2_with fail
  (with_reducible refine (C.out).mono ?_)
  rintro e w3 ⟨rfl, hg, s0, s1, s2, s3, s4, s5, hs, ls, es⟩
  obtain ⟨c0, c1, c2, c3, c4, c5⟩ := hs
  have hz3 := HZ.out.keepB (hg.block _ (by rw [HS.out]; omega) (by omega))
  obtain ⟨⟨y0, y1, y2, y3, y4, y5⟩, f0, f1, f2, f3, f4, f5⟩ := hz3.cells
  have HZ3 := Lib.hid hz3
  have HG := Lib.hid (HB.out.trans (hg.below (b := w.heap.size) (Nat.le_refl _) (by rw [HS.out]; omega)))
  have HSZ := Lib.hid (Nat.le_trans (Nat.le_of_eq HS.out.symm) hg.size)
  have HLS := Lib.hid ls
  have HES := Lib.hid es
  simp only [Nat.zero_add] at c1 c2 c3 c4 c5
  clear hz3 hg ls es C HX HZ HB HS
  go_wp2_with fail
  clear y0 y1 y2 y3 y4 y5 f0 f1 f2 f3 f4 f5
  have HZ := HZ3
  have gW := HG.out
  have gS := HSZ.out
  obtain ⟨Y, hY⟩ : ∃ Y, Y = (((((w3.setCell ⟨w.heap.size + 1, 0, none⟩ (.int .u64 (s0 : Nat))).setCell ⟨w.heap.size + 1, 1, none⟩ (.int .u64 (s1 : Nat))).setCell ⟨w.heap.size + 1, 2, none⟩ (.int .u64 (s2 : Nat))).setCell ⟨w.heap.size + 1, 3, none⟩ (.int .u64 (s3 : Nat))).setCell ⟨w.heap.size + 1, 4, none⟩ (.int .u64 (s4 : Nat))).setCell ⟨w.heap.size + 1, 5, none⟩ (.int .u64 (s5 : Nat)) := ⟨_, rfl⟩
  rw [← hY]
  obtain ⟨⟨y0, y1, y2, y3, y4, y5⟩, hb⟩ := put_end HZ.out s0 s1 s2 s3 s4 s5 hY
  clear hY
  exact bodyPost_ret (v := W6 s0 s1 s2 s3 s4 s5) (by simp [results, Tryd.results17, go_sem, y0, y1, y2, y3, y4, y5]) rfl ⟨s0, s1, s2, s3, s4, s5, rfl, HLS.out, HES.out, gW.trans (hb.mono (by omega))⟩

end Go.Proofs.YteaafnjflghlhaaDoor
namespace Go.Proofs.YteaafnjflghlhaaDoor
open Go.RowKit

/-- What Decode tells: a number and why not. -/
def DecF (P L : Nat) (bs : List Nat) (w : World) (e : Ending) (w' : World) : Prop := ∃ x0 x1 x2 x3 x4 x5 c : Nat, e = .returned (.tuple #[W6 x0 x1 x2 x3 x4 x5, .int .i64 (c : Nat)]) ∧ Lim6 x0 x1 x2 x3 x4 x5 ∧
  ((bs.length ≠ 8 * L ∧ c = 6 ∧ n6 x0 x1 x2 x3 x4 x5 = 0) ∨ (bs.length = 8 * L ∧ P ≤ dv 256 bs.reverse ∧ c = 3 ∧ n6 x0 x1 x2 x3 x4 x5 = 0) ∨ (bs.length = 8 * L ∧ dv 256 bs.reverse < P ∧ c = 0 ∧ n6 x0 x1 x2 x3 x4 x5 = dv 256 bs.reverse)) ∧ Below w.heap.size w w'

set_option maxRecDepth 100000 in
set_option maxHeartbeats 3200000 in
theorem fdecode_c {P L B c : Nat} {A : Option Addr} {bs : List Nat} (w : World) (hk : FNum P L) (hF : FldAt P L w B) (hr : Rd .u8 w A c bs) (hd : Ds 256 bs) :
    Calls Tryd.prog 20 #[.pointer (some ⟨B, 0, none⟩), .slice A bs.length c] w (DecF P L bs w) := by
  obtain ⟨X, hX⟩ : ∃ X, X = w.alloc (.cells #[.int .u64 0, .int .u64 0, .int .u64 0, .int .u64 0, .int .u64 0, .int .u64 0] 24) := ⟨_, rfl⟩
  obtain ⟨hz, hb, hs⟩ := new_zero hX
  have HFX := Lib.hid (hF.below hb hF.lt)
  have hC := hF
  have CS := Lib.hid (fsize_c (P := P) (L := L) (B := B) X hk.limbs HFX.out)
  have HX := Lib.hid hX
  have HZ := Lib.hid hz
  have HB := Lib.hid hb
  have HS := Lib.hid hs
  have HF := Lib.hid hF
  have HK := Lib.hid hk
  have HR := Lib.hid (hr.below hb)
  have HD := Lib.hid hd
  obtain ⟨N, hN⟩ : ∃ N, N = bs.length := ⟨_, rfl⟩
  have HN := Lib.hid hN
  have CN : Hid (N ≤ 48 → Calls Tryd.prog 44 #[.slice A N c] X _) := fun h => by rw [hN] at h ⊢; exact fnumber_c X HR.out hd h
  rw [← hN]
  obtain ⟨M, hM⟩ : ∃ M, M = 8 * L := ⟨_, rfl⟩
  rw [← hM] at CS
  have HM := Lib.hid hM
  have HM48 : Hid (M ≤ 48) := by show M ≤ 48; rcases hk.limbs with e | e <;> omega
  clear hX hz hb hs hF hC hk hr hd hN hM
  by_cases hlen : N = M
  · have hne : decide ((N : Int) = (M : Int)) = true := decide_eq_true (by omega)
    have HL := Lib.hid hlen
    have HNE := Lib.hid hne
    have e1 : ((N : Int) != (M : Int)) = false := by simp; omega
    clear hne hlen
    go_enter Tryd.func20, Tryd.ntmps20
    go_upto_region 1 with (fail)
    rw [← HX.out]
    clear HX
    go_wp2_with fail
    (with_reducible refine (CS.out).mono ?_)
    rintro e w1 ⟨rfl, rfl⟩
    clear CS
    go_wp2_with fail
    (with_reducible refine (CN.out (by rw [HL.out]; exact HM48.out)).mono ?_)
    rintro e w2 ⟨x0, x1, x2, x3, x4, x5, rfl, lx, ex, hb2⟩
    have HLX := Lib.hid lx
    have HEX := Lib.hid ex
    have HB2 := Lib.hid hb2
    clear lx ex hb2 CN
    go_upto_region 4 with (fail)
    obtain ⟨gx, gf, gb, gs⟩ := box6 w2 x0 x1 x2 x3 x4 x5
    obtain ⟨X5, hX5⟩ : ∃ X, X = w2.alloc (.cells #[.int .u64 (x0 : Nat), .int .u64 (x1 : Nat), .int .u64 (x2 : Nat), .int .u64 (x3 : Nat), .int .u64 (x4 : Nat), .int .u64 (x5 : Nat)] 24) := ⟨_, rfl⟩
    rw [show Box6 w2 x0 x1 x2 x3 x4 x5 = X5 from hX5.symm] at gx gf gb gs
    rw [← hX5]
    have hsz := HB2.out.size
    have hBl := HF.out.lt
    have hs1 := HS.out
    have hz5 := HZ.out.keepB ((gb.block w.heap.size (by omega)).trans (HB2.out.block w.heap.size (by omega)))
    have hbw : Below w.heap.size w X5 := HB.out.trans ((HB2.out.trans (gb.mono hsz)).mono (by omega))
    obtain ⟨p0, p1, p2, p3, p4, p5, v, o0, o1, o2, o3, o4, o5, q0, q1, q2, q3, q4, q5, hC⟩ := HF.out.below hbw hBl
    have C1 := Lib.hid (below_c X5 gx hC.hp HLX.out hC.lp)
    have HNP := Lib.hid hC.np
    have HZ := Lib.hid hz5
    have HW := Lib.hid hbw
    have HSX : Hid (w.heap.size + 1 ≤ X5.heap.size) := by show _ ≤ _; omega
    obtain ⟨c0, c1, c2, c3, c4, c5⟩ := gx
    simp only [Nat.zero_add] at c1 c2 c3 c4 c5
    clear hX5 gf gb gs hsz hBl hs1 hz5 hbw hC HF HB HB2 HS HR
    go_wp2_with fail
    (with_reducible refine (C1.out).mono ?_)
    rintro e w6 ⟨he, n, rfl⟩
    rw [HNP.out] at he
    clear C1 HNP
    by_cases hlt : n6 x0 x1 x2 x3 x4 x5 < P
    · have HLT := Lib.hid hlt
      rw [decide_eq_true hlt] at he
      subst he
      obtain ⟨⟨y0, y1, y2, y3, y4, y5⟩, f0, f1, f2, f3, f4, f5⟩ := HZ.out.cells
      clear hlt
      go_wp2_with fail
      clear y0 y1 y2 y3 y4 y5 f0 f1 f2 f3 f4 f5
      have gW : Below w.heap.size w (X5.drewN n) := ⟨HW.out.os, HW.out.tape, HW.out.output, HW.out.size, HW.out.block⟩
      have HZ : Hid (Six (X5.drewN n) w.heap.size 0 0 0 0 0 0) := HZ.out.keepB rfl
      obtain ⟨Y, hY⟩ : ∃ Y, Y = ((((((X5.drewN n).setCell ⟨w.heap.size, 0, none⟩ (.int .u64 (x0 : Nat))).setCell ⟨w.heap.size, 1, none⟩ (.int .u64 (x1 : Nat))).setCell ⟨w.heap.size, 2, none⟩ (.int .u64 (x2 : Nat))).setCell ⟨w.heap.size, 3, none⟩ (.int .u64 (x3 : Nat))).setCell ⟨w.heap.size, 4, none⟩ (.int .u64 (x4 : Nat))).setCell ⟨w.heap.size, 5, none⟩ (.int .u64 (x5 : Nat)) := ⟨_, rfl⟩
      rw [← hY]
      obtain ⟨⟨y0, y1, y2, y3, y4, y5⟩, hb⟩ := put_end HZ.out x0 x1 x2 x3 x4 x5 hY
      clear hY
      exact bodyPost_ret (v := .tuple #[W6 x0 x1 x2 x3 x4 x5, .int .i64 ((0 : Nat) : Int)]) (by simp [results, Tryd.results20, go_sem, y0, y1, y2, y3, y4, y5]) rfl ⟨x0, x1, x2, x3, x4, x5, 0, rfl, HLX.out, .inr (.inr ⟨HN.out.symm.trans (HL.out.trans HM.out), by rw [← HEX.out]; exact HLT.out, rfl, HEX.out⟩), gW.trans (hb.mono (by omega))⟩
    · have HLT := Lib.hid hlt
      rw [decide_eq_false hlt] at he
      subst he
      obtain ⟨⟨y0, y1, y2, y3, y4, y5⟩, f0, f1, f2, f3, f4, f5⟩ := HZ.out.cells
      clear hlt
      go_wp2_with fail
      clear y0 y1 y2 y3 y4 y5 f0 f1 f2 f3 f4 f5
      have gW : Below w.heap.size w (X5.drewN n) := ⟨HW.out.os, HW.out.tape, HW.out.output, HW.out.size, HW.out.block⟩
      have HZ : Hid (Six (X5.drewN n) w.heap.size 0 0 0 0 0 0) := HZ.out.keepB rfl
      obtain ⟨Y, hY⟩ : ∃ Y, Y = ((((((X5.drewN n).setCell ⟨w.heap.size, 0, none⟩ (.int .u64 0)).setCell ⟨w.heap.size, 1, none⟩ (.int .u64 0)).setCell ⟨w.heap.size, 2, none⟩ (.int .u64 0)).setCell ⟨w.heap.size, 3, none⟩ (.int .u64 0)).setCell ⟨w.heap.size, 4, none⟩ (.int .u64 0)).setCell ⟨w.heap.size, 5, none⟩ (.int .u64 0) := ⟨_, rfl⟩
      rw [← hY]
      obtain ⟨⟨y0, y1, y2, y3, y4, y5⟩, hb⟩ := put_end HZ.out 0 0 0 0 0 0 hY
      clear hY
      exact bodyPost_ret (v := .tuple #[W6 0 0 0 0 0 0, .int .i64 ((3 : Nat) : Int)]) (by simp [results, Tryd.results20, go_sem, y0, y1, y2, y3, y4, y5]) rfl ⟨0, 0, 0, 0, 0, 0, 3, rfl, ⟨lim0, lim0, lim0, lim0, lim0, lim0⟩, .inr (.inl ⟨HN.out.symm.trans (HL.out.trans HM.out), by rw [← HEX.out]; exact Nat.le_of_not_lt HLT.out, rfl, rfl⟩), gW.trans (hb.mono (by omega))⟩
  · have e1 : ((N : Int) != (M : Int)) = true := by simp; omega
    have HL := Lib.hid hlen
    clear hlen
    go_enter Tryd.func20, Tryd.ntmps20
    go_upto_region 1 with (fail)
    rw [← HX.out]
    clear HX CN
    go_wp2_with fail
    (with_reducible refine (CS.out).mono ?_)
    rintro e w1 ⟨rfl, rfl⟩
    clear CS
    obtain ⟨⟨y0, y1, y2, y3, y4, y5⟩, f0, f1, f2, f3, f4, f5⟩ := HZ.out.cells
    go_wp2_with fail
    clear y0 y1 y2 y3 y4 y5 f0 f1 f2 f3 f4 f5
    have gW := HB.out
    obtain ⟨Y, hY⟩ : ∃ Y, Y = (((((w1.setCell ⟨w.heap.size, 0, none⟩ (.int .u64 0)).setCell ⟨w.heap.size, 1, none⟩ (.int .u64 0)).setCell ⟨w.heap.size, 2, none⟩ (.int .u64 0)).setCell ⟨w.heap.size, 3, none⟩ (.int .u64 0)).setCell ⟨w.heap.size, 4, none⟩ (.int .u64 0)).setCell ⟨w.heap.size, 5, none⟩ (.int .u64 0) := ⟨_, rfl⟩
    rw [← hY]
    obtain ⟨⟨y0, y1, y2, y3, y4, y5⟩, hb⟩ := put_end HZ.out 0 0 0 0 0 0 hY
    clear hY
    exact bodyPost_ret (v := .tuple #[W6 0 0 0 0 0 0, .int .i64 ((6 : Nat) : Int)]) (by simp [results, Tryd.results20, go_sem, y0, y1, y2, y3, y4, y5]) rfl ⟨0, 0, 0, 0, 0, 0, 6, rfl, ⟨lim0, lim0, lim0, lim0, lim0, lim0⟩, .inl ⟨fun h => HL.out (HN.out.trans (h.trans HM.out.symm)), rfl, rfl⟩, gW.trans (hb.mono (by omega))⟩
end Go.Proofs.YteaafnjflghlhaaDoor
namespace Go.Proofs.YteaafnjflghlhaaDoor
open Go.RowKit

theorem mont_mul {a b P R Ri : Nat} (hR : R * Ri % P = 1 % P) : b * (a * (R * R % P) * Ri % P) * Ri % P = a * b % P := by
  rw [mont_enter hR, Nat.mul_mod, Nat.mul_mod b, Nat.mod_mod, ← Nat.mul_mod b, ← Nat.mul_mod]
  have e : b * (a * R) * Ri = a * b * (R * Ri) := by grind
  rw [e, Nat.mul_mod, hR, ← Nat.mul_mod, Nat.mul_one]
/-- Two numbers boxed, and a cell for the answer. -/
theorem box_two {w X : World} {x0 x1 x2 x3 x4 x5 y0 y1 y2 y3 y4 y5 : Nat} (hX : X = ((w.alloc (.cells #[.int .u64 (x0 : Nat), .int .u64 (x1 : Nat), .int .u64 (x2 : Nat), .int .u64 (x3 : Nat), .int .u64 (x4 : Nat), .int .u64 (x5 : Nat)] 24)).alloc (.cells #[.int .u64 (y0 : Nat), .int .u64 (y1 : Nat), .int .u64 (y2 : Nat), .int .u64 (y3 : Nat), .int .u64 (y4 : Nat), .int .u64 (y5 : Nat)] 24)).alloc (.cells #[.int .u64 0, .int .u64 0, .int .u64 0, .int .u64 0, .int .u64 0, .int .u64 0] 24)) :
    Six X w.heap.size x0 x1 x2 x3 x4 x5 ∧ Six X (w.heap.size + 1) y0 y1 y2 y3 y4 y5 ∧ Six X (w.heap.size + 1 + 1) 0 0 0 0 0 0 ∧ Below w.heap.size w X ∧ X.heap.size = w.heap.size + 1 + 1 + 1 := by
  obtain ⟨Y, hY⟩ : ∃ Y, Y = w.alloc (.cells #[.int .u64 (x0 : Nat), .int .u64 (x1 : Nat), .int .u64 (x2 : Nat), .int .u64 (x3 : Nat), .int .u64 (x4 : Nat), .int .u64 (x5 : Nat)] 24) := ⟨_, rfl⟩
  rw [← hY] at hX
  have e : Y.heap.size = w.heap.size + 1 := by rw [hY]; simp
  have h0 : Six Y w.heap.size x0 x1 x2 x3 x4 x5 := by rw [hY]; exact six_new (heap_alloc_new w _)
  have hb : Below w.heap.size w Y := by rw [hY]; exact (Below.refl _ _).alloc (Nat.le_refl _) _
  obtain ⟨h1, h2, h3, h4⟩ := box_zero hX
  rw [e] at h1 h2 h3 h4
  exact ⟨h0.keepB (h3.block _ (by omega)), h1, h2, hb.trans (h3.mono (by omega)), h4⟩

set_option maxRecDepth 100000 in
set_option maxHeartbeats 3200000 in
theorem fSub_c {P L B x0 x1 x2 x3 x4 x5 y0 y1 y2 y3 y4 y5 : Nat} (w : World) (hk : FNum P L) (hF : FldAt P L w B) (lx : Lim6 x0 x1 x2 x3 x4 x5) (ly : Lim6 y0 y1 y2 y3 y4 y5) :
    Calls Tryd.prog 42 #[.pointer (some ⟨B, 0, none⟩), W6 x0 x1 x2 x3 x4 x5, W6 y0 y1 y2 y3 y4 y5] w fun e w' => ∃ s0 s1 s2 s3 s4 s5, e = .returned (W6 s0 s1 s2 s3 s4 s5) ∧ Lim6 s0 s1 s2 s3 s4 s5 ∧ n6 s0 s1 s2 s3 s4 s5 = (n6 x0 x1 x2 x3 x4 x5 % P + P - n6 y0 y1 y2 y3 y4 y5 % P) % P ∧ Below w.heap.size w w' := by
  obtain ⟨X, hX⟩ : ∃ X, X = ((w.alloc (.cells #[.int .u64 (x0 : Nat), .int .u64 (x1 : Nat), .int .u64 (x2 : Nat), .int .u64 (x3 : Nat), .int .u64 (x4 : Nat), .int .u64 (x5 : Nat)] 24)).alloc (.cells #[.int .u64 (y0 : Nat), .int .u64 (y1 : Nat), .int .u64 (y2 : Nat), .int .u64 (y3 : Nat), .int .u64 (y4 : Nat), .int .u64 (y5 : Nat)] 24)).alloc (.cells #[.int .u64 0, .int .u64 0, .int .u64 0, .int .u64 0, .int .u64 0, .int .u64 0] 24) := ⟨_, rfl⟩
  obtain ⟨ha, hb, hz, hw, hs⟩ := box_two hX
  have hBl := hF.lt
  have C1 := Lib.hid (freduce_c X hk (hF.below hw hBl) ha.1 lx ha.2 (by omega))
  have HA0 := Lib.hid ha
  have HX := Lib.hid hX
  have HF := Lib.hid hF
  have HK := Lib.hid hk
  have HBL := Lib.hid hBl
  have HV := Lib.hid hb
  have HZ := Lib.hid hz
  have HW := Lib.hid hw
  have HS := Lib.hid hs
  have HLY := Lib.hid ly
  clear hX ha hb hz hw hs hk hF lx ly hBl
  go_enter Tryd.func42, Tryd.ntmps42
  go_upto_region 1 with (fail)
  rw [← HX.out]
  clear HX
  go_wp2_with fail
  (with_reducible refine (C1.out).mono ?_)
  rintro e w4 ⟨rfl, hg, a0, a1, a2, a3, a4, a5, ha, la, ea⟩
  have hfa : ∀ k, w4.frozen? ⟨w.heap.size, k, none⟩ = false := fun k => (hg.frozen k).trans (HA0.out.2 k)
  have hs4 : w.heap.size + 1 + 1 + 1 ≤ w4.heap.size := by rw [← HS.out]; exact hg.size
  have hv4 := HV.out.keepB (hg.block _ (by rw [HS.out]; omega) (by omega))
  have hz4 := HZ.out.keepB (hg.block _ (by rw [HS.out]; omega) (by omega))
  have hw4 := HW.out.trans (hg.below (b := w.heap.size) (Nat.le_refl _) (by rw [HS.out]; omega))
  have C2 := Lib.hid (freduce_c w4 HK.out (HF.out.below hw4 HBL.out) hv4.1 HLY.out hv4.2 (by have := HBL.out; omega))
  have HA : Hid (Six w4 w.heap.size a0 a1 a2 a3 a4 a5) := ⟨ha, hfa⟩
  have HV4 := Lib.hid hv4
  have HZ4 := Lib.hid hz4
  have HW4 := Lib.hid hw4
  have HS4 := Lib.hid hs4
  have HLA := Lib.hid la
  have HEA := Lib.hid ea
  clear HA0 hg ha hfa hs4 hv4 hz4 hw4 la ea C1 HZ HV HW HS
  go_wp2_with fail
  (with_reducible refine (C2.out).mono ?_)
  rintro e w5 ⟨rfl, hg, b0, b1, b2, b3, b4, b5, hb, lb, eb⟩
  have hs5 := Nat.le_trans HS4.out hg.size
  have ha5 := HA.out.keepB (hg.block _ (by have := HS4.out; omega) (by omega))
  have hz5 := HZ4.out.keepB (hg.block _ (by have := HS4.out; omega) (by omega))
  have hw5 := HW4.out.trans (hg.below (b := w.heap.size) (by omega) (by have := HS4.out; omega))
  obtain ⟨p0, p1, p2, p3, p4, p5, v, o0, o1, o2, o3, o4, o5, q0, q1, q2, q3, q4, q5, hC⟩ := HF.out.below hw5 HBL.out
  have hP := HK.out.pos
  have ba : n6 a0 a1 a2 a3 a4 a5 < P := by rw [HEA.out]; exact Nat.mod_lt _ (by omega)
  have bb : n6 b0 b1 b2 b3 b4 b5 < P := by rw [eb]; exact Nat.mod_lt _ (by omega)
  have C3 := Lib.hid (fsub_c w5 hC.hp hC.lp ha5.1 hb HLA.out lb ⟨_, _, _, _, _, _, hz5.1⟩ hz5.2 (Or.inr (by omega)) (Or.inr (by omega)) (by have := HBL.out; omega) (by rw [hC.np]; exact bb))
  have HZ5 := Lib.hid hz5
  have HW5 := Lib.hid hw5
  have HS5 := Lib.hid hs5
  have HEB := Lib.hid eb
  have HNP := Lib.hid hC.np
  have HBA := Lib.hid ba
  have HBB := Lib.hid bb
  clear hg hb lb eb hs5 ha5 hz5 hw5 hC hP ba bb C2 HA HV4 HZ4 HW4 HS4 HF HK
  go_wp2_with fail
  (with_reducible refine (C3.out).mono ?_)
  rintro e w6 ⟨rfl, hp, s0, s1, s2, s3, s4, s5, hs, ls, e1, e2⟩
  have hz6 : Six w6 (w.heap.size + 1 + 1) s0 s1 s2 s3 s4 s5 := ⟨hs, fun k => (hp.frozen k).trans (HZ5.out.2 k)⟩
  have hw6 : Below w.heap.size w w6 := HW5.out.trans ⟨hp.os, hp.tape, hp.output, Nat.le_of_eq hp.size.symm, fun k hk => hp.block k (by omega)⟩
  have HV : Hid (n6 s0 s1 s2 s3 s4 s5 = (n6 x0 x1 x2 x3 x4 x5 % P + P - n6 y0 y1 y2 y3 y4 y5 % P) % P) := by
    have h1 := HBA.out
    have h2 := HBB.out
    rw [HNP.out] at e1
    show _ = _
    rw [← HEA.out, ← HEB.out]
    clear HBA HBB HEA HEB HNP HZ5 HW5 C3 hz6 hw6 hs ls hp
    generalize n6 a0 a1 a2 a3 a4 a5 = a at *
    generalize n6 b0 b1 b2 b3 b4 b5 = b at *
    generalize n6 s0 s1 s2 s3 s4 s5 = s at *
    by_cases hlt : a < b
    · have := e1 hlt
      rw [Nat.mod_eq_of_lt (by omega)]; omega
    · have := e2 hlt
      rw [show a + P - b = s + P by omega, Nat.add_mod_right, Nat.mod_eq_of_lt (by omega)]
  obtain ⟨⟨y0, y1, y2, y3, y4, y5⟩, f0, f1, f2, f3, f4, f5⟩ := hz6.cells
  have HZ := Lib.hid hz6
  have HW := Lib.hid hw6
  have HLS := Lib.hid ls
  clear hp hs ls e1 e2 hz6 hw6 C3 HZ5 HW5
  go_wp2_with fail
  clear y0 y1 y2 y3 y4 y5 f0 f1 f2 f3 f4 f5
  have gW := HW.out
  obtain ⟨Y, hY⟩ : ∃ Y, Y = (((((w6.setCell ⟨w.heap.size + 1 + 1, 0, none⟩ (.int .u64 (s0 : Nat))).setCell ⟨w.heap.size + 1 + 1, 1, none⟩ (.int .u64 (s1 : Nat))).setCell ⟨w.heap.size + 1 + 1, 2, none⟩ (.int .u64 (s2 : Nat))).setCell ⟨w.heap.size + 1 + 1, 3, none⟩ (.int .u64 (s3 : Nat))).setCell ⟨w.heap.size + 1 + 1, 4, none⟩ (.int .u64 (s4 : Nat))).setCell ⟨w.heap.size + 1 + 1, 5, none⟩ (.int .u64 (s5 : Nat)) := ⟨_, rfl⟩
  rw [← hY]
  obtain ⟨⟨y0, y1, y2, y3, y4, y5⟩, hb⟩ := put_end HZ.out s0 s1 s2 s3 s4 s5 hY
  clear hY
  exact bodyPost_ret (v := W6 s0 s1 s2 s3 s4 s5) (by simp [results, Tryd.results42, go_sem, y0, y1, y2, y3, y4, y5]) rfl ⟨s0, s1, s2, s3, s4, s5, rfl, HLS.out, HV.out, gW.trans (hb.mono (by omega))⟩

set_option maxRecDepth 100000 in
set_option maxHeartbeats 3200000 in
theorem fMul_c {P L B x0 x1 x2 x3 x4 x5 y0 y1 y2 y3 y4 y5 : Nat} (w : World) (hk : FNum P L) (hF : FldAt P L w B) (lx : Lim6 x0 x1 x2 x3 x4 x5) (ly : Lim6 y0 y1 y2 y3 y4 y5) :
    Calls Tryd.prog 13 #[.pointer (some ⟨B, 0, none⟩), W6 x0 x1 x2 x3 x4 x5, W6 y0 y1 y2 y3 y4 y5] w fun e w' => ∃ s0 s1 s2 s3 s4 s5, e = .returned (W6 s0 s1 s2 s3 s4 s5) ∧ Lim6 s0 s1 s2 s3 s4 s5 ∧ n6 s0 s1 s2 s3 s4 s5 = n6 x0 x1 x2 x3 x4 x5 * n6 y0 y1 y2 y3 y4 y5 % P ∧ Below w.heap.size w w' := by
  obtain ⟨X, hX⟩ : ∃ X, X = ((w.alloc (.cells #[.int .u64 (x0 : Nat), .int .u64 (x1 : Nat), .int .u64 (x2 : Nat), .int .u64 (x3 : Nat), .int .u64 (x4 : Nat), .int .u64 (x5 : Nat)] 24)).alloc (.cells #[.int .u64 (y0 : Nat), .int .u64 (y1 : Nat), .int .u64 (y2 : Nat), .int .u64 (y3 : Nat), .int .u64 (y4 : Nat), .int .u64 (y5 : Nat)] 24)).alloc (.cells #[.int .u64 0, .int .u64 0, .int .u64 0, .int .u64 0, .int .u64 0, .int .u64 0] 24) := ⟨_, rfl⟩
  obtain ⟨ha, hb, hz, hw, hs⟩ := box_two hX
  have hBl := hF.lt
  have C1 := Lib.hid (freduce_c X hk (hF.below hw hBl) ha.1 lx ha.2 (by omega))
  have HA0 := Lib.hid ha
  have HX := Lib.hid hX
  have HF := Lib.hid hF
  have HK := Lib.hid hk
  have HBL := Lib.hid hBl
  have HV := Lib.hid hb
  have HZ := Lib.hid hz
  have HW := Lib.hid hw
  have HS := Lib.hid hs
  have HLY := Lib.hid ly
  clear hX ha hb hz hw hs hk hF lx ly hBl
  go_enter Tryd.func13, Tryd.ntmps13
  go_upto_region 1 with (fail)
  rw [← HX.out]
  clear HX
  go_wp2_with fail
  (with_reducible refine (C1.out).mono ?_)
  rintro e w4 ⟨rfl, hg, a0, a1, a2, a3, a4, a5, ha, la, ea⟩
  have hfa : ∀ k, w4.frozen? ⟨w.heap.size, k, none⟩ = false := fun k => (hg.frozen k).trans (HA0.out.2 k)
  have hs4 : w.heap.size + 1 + 1 + 1 ≤ w4.heap.size := by rw [← HS.out]; exact hg.size
  have hv4 := HV.out.keepB (hg.block _ (by rw [HS.out]; omega) (by omega))
  have hz4 := HZ.out.keepB (hg.block _ (by rw [HS.out]; omega) (by omega))
  have hw4 := HW.out.trans (hg.below (b := w.heap.size) (Nat.le_refl _) (by rw [HS.out]; omega))
  have C2 := Lib.hid (freduce_c w4 HK.out (HF.out.below hw4 HBL.out) hv4.1 HLY.out hv4.2 (by have := HBL.out; omega))
  have HA : Hid (Six w4 w.heap.size a0 a1 a2 a3 a4 a5) := ⟨ha, hfa⟩
  have HV4 := Lib.hid hv4
  have HZ4 := Lib.hid hz4
  have HW4 := Lib.hid hw4
  have HS4 := Lib.hid hs4
  have HLA := Lib.hid la
  have HEA := Lib.hid ea
  clear HA0 hg ha hfa hs4 hv4 hz4 hw4 la ea C1 HZ HV HW HS
  go_wp2_with fail
  (with_reducible refine (C2.out).mono ?_)
  rintro e w5 ⟨rfl, hg, b0, b1, b2, b3, b4, b5, hb, lb, eb⟩
  have hs5 := Nat.le_trans HS4.out hg.size
  have ha5 := HA.out.keepB (hg.block _ (by have := HS4.out; omega) (by omega))
  have hz5 := HZ4.out.keepB (hg.block _ (by have := HS4.out; omega) (by omega))
  have hw5 := HW4.out.trans (hg.below (b := w.heap.size) (by omega) (by have := HS4.out; omega))
  obtain ⟨p0, p1, p2, p3, p4, p5, v, o0, o1, o2, o3, o4, o5, q0, q1, q2, q3, q4, q5, hC⟩ := HF.out.below hw5 HBL.out
  have hP := HK.out.pos
  have ba : n6 a0 a1 a2 a3 a4 a5 < P := by rw [HEA.out]; exact Nat.mod_lt _ (by omega)
  have bb : n6 b0 b1 b2 b3 b4 b5 < P := by rw [eb]; exact Nat.mod_lt _ (by omega)
  have hf := HK.out.fit
  have hL6 : L ≤ 6 := by rcases HK.out.limbs with e | e <;> omega
  have bq : n6 q0 q1 q2 q3 q4 q5 < n6 p0 p1 p2 p3 p4 p5 := by rw [hC.nq, hC.np]; exact Nat.mod_lt _ (by omega)
  have hdb : 2 * n6 p0 p1 p2 p3 p4 p5 ≤ 39402006196394479212279040100143613805079739270465446667948293404245721771497210611414266254884915640806627990306816 := by rw [hC.np]; exact HK.out.dbl
  have hiv : (n6 p0 p1 p2 p3 p4 p5 * v + 1) % 18446744073709551616 = 0 := by rw [hC.np]; exact hC.iv
  have hbl := HBL.out
  have C3 := Lib.hid (ftimes_c w5 hC.hp hC.lp hC.hL hC.hv hL6 ha5.1 HLA.out hC.hq hC.lq ⟨_, _, _, _, _, _, hz5.1⟩ hz5.2 (by omega) bq hdb hiv)
  have HC := Lib.hid hC
  have HL6 := Lib.hid hL6
  have HDB := Lib.hid hdb
  have HIV := Lib.hid hiv
  have HBQ := Lib.hid bq
  have HB5 : Hid (Six w5 (w.heap.size + 1) b0 b1 b2 b3 b4 b5) := ⟨hb, fun k => (hg.frozen k).trans (HV4.out.2 k)⟩
  have HZ5 := Lib.hid hz5
  have HW5 := Lib.hid hw5
  have HS5 := Lib.hid hs5
  have HLB := Lib.hid lb
  have HEB := Lib.hid eb
  have HBA := Lib.hid ba
  have HBB := Lib.hid bb
  clear hg hb lb eb hs5 ha5 hz5 hw5 hC hP ba bb hf hL6 bq hdb hiv hbl C2 HA HV4 HZ4 HW4 HS4 HF
  go_wp2_with fail
  (with_reducible refine (C3.out).mono ?_)
  rintro e w6 ⟨rfl, hp, t0, t1, t2, t3, t4, t5, T, ht, lt, hM, hLo⟩
  obtain ⟨Ri, hRi⟩ := HK.out.ri
  have hRi' : 18446744073709551616 ^ L * Ri % n6 p0 p1 p2 p3 p4 p5 = 1 % n6 p0 p1 p2 p3 p4 p5 := by rw [HC.out.np]; exact hRi
  obtain ⟨bt, et⟩ := mont_times hM HBQ.out hLo hRi'
  have hz6 : Six w6 (w.heap.size + 1 + 1) t0 t1 t2 t3 t4 t5 := ⟨ht, fun k => (hp.frozen k).trans (HZ5.out.2 k)⟩
  have hb6 := HB5.out.keepB (hp.block _ (by omega))
  have hC6 := HC.out.keepB (hp.block B (by have := HBL.out; omega))
  have hw6 : Below w.heap.size w w6 := HW5.out.trans ⟨hp.os, hp.tape, hp.output, Nat.le_of_eq hp.size.symm, fun k hk => hp.block k (by omega)⟩
  have C4 := Lib.hid (ftimes_c w6 hC6.hp hC6.lp hC6.hL hC6.hv HL6.out hb6.1 HLB.out hz6.1 lt ⟨_, _, _, _, _, _, hz6.1⟩ hz6.2 (by have := HBL.out; omega) bt HDB.out HIV.out)
  have HT : Hid (n6 t0 t1 t2 t3 t4 t5 = n6 a0 a1 a2 a3 a4 a5 * (18446744073709551616 ^ L * 18446744073709551616 ^ L % P) * Ri % P) := by
    show _ = _
    rw [et, HC.out.nq, HC.out.np, Nat.mod_eq_of_lt (Nat.lt_trans HBA.out HK.out.fit)]
  have HRI := Lib.hid hRi
  have HRI' := Lib.hid hRi'
  have HBT := Lib.hid bt
  have HZ6 := Lib.hid hz6
  have HW6 := Lib.hid hw6
  clear hp ht lt hM hLo et hRi hRi' bt hz6 hb6 hC6 hw6 C3 HZ5 HW5
  go_wp2_with fail
  (with_reducible refine (C4.out).mono ?_)
  rintro e w7 ⟨rfl, hp, s0, s1, s2, s3, s4, s5, S, hs, ls, hM, hLo⟩
  obtain ⟨-, es⟩ := mont_times hM HBT.out hLo HRI'.out
  have hz7 : Six w7 (w.heap.size + 1 + 1) s0 s1 s2 s3 s4 s5 := ⟨hs, fun k => (hp.frozen k).trans (HZ6.out.2 k)⟩
  have hw7 : Below w.heap.size w w7 := HW6.out.trans ⟨hp.os, hp.tape, hp.output, Nat.le_of_eq hp.size.symm, fun k hk => hp.block k (by omega)⟩
  have HV : Hid (n6 s0 s1 s2 s3 s4 s5 = n6 x0 x1 x2 x3 x4 x5 * n6 y0 y1 y2 y3 y4 y5 % P) := by
    show _ = _
    rw [es, HC.out.np, Nat.mod_eq_of_lt (Nat.lt_trans HBB.out HK.out.fit), HT.out, mont_mul HRI.out, HEA.out, HEB.out, ← Nat.mul_mod]
  obtain ⟨⟨y0, y1, y2, y3, y4, y5⟩, f0, f1, f2, f3, f4, f5⟩ := hz7.cells
  have HZ := Lib.hid hz7
  have HW := Lib.hid hw7
  have HLS := Lib.hid ls
  clear hp hs ls es hM hLo hz7 hw7 C4 HZ6 HW6
  go_wp2_with fail
  clear y0 y1 y2 y3 y4 y5 f0 f1 f2 f3 f4 f5
  have gW := HW.out
  obtain ⟨Y, hY⟩ : ∃ Y, Y = (((((w7.setCell ⟨w.heap.size + 1 + 1, 0, none⟩ (.int .u64 (s0 : Nat))).setCell ⟨w.heap.size + 1 + 1, 1, none⟩ (.int .u64 (s1 : Nat))).setCell ⟨w.heap.size + 1 + 1, 2, none⟩ (.int .u64 (s2 : Nat))).setCell ⟨w.heap.size + 1 + 1, 3, none⟩ (.int .u64 (s3 : Nat))).setCell ⟨w.heap.size + 1 + 1, 4, none⟩ (.int .u64 (s4 : Nat))).setCell ⟨w.heap.size + 1 + 1, 5, none⟩ (.int .u64 (s5 : Nat)) := ⟨_, rfl⟩
  rw [← hY]
  obtain ⟨⟨y0, y1, y2, y3, y4, y5⟩, hb⟩ := put_end HZ.out s0 s1 s2 s3 s4 s5 hY
  clear hY
  exact bodyPost_ret (v := W6 s0 s1 s2 s3 s4 s5) (by simp [results, Tryd.results13, go_sem, y0, y1, y2, y3, y4, y5]) rfl ⟨s0, s1, s2, s3, s4, s5, rfl, HLS.out, HV.out, gW.trans (hb.mono (by omega))⟩

end Go.Proofs.YteaafnjflghlhaaDoor
namespace Go.Proofs.YteaafnjflghlhaaDoor
open Go.RowKit

/-- The prime, the limbs and the inverse of a field. -/
structure FldP (P L : Nat) (w : World) (B p0 p1 p2 p3 p4 p5 v : Nat) : Prop where
  hp : L6 w B 0 p0 p1 p2 p3 p4 p5
  lp : Lim6 p0 p1 p2 p3 p4 p5
  np : n6 p0 p1 p2 p3 p4 p5 = P
  hL : w.cell? ⟨B, 0 + 6, none⟩ = some (.int .i64 (L : Nat))
  hv : w.cell? ⟨B, 0 + 7, none⟩ = some (.int .u64 (v : Nat))
  iv : (P * v + 1) % 18446744073709551616 = 0
theorem FldP.keepB {P L : Nat} {w w' : World} {B p0 p1 p2 p3 p4 p5 v : Nat} (h : FldP P L w B p0 p1 p2 p3 p4 p5 v) (hb : w'.heap[B]? = w.heap[B]?) : FldP P L w' B p0 p1 p2 p3 p4 p5 v :=
  { h with hp := h.hp.keepB hb, hL := (World.cell?_of_block (w := w) (a := ⟨B, 0 + 6, none⟩) hb).trans h.hL, hv := (World.cell?_of_block (w := w) (a := ⟨B, 0 + 7, none⟩) hb).trans h.hv }
theorem box_zero_one {w X : World} {x0 x1 x2 x3 x4 x5 : Nat} (hX : X = ((w.alloc (.cells #[.int .u64 (x0 : Nat), .int .u64 (x1 : Nat), .int .u64 (x2 : Nat), .int .u64 (x3 : Nat), .int .u64 (x4 : Nat), .int .u64 (x5 : Nat)] 24)).alloc (.cells #[.int .u64 0, .int .u64 0, .int .u64 0, .int .u64 0, .int .u64 0, .int .u64 0] 24)).alloc (.cells #[.int .u64 1, .int .u64 0, .int .u64 0, .int .u64 0, .int .u64 0, .int .u64 0] 24)) :
    Six X w.heap.size x0 x1 x2 x3 x4 x5 ∧ Six X (w.heap.size + 1) 0 0 0 0 0 0 ∧ Six X (w.heap.size + 1 + 1) 1 0 0 0 0 0 ∧ Below w.heap.size w X ∧ X.heap.size = w.heap.size + 1 + 1 + 1 := by
  obtain ⟨Y, hY⟩ : ∃ Y, Y = (w.alloc (.cells #[.int .u64 (x0 : Nat), .int .u64 (x1 : Nat), .int .u64 (x2 : Nat), .int .u64 (x3 : Nat), .int .u64 (x4 : Nat), .int .u64 (x5 : Nat)] 24)).alloc (.cells #[.int .u64 0, .int .u64 0, .int .u64 0, .int .u64 0, .int .u64 0, .int .u64 0] 24) := ⟨_, rfl⟩
  rw [← hY] at hX
  obtain ⟨h1, h2, h3, h4⟩ := box_zero hY
  have hb : Below Y.heap.size Y X := by rw [hX]; exact (Below.refl _ _).alloc (Nat.le_refl _) _
  have ho : Six X (w.heap.size + 1 + 1) 1 0 0 0 0 0 := by
    have h := heap_alloc_new Y (.cells #[.int .u64 1, .int .u64 0, .int .u64 0, .int .u64 0, .int .u64 0, .int .u64 0] 24)
    rw [h4] at h
    rw [hX]
    exact six_new h
  exact ⟨h1.keepB (hb.block _ (by omega)), h2.keepB (hb.block _ (by omega)), ho, h3.trans (hb.mono (by omega)), by rw [hX]; simp [h4]⟩
theorem lim1 : Lim 1 := by unfold Lim; omega

set_option maxRecDepth 100000 in
set_option maxHeartbeats 3200000 in
/-- What entered as R squared leaves as R. -/
theorem fleave_c {P L B p0 p1 p2 p3 p4 p5 v x0 x1 x2 x3 x4 x5 : Nat} (w : World) (hk : FNum P L) (hF : FldP P L w B p0 p1 p2 p3 p4 p5 v) (lx : Lim6 x0 x1 x2 x3 x4 x5) (ex : n6 x0 x1 x2 x3 x4 x5 = 18446744073709551616 ^ L * 18446744073709551616 ^ L % P) :
    Calls Tryd.prog 37 #[.pointer (some ⟨B, 0, none⟩), W6 x0 x1 x2 x3 x4 x5] w fun e w' => ∃ s0 s1 s2 s3 s4 s5, e = .returned (W6 s0 s1 s2 s3 s4 s5) ∧ Lim6 s0 s1 s2 s3 s4 s5 ∧ n6 s0 s1 s2 s3 s4 s5 = 18446744073709551616 ^ L % P ∧ Below w.heap.size w w' := by
  obtain ⟨X, hX⟩ : ∃ X, X = ((w.alloc (.cells #[.int .u64 (x0 : Nat), .int .u64 (x1 : Nat), .int .u64 (x2 : Nat), .int .u64 (x3 : Nat), .int .u64 (x4 : Nat), .int .u64 (x5 : Nat)] 24)).alloc (.cells #[.int .u64 0, .int .u64 0, .int .u64 0, .int .u64 0, .int .u64 0, .int .u64 0] 24)).alloc (.cells #[.int .u64 1, .int .u64 0, .int .u64 0, .int .u64 0, .int .u64 0, .int .u64 0] 24) := ⟨_, rfl⟩
  obtain ⟨ha, hz, ho, hw, hs⟩ := box_zero_one hX
  have hBl := hF.hp.lt
  have hF5 := hF.keepB (hw.block B hBl)
  have hP := hk.pos
  have hL6 : L ≤ 6 := by rcases hk.limbs with e | e <;> omega
  have e1 : n6 1 0 0 0 0 0 = 1 := by decide
  have bo : n6 1 0 0 0 0 0 < n6 p0 p1 p2 p3 p4 p5 := by rw [e1, hF.np]; omega
  have hdb : 2 * n6 p0 p1 p2 p3 p4 p5 ≤ 39402006196394479212279040100143613805079739270465446667948293404245721771497210611414266254884915640806627990306816 := by rw [hF.np]; exact hk.dbl
  have hiv : (n6 p0 p1 p2 p3 p4 p5 * v + 1) % 18446744073709551616 = 0 := by rw [hF.np]; exact hF.iv
  have C1 := Lib.hid (ftimes_c X hF5.hp hF5.lp hF5.hL hF5.hv hL6 ha.1 lx ho.1 ⟨lim1, lim0, lim0, lim0, lim0, lim0⟩ ⟨_, _, _, _, _, _, ha.1⟩ ha.2 (by omega) bo hdb hiv)
  have HX := Lib.hid hX
  have HK := Lib.hid hk
  have HNP := Lib.hid hF.np
  have HEX := Lib.hid ex
  have HBO := Lib.hid bo
  have HZ0 := Lib.hid hz
  have HW0 := Lib.hid hw
  have HS := Lib.hid hs
  clear hX ha hz ho hw hs hBl hF5 hP hL6 e1 bo hdb hiv hk hF lx ex
  go_enter Tryd.func37, Tryd.ntmps37
  go_wp2_with fail
  (first | rw [← HX.out] | skip)
  (with_reducible refine (C1.out).mono ?_)
  rintro e w6 ⟨rfl, hp, s0, s1, s2, s3, s4, s5, S, hs, ls, hM, hLo⟩
  have HV : Hid (n6 s0 s1 s2 s3 s4 s5 = 18446744073709551616 ^ L % P) := by
    obtain ⟨Ri, hRi⟩ := HK.out.ri
    obtain ⟨-, es⟩ := mont_times hM HBO.out hLo (by rw [HNP.out]; exact hRi)
    have hP := HK.out.pos
    show _ = _
    rw [es, HNP.out, HEX.out, show n6 1 0 0 0 0 0 = 1 by decide, Nat.mod_eq_of_lt (Nat.lt_trans (Nat.mod_lt _ (by omega)) HK.out.fit)]
    exact mont_leave hRi
  obtain ⟨c0, c1, c2, c3, c4, c5⟩ := hs
  simp only [Nat.zero_add] at c1 c2 c3 c4 c5
  have hz6 := HZ0.out.keepB (hp.block _ (by omega))
  obtain ⟨⟨y0, y1, y2, y3, y4, y5⟩, f0, f1, f2, f3, f4, f5⟩ := hz6.cells
  have HZ := Lib.hid hz6
  have hw6 : Below w.heap.size w w6 := HW0.out.trans ⟨hp.os, hp.tape, hp.output, Nat.le_of_eq hp.size.symm, fun k hk => hp.block k (by omega)⟩
  have HW := Lib.hid hw6
  have HLS := Lib.hid ls
  clear hp ls hM hLo hz6 hw6 C1 HZ0 HW0 HX HK HNP HEX HBO
  go_wp2_with fail
  clear y0 y1 y2 y3 y4 y5 f0 f1 f2 f3 f4 f5
  have gW := HW.out
  obtain ⟨Y, hY⟩ : ∃ Y, Y = (((((w6.setCell ⟨w.heap.size + 1, 0, none⟩ (.int .u64 (s0 : Nat))).setCell ⟨w.heap.size + 1, 1, none⟩ (.int .u64 (s1 : Nat))).setCell ⟨w.heap.size + 1, 2, none⟩ (.int .u64 (s2 : Nat))).setCell ⟨w.heap.size + 1, 3, none⟩ (.int .u64 (s3 : Nat))).setCell ⟨w.heap.size + 1, 4, none⟩ (.int .u64 (s4 : Nat))).setCell ⟨w.heap.size + 1, 5, none⟩ (.int .u64 (s5 : Nat)) := ⟨_, rfl⟩
  rw [← hY]
  obtain ⟨⟨y0, y1, y2, y3, y4, y5⟩, hb⟩ := put_end HZ.out s0 s1 s2 s3 s4 s5 hY
  clear hY
  exact bodyPost_ret (v := W6 s0 s1 s2 s3 s4 s5) (by simp [results, Tryd.results37, go_sem, y0, y1, y2, y3, y4, y5]) rfl ⟨s0, s1, s2, s3, s4, s5, rfl, HLS.out, HV.out, gW.trans (hb.mono (by omega))⟩
end Go.Proofs.YteaafnjflghlhaaDoor
namespace Go.Proofs.YteaafnjflghlhaaDoor
open Go.RowKit

set_option maxHeartbeats 4000000 in
set_option maxRecDepth 100000 in
theorem len8_c (x : Nat) (hx : x < 256) (w : World) :
    Calls Tryd.prog 65 #[.int .u8 x] w fun e w' => e = .returned (.int .i64 (Lib.bitLen x : Nat)) ∧ w = w' := by
  have hs : (Lib.len8tab.size : Int) = 256 := by decide +kernel
  have hx0 : (x : Int) < 256 := by omega
  go_enter Tryd.func65, Tryd.ntmps65
  go_wp2
  all_goals (go_ret; refine ⟨congrArg Ending.returned (congrArg (Value.int IntKind.i64) ?_), rfl⟩)
  all_goals simp only [tab_eq]
  all_goals (have l := Lib.bitLen_le8 ⟨x, hx⟩; simp only at l; first | omega | (rw [IntWalk.wrap64_in _ (by omega)]) | (rw [IntWalk.i64_in _ (by omega)]))
/-- The highest byte's bits and the bytes below: the number's bits. -/
theorem bits_head {x : Nat} {xs : List Nat} (hx : Ds 256 (x :: xs)) (h0 : x ≠ 0) : 8 * xs.length + Lib.bitLen x = blen (dv 256 (x :: xs).reverse) := by
  have hb := bitLen_is x (by have := hx.cons.1; unfold Lim; omega)
  have lt := dv_lt xs.reverse hx.cons.2.reverse
  rw [List.length_reverse] at lt
  have e : dv 256 (x :: xs).reverse = dv 256 xs.reverse + 256 ^ xs.length * x := by rw [List.reverse_cons, dv_append, List.length_reverse]; simp [dv]
  have e2 : (256 : Nat) ^ xs.length = 2 ^ (8 * xs.length) := by rw [show (256 : Nat) = 2 ^ 8 by decide, ← Nat.pow_mul]
  rw [e2] at lt e
  obtain ⟨b1, _, b3⟩ := hb
  obtain ⟨b3, b4⟩ := b3 h0
  refine blen_eq ?_ fun _ => ?_
  · rw [e, Nat.pow_add]
    have := Nat.mul_le_mul_left (2 ^ (8 * xs.length)) b1
    rw [Nat.mul_succ] at this
    omega
  · rw [e, show 8 * xs.length + Lib.bitLen x - 1 = 8 * xs.length + (Lib.bitLen x - 1) by omega, Nat.pow_add]
    have := Nat.mul_le_mul_left (2 ^ (8 * xs.length)) b4
    omega
set_option maxRecDepth 100000 in
set_option maxHeartbeats 1600000 in
/-- Bits: the least n for which the number is below 2^n. -/
theorem bits_n {A : Option Addr} {c : Nat} {xs : List Nat} (w : World) (h : Rd .u8 w A c xs) (hx : Ds 256 xs) (hl : xs.length ≤ 16777216) :
    Calls Tryd.prog 47 #[.slice A xs.length c] w fun e w' => e = .returned (.int .i64 (blen (dv 256 xs.reverse) : Nat)) ∧ w' = w := by
  have C1 := Lib.hid (strip_c w h hx hl)
  have DX := sd_ds hx
  have LX := sd_len xs
  have HD := sd_head xs
  have VX := sd_dv xs
  generalize sd xs = ys at *
  rw [← VX]
  generalize xs.length = L at *
  clear h hx VX
  rcases ys with _ | ⟨y, ys⟩
  · have e : blen (dv 256 ([] : List Nat).reverse) = 0 := rfl
    rw [e]
    clear DX LX HD e
    go_enter Tryd.func47, Tryd.ntmps47
    go_wp2_with fail
    (with_reducible refine C1.out.mono ?_)
    rintro e w1 ⟨A1, c1, rfl, hr1, hw1⟩
    rw [hw1]
    clear hw1 C1 hr1
    go_wp2_with fail
    go_ret
    exact ⟨rfl, rfl⟩
  · have hy : y ≠ 0 := HD (by simp)
    have hy2 : y < 256 := DX.cons.1
    have hb := bits_head DX hy
    have C2 := Lib.hid (len8_c y hy2)
    have hbl : Lib.bitLen y ≤ 8 := Lib.bitLen_le8 ⟨y, hy2⟩
    obtain ⟨r, er⟩ : ∃ r, r = blen (dv 256 (y :: ys).reverse) := ⟨_, rfl⟩
    obtain ⟨M, eM⟩ : ∃ M, M = ys.length := ⟨_, rfl⟩
    obtain ⟨b, eb⟩ : ∃ b, b = Lib.bitLen y := ⟨_, rfl⟩
    rw [← er]
    rw [← er, ← eM, ← eb] at hb
    rw [List.length_cons, ← eM] at LX
    rw [← eb] at C2 hbl
    have e1 : IntKind.i64.wrap (8 * (M : Int) + (b : Int)) = (r : Int) := by rw [IntWalk.i64_in _ (by omega)]; omega
    have hM := Lib.hid eM
    have hM16 : (M : Int) ≤ 16777216 := by omega
    have hz0 : ((M : Int) + 1 == 0) = false := by simp; omega
    clear DX HD er eM eb hb hy
    go_enter Tryd.func47, Tryd.ntmps47
    go_wp2_with fail
    (with_reducible refine C1.out.mono ?_)
    rintro e w1 ⟨A1, c1, rfl, hr1, hw1⟩
    rw [hw1]
    rw [List.length_cons, ← hM.out]
    obtain ⟨bb, o, rfl, _, hc⟩ := hr1.at_ (by simp)
    have hc0 := hc 0 (by simp)
    have hc0 : w.cell? ⟨bb, o, none⟩ = some (.int .u8 (y : Nat)) := hc0
    clear hw1 C1 hr1 hc
    go_wp2_with fail
    (with_reducible refine (C2.out _).mono ?_)
    rintro e w1 ⟨rfl, rfl⟩
    go_wp2_with fail
    go_ret
    exact ⟨rfl, rfl⟩

end Go.Proofs.YteaafnjflghlhaaDoor
namespace Go.Proofs.YteaafnjflghlhaaDoor
open Go.RowKit

set_option maxRecDepth 100000 in
set_option maxHeartbeats 3200000 in
theorem fsize_p {L B : Nat} (w : World) (hL : L = 4 ∨ L = 6) (hc : w.cell? ⟨B, 0 + 6, none⟩ = some (.int .i64 (L : Nat))) :
    Calls Tryd.prog 43 #[.pointer (some ⟨B, 0, none⟩)] w fun e w' => e = .returned (.int .i64 ((8 * L : Nat) : Int)) ∧ w' = w := by
  rcases hL with rfl | rfl <;>
  · go_enter Tryd.func43, Tryd.ntmps43
    go_wp2_with fail
    go_ret
    exact ⟨rfl, rfl⟩
set_option maxRecDepth 100000 in
theorem en_div (args : Array Value) (w : World) : (callFunc 66 args).run Tryd.prog w = .ok (.enter 66 args) w := by go_simp
/-- One and zeros behind it. -/
theorem one_zeros (m : Nat) : dv 256 (1 :: List.replicate m 0).reverse = 256 ^ m := by
  rw [List.reverse_cons, List.reverse_replicate, dv_append, dv_zeros, List.length_replicate]
  simp [dv]
/-- What bytes told one by one are. -/
theorem dv_told {zs : List Nat} {n N : Nat} (hl : zs.length = N) (h : ∀ j, j < N → zs.getD j 0 = n / 256 ^ (N - 1 - j) % 256) (hn : n < 256 ^ N) : dv 256 zs.reverse = n := by
  refine dv_of_digits (fun i hi => ?_) (by rw [List.length_reverse, hl]; exact hn)
  rw [List.length_reverse, hl] at hi
  have e : zs.reverse.getD i 0 = zs.getD (N - 1 - i) 0 := by
    rw [List.getD_eq_getElem?_getD, List.getD_eq_getElem?_getD, List.getElem?_reverse (by omega), hl]
  rw [e, h _ (by omega), show N - 1 - (N - 1 - i) = i by omega]

set_option maxRecDepth 100000 in
set_option maxHeartbeats 6400000 in
theorem fsquare4 {P B p0 p1 p2 p3 p4 p5 v : Nat} (w : World) (hk : FNum P 4) (hF : FldP P 4 w B p0 p1 p2 p3 p4 p5 v) :
    Calls Tryd.prog 49 #[.pointer (some ⟨B, 0, none⟩)] w fun e w' => ∃ s0 s1 s2 s3 s4 s5, e = .returned (W6 s0 s1 s2 s3 s4 s5) ∧ Lim6 s0 s1 s2 s3 s4 s5 ∧ n6 s0 s1 s2 s3 s4 s5 = 18446744073709551616 ^ 4 * 18446744073709551616 ^ 4 % P ∧ Below w.heap.size w w' := by
  obtain ⟨X, hX⟩ : ∃ X, X = w.alloc (.cells #[.int .u64 0, .int .u64 0, .int .u64 0, .int .u64 0, .int .u64 0, .int .u64 0] 24) := ⟨_, rfl⟩
  obtain ⟨hz, hw, hs⟩ := new_zero hX
  have hBl := hF.hp.lt
  have hP := hk.pos
  have C1 := Lib.hid (fsize_p (L := 4) (B := B) X (by omega) (hF.keepB (hw.block B hBl)).hL)
  have hmk := mk8 65 65 rfl (by omega)
  have HX := Lib.hid hX
  have HZ0 := Lib.hid hz
  have HW0 := Lib.hid hw
  have HS := Lib.hid hs
  have HF := Lib.hid hF
  have HK := Lib.hid hk
  have HBL := Lib.hid hBl
  clear hX hz hw hs hBl hP hF hk
  go_enter Tryd.func49, Tryd.ntmps49
  go_upto_region 1 with (fail)
  rw [← HX.out]
  clear HX
  go_wp2_with fail
  (with_reducible refine (C1.out).mono ?_)
  rintro e w1 ⟨rfl, rfl⟩
  clear C1
  go_upto_region 2 with (fail)
  have hrow := Row.made (k := .u8) w1 5 65
  have hbel := (Below.refl w1.heap.size w1).alloc (Nat.le_refl _) (.cells (madeCells #[Value.int .u8 0] 65) 5)
  have hsz : (w1.alloc (.cells (madeCells #[Value.int .u8 0] 65) 5)).heap.size = w1.heap.size + 1 := by simp
  rw [HS.out] at hrow hbel hsz
  rw [HS.out]
  generalize w1.alloc (.cells (madeCells #[Value.int .u8 0] 65) 5) = X2 at *
  have hc0 := hrow.cell 0 (by simp)
  have hf0 := hrow.frozen 0
  have hset := hrow.set 0 1
  have HR := Lib.hid hset
  have HB2 := Lib.hid (hbel.setCell (p := ⟨w.heap.size + 1, 0, none⟩) (Nat.le_refl _) (.int .u8 ((1 : Nat) : Int)))
  have HSZ := Lib.hid hsz
  clear hset hbel hmk hrow hsz
  go_upto_region 3 with (fail)
  obtain ⟨X3, hX3⟩ : ∃ X, X = X2.setCell ⟨w.heap.size + 1, 0, none⟩ (.int .u8 1) := ⟨_, rfl⟩
  rw [← hX3]
  have HR3 : Hid (Row .u8 X3 (w.heap.size + 1) 5 (1 :: List.replicate 64 0)) := by rw [hX3]; exact HR.out
  have HB3 : Hid (Below (w.heap.size + 1) w1 X3) := by rw [hX3]; exact HB2.out
  have HS3 : Hid (X3.heap.size = w.heap.size + 1 + 1) := by rw [hX3]; exact (by simp [World.setCell] : (X2.setCell _ _).heap.size = X2.heap.size).trans HSZ.out
  clear hX3 HR HB2 HSZ hc0 hf0
  have HW3 : Hid (Below w.heap.size w X3) := HW0.out.trans (HB3.out.mono (by omega))
  have hF3 := HF.out.keepB (HW3.out.block B HBL.out)
  obtain ⟨c0, c1, c2, c3, c4, c5⟩ := hF3.hp
  simp only [Nat.zero_add] at c1 c2 c3 c4 c5
  have CS : Hid (∀ n : Nat, _) := fun n => fsize_p (L := 4) (B := B) (X3.drewN n) (by omega) (hF3.keepB rfl).hL
  have CT : Hid (∀ n : Nat, _) := fun n => ftext_c (N := 32) (X3.drewN n) HF.out.lp (by omega)
  have CD : Hid (∀ (w4 : World) (g : Nat) (zs : List Nat), Row .u8 w4 (w.heap.size + 1) 5 (1 :: List.replicate 64 0) → zs.length = 32 → Ds 256 zs → dv 256 zs.reverse = P → Row .u8 w4 g 5 zs →
      Calls Tryd.prog 66 #[.slice (some ⟨w.heap.size + 1, 0, none⟩) 65 65, .slice (some ⟨g, 0, none⟩) 32 32] w4 (RetDM (256 ^ 64) P w4)) := fun w4 g zs h1 hl hd hv h2 => by
    have hP := HK.out.pos
    have k := divmod_n w4 h1.rd0 h2.rd0 (by intro x hx; rcases List.mem_cons.1 hx with rfl | hx; · omega
                                            · rw [List.eq_of_mem_replicate hx]; omega) hd (by simp) (by omega) (by rw [hv]; omega)
    rw [hl, show (1 :: List.replicate 64 0).length = 65 by simp, one_zeros, hv] at k
    exact k
  have HPF : Hid (P < 256 ^ 32) := by
    show P < _
    have h := HK.out.fit
    rwa [show (18446744073709551616 : Nat) ^ 4 = 256 ^ 32 by decide] at h
  have HNP := Lib.hid HF.out.np
  clear hF3
  go_region_law (first
    | (refine step_call1 rfl 43 (.tmp 20) rfl en_size _ rfl (CS.out 1) ?_
       rintro e w4 ⟨rfl, rfl⟩
       refine ⟨_, rfl, ?_⟩)
    | (refine step_call2 rfl 45 (.tmp 19) (.tmp 21) rfl en_text _ rfl (CT.out 1) ?_
       rintro e w4 ⟨rfl, zs, h1, h2, h3, h4, h5⟩
       refine ⟨_, rfl, ?_⟩
       have hle : w.heap.size + 1 + 1 ≤ (X3.drewN 1).heap.size := Nat.le_of_eq HS3.out.symm
       have CD4 := Lib.hid (CD.out w4 _ zs ((h5.block (w.heap.size + 1) (by omega)).trans HR3.out) h1 h2 (dv_told h1 h3 (by rw [HNP.out]; exact HPF.out) |>.trans HNP.out) h4)
       have HB4 := Lib.hid (HB3.out.trans ((show Below (w.heap.size + 1) X3 (X3.drewN 1) from ⟨rfl, rfl, rfl, Nat.le_refl _, fun _ _ => rfl⟩).trans (h5.mono (by omega))))
       clear h1 h2 h3 h4 h5 hle CD)
    | (refine step_call2 rfl 66 (.tmp 15) (.tmp 22) rfl en_div _ rfl CD4.out ?_
       rintro e w5 ⟨u, v5, rfl, hu, ⟨ys, ⟨A5, c5', rfl, hrd, hds⟩, hcan⟩, hb5⟩
       refine ⟨_, rfl, ?_⟩
       have hle4 : w.heap.size + 1 ≤ w4.heap.size := by have := HB4.out.size; have := HS.out; omega
       have HB5 := Lib.hid (HB4.out.trans (hb5.mono hle4))
       have hl48 : ys.length ≤ 48 := by
         have h := hcan.len_le (m := 32) (by omega) (Nat.lt_trans (Nat.mod_lt _ (by have := HK.out.pos; omega)) HPF.out)
         rw [List.length_reverse] at h
         omega
       have CN := Lib.hid (fnumber_c w5 hrd hds hl48)
       have HCAN := Lib.hid hcan.2.1
       clear hu hrd hds hcan hb5 hle4 hl48 CD4 HB4))
  all_goals
    go_wp2_with fail
    (with_reducible refine (CN.out).mono ?_)
    rintro e w6 ⟨s0, s1, s2, s3, s4, s5, rfl, ls, es, hb6⟩
    have hle5 : w.heap.size + 1 ≤ w5.heap.size := by have := HB5.out.size; have := HS.out; omega
    have hb6w := HB5.out.trans (hb6.mono hle5)
    have HV : Hid (n6 s0 s1 s2 s3 s4 s5 = 18446744073709551616 ^ 4 * 18446744073709551616 ^ 4 % P) := by
      show _ = _
      rw [es, HCAN.out, show (256 : Nat) ^ 64 = 18446744073709551616 ^ 4 * 18446744073709551616 ^ 4 by decide]
    have hz6 := HZ0.out.keepB (hb6w.block w.heap.size (by omega))
    obtain ⟨⟨y0, y1, y2, y3, y4, y5⟩, f0, f1, f2, f3, f4, f5⟩ := hz6.cells
    have HZ := Lib.hid hz6
    have HW := Lib.hid (HW0.out.trans (hb6w.mono (by omega)))
    have HLS := Lib.hid ls
    clear ls es hb6 hle5 hb6w hz6 CN HCAN HB5 HZ0 HW0 HB3 HR3 CS CT HS3 HW3 c0 c1 c2 c3 c4 c5
    go_wp2_with fail
    clear y0 y1 y2 y3 y4 y5 f0 f1 f2 f3 f4 f5
    have gW := HW.out
    obtain ⟨Y, hY⟩ : ∃ Y, Y = (((((w6.setCell ⟨w.heap.size, 0, none⟩ (.int .u64 (s0 : Nat))).setCell ⟨w.heap.size, 1, none⟩ (.int .u64 (s1 : Nat))).setCell ⟨w.heap.size, 2, none⟩ (.int .u64 (s2 : Nat))).setCell ⟨w.heap.size, 3, none⟩ (.int .u64 (s3 : Nat))).setCell ⟨w.heap.size, 4, none⟩ (.int .u64 (s4 : Nat))).setCell ⟨w.heap.size, 5, none⟩ (.int .u64 (s5 : Nat)) := ⟨_, rfl⟩
    rw [← hY]
    obtain ⟨⟨y0, y1, y2, y3, y4, y5⟩, hb⟩ := put_end HZ.out s0 s1 s2 s3 s4 s5 hY
    clear hY
    exact bodyPost_ret (v := W6 s0 s1 s2 s3 s4 s5) (by simp [results, Tryd.results49, go_sem, y0, y1, y2, y3, y4, y5]) rfl ⟨s0, s1, s2, s3, s4, s5, rfl, HLS.out, HV.out, gW.trans (hb.mono (by omega))⟩

set_option maxRecDepth 100000 in
set_option maxHeartbeats 6400000 in
theorem fsquare6 {P B p0 p1 p2 p3 p4 p5 v : Nat} (w : World) (hk : FNum P 6) (hF : FldP P 6 w B p0 p1 p2 p3 p4 p5 v) :
    Calls Tryd.prog 49 #[.pointer (some ⟨B, 0, none⟩)] w fun e w' => ∃ s0 s1 s2 s3 s4 s5, e = .returned (W6 s0 s1 s2 s3 s4 s5) ∧ Lim6 s0 s1 s2 s3 s4 s5 ∧ n6 s0 s1 s2 s3 s4 s5 = 18446744073709551616 ^ 6 * 18446744073709551616 ^ 6 % P ∧ Below w.heap.size w w' := by
  obtain ⟨X, hX⟩ : ∃ X, X = w.alloc (.cells #[.int .u64 0, .int .u64 0, .int .u64 0, .int .u64 0, .int .u64 0, .int .u64 0] 24) := ⟨_, rfl⟩
  obtain ⟨hz, hw, hs⟩ := new_zero hX
  have hBl := hF.hp.lt
  have hP := hk.pos
  have C1 := Lib.hid (fsize_p (L := 6) (B := B) X (by omega) (hF.keepB (hw.block B hBl)).hL)
  have hmk := mk8 97 97 rfl (by omega)
  have HX := Lib.hid hX
  have HZ0 := Lib.hid hz
  have HW0 := Lib.hid hw
  have HS := Lib.hid hs
  have HF := Lib.hid hF
  have HK := Lib.hid hk
  have HBL := Lib.hid hBl
  clear hX hz hw hs hBl hP hF hk
  go_enter Tryd.func49, Tryd.ntmps49
  go_upto_region 1 with (fail)
  rw [← HX.out]
  clear HX
  go_wp2_with fail
  (with_reducible refine (C1.out).mono ?_)
  rintro e w1 ⟨rfl, rfl⟩
  clear C1
  go_upto_region 2 with (fail)
  have hrow := Row.made (k := .u8) w1 5 97
  have hbel := (Below.refl w1.heap.size w1).alloc (Nat.le_refl _) (.cells (madeCells #[Value.int .u8 0] 97) 5)
  have hsz : (w1.alloc (.cells (madeCells #[Value.int .u8 0] 97) 5)).heap.size = w1.heap.size + 1 := by simp
  rw [HS.out] at hrow hbel hsz
  rw [HS.out]
  generalize w1.alloc (.cells (madeCells #[Value.int .u8 0] 97) 5) = X2 at *
  have hc0 := hrow.cell 0 (by simp)
  have hf0 := hrow.frozen 0
  have hset := hrow.set 0 1
  have HR := Lib.hid hset
  have HB2 := Lib.hid (hbel.setCell (p := ⟨w.heap.size + 1, 0, none⟩) (Nat.le_refl _) (.int .u8 ((1 : Nat) : Int)))
  have HSZ := Lib.hid hsz
  clear hset hbel hmk hrow hsz
  go_upto_region 3 with (fail)
  obtain ⟨X3, hX3⟩ : ∃ X, X = X2.setCell ⟨w.heap.size + 1, 0, none⟩ (.int .u8 1) := ⟨_, rfl⟩
  rw [← hX3]
  have HR3 : Hid (Row .u8 X3 (w.heap.size + 1) 5 (1 :: List.replicate 96 0)) := by rw [hX3]; exact HR.out
  have HB3 : Hid (Below (w.heap.size + 1) w1 X3) := by rw [hX3]; exact HB2.out
  have HS3 : Hid (X3.heap.size = w.heap.size + 1 + 1) := by rw [hX3]; exact (by simp [World.setCell] : (X2.setCell _ _).heap.size = X2.heap.size).trans HSZ.out
  clear hX3 HR HB2 HSZ hc0 hf0
  have HW3 : Hid (Below w.heap.size w X3) := HW0.out.trans (HB3.out.mono (by omega))
  have hF3 := HF.out.keepB (HW3.out.block B HBL.out)
  obtain ⟨c0, c1, c2, c3, c4, c5⟩ := hF3.hp
  simp only [Nat.zero_add] at c1 c2 c3 c4 c5
  have CS : Hid (∀ n : Nat, _) := fun n => fsize_p (L := 6) (B := B) (X3.drewN n) (by omega) (hF3.keepB rfl).hL
  have CT : Hid (∀ n : Nat, _) := fun n => ftext_c (N := 48) (X3.drewN n) HF.out.lp (by omega)
  have CD : Hid (∀ (w4 : World) (g : Nat) (zs : List Nat), Row .u8 w4 (w.heap.size + 1) 5 (1 :: List.replicate 96 0) → zs.length = 48 → Ds 256 zs → dv 256 zs.reverse = P → Row .u8 w4 g 5 zs →
      Calls Tryd.prog 66 #[.slice (some ⟨w.heap.size + 1, 0, none⟩) 97 97, .slice (some ⟨g, 0, none⟩) 48 48] w4 (RetDM (256 ^ 96) P w4)) := fun w4 g zs h1 hl hd hv h2 => by
    have hP := HK.out.pos
    have k := divmod_n w4 h1.rd0 h2.rd0 (by intro x hx; rcases List.mem_cons.1 hx with rfl | hx; · omega
                                            · rw [List.eq_of_mem_replicate hx]; omega) hd (by simp) (by omega) (by rw [hv]; omega)
    rw [hl, show (1 :: List.replicate 96 0).length = 97 by simp, one_zeros, hv] at k
    exact k
  have HPF : Hid (P < 256 ^ 48) := by
    show P < _
    have h := HK.out.fit
    rwa [show (18446744073709551616 : Nat) ^ 6 = 256 ^ 48 by decide] at h
  have HNP := Lib.hid HF.out.np
  clear hF3
  go_region_law (first
    | (refine step_call1 rfl 43 (.tmp 20) rfl en_size _ rfl (CS.out 1) ?_
       rintro e w4 ⟨rfl, rfl⟩
       refine ⟨_, rfl, ?_⟩)
    | (refine step_call2 rfl 45 (.tmp 19) (.tmp 21) rfl en_text _ rfl (CT.out 1) ?_
       rintro e w4 ⟨rfl, zs, h1, h2, h3, h4, h5⟩
       refine ⟨_, rfl, ?_⟩
       have hle : w.heap.size + 1 + 1 ≤ (X3.drewN 1).heap.size := Nat.le_of_eq HS3.out.symm
       have CD4 := Lib.hid (CD.out w4 _ zs ((h5.block (w.heap.size + 1) (by omega)).trans HR3.out) h1 h2 (dv_told h1 h3 (by rw [HNP.out]; exact HPF.out) |>.trans HNP.out) h4)
       have HB4 := Lib.hid (HB3.out.trans ((show Below (w.heap.size + 1) X3 (X3.drewN 1) from ⟨rfl, rfl, rfl, Nat.le_refl _, fun _ _ => rfl⟩).trans (h5.mono (by omega))))
       clear h1 h2 h3 h4 h5 hle CD)
    | (refine step_call2 rfl 66 (.tmp 15) (.tmp 22) rfl en_div _ rfl CD4.out ?_
       rintro e w5 ⟨u, v5, rfl, hu, ⟨ys, ⟨A5, c5', rfl, hrd, hds⟩, hcan⟩, hb5⟩
       refine ⟨_, rfl, ?_⟩
       have hle4 : w.heap.size + 1 ≤ w4.heap.size := by have := HB4.out.size; have := HS.out; omega
       have HB5 := Lib.hid (HB4.out.trans (hb5.mono hle4))
       have hl48 : ys.length ≤ 48 := by
         have h := hcan.len_le (m := 48) (by omega) (Nat.lt_trans (Nat.mod_lt _ (by have := HK.out.pos; omega)) HPF.out)
         rw [List.length_reverse] at h
         omega
       have CN := Lib.hid (fnumber_c w5 hrd hds hl48)
       have HCAN := Lib.hid hcan.2.1
       clear hu hrd hds hcan hb5 hle4 hl48 CD4 HB4))
  all_goals
    go_wp2_with fail
    (with_reducible refine (CN.out).mono ?_)
    rintro e w6 ⟨s0, s1, s2, s3, s4, s5, rfl, ls, es, hb6⟩
    have hle5 : w.heap.size + 1 ≤ w5.heap.size := by have := HB5.out.size; have := HS.out; omega
    have hb6w := HB5.out.trans (hb6.mono hle5)
    have HV : Hid (n6 s0 s1 s2 s3 s4 s5 = 18446744073709551616 ^ 6 * 18446744073709551616 ^ 6 % P) := by
      show _ = _
      rw [es, HCAN.out, show (256 : Nat) ^ 96 = 18446744073709551616 ^ 6 * 18446744073709551616 ^ 6 by decide]
    have hz6 := HZ0.out.keepB (hb6w.block w.heap.size (by omega))
    obtain ⟨⟨y0, y1, y2, y3, y4, y5⟩, f0, f1, f2, f3, f4, f5⟩ := hz6.cells
    have HZ := Lib.hid hz6
    have HW := Lib.hid (HW0.out.trans (hb6w.mono (by omega)))
    have HLS := Lib.hid ls
    clear ls es hb6 hle5 hb6w hz6 CN HCAN HB5 HZ0 HW0 HB3 HR3 CS CT HS3 HW3 c0 c1 c2 c3 c4 c5
    go_wp2_with fail
    clear y0 y1 y2 y3 y4 y5 f0 f1 f2 f3 f4 f5
    have gW := HW.out
    obtain ⟨Y, hY⟩ : ∃ Y, Y = (((((w6.setCell ⟨w.heap.size, 0, none⟩ (.int .u64 (s0 : Nat))).setCell ⟨w.heap.size, 1, none⟩ (.int .u64 (s1 : Nat))).setCell ⟨w.heap.size, 2, none⟩ (.int .u64 (s2 : Nat))).setCell ⟨w.heap.size, 3, none⟩ (.int .u64 (s3 : Nat))).setCell ⟨w.heap.size, 4, none⟩ (.int .u64 (s4 : Nat))).setCell ⟨w.heap.size, 5, none⟩ (.int .u64 (s5 : Nat)) := ⟨_, rfl⟩
    rw [← hY]
    obtain ⟨⟨y0, y1, y2, y3, y4, y5⟩, hb⟩ := put_end HZ.out s0 s1 s2 s3 s4 s5 hY
    clear hY
    exact bodyPost_ret (v := W6 s0 s1 s2 s3 s4 s5) (by simp [results, Tryd.results49, go_sem, y0, y1, y2, y3, y4, y5]) rfl ⟨s0, s1, s2, s3, s4, s5, rfl, HLS.out, HV.out, gW.trans (hb.mono (by omega))⟩

theorem fsquare_c {P L B p0 p1 p2 p3 p4 p5 v : Nat} (w : World) (hk : FNum P L) (hF : FldP P L w B p0 p1 p2 p3 p4 p5 v) :
    Calls Tryd.prog 49 #[.pointer (some ⟨B, 0, none⟩)] w fun e w' => ∃ s0 s1 s2 s3 s4 s5, e = .returned (W6 s0 s1 s2 s3 s4 s5) ∧ Lim6 s0 s1 s2 s3 s4 s5 ∧ n6 s0 s1 s2 s3 s4 s5 = 18446744073709551616 ^ L * 18446744073709551616 ^ L % P ∧ Below w.heap.size w w' := by
  rcases hk.limbs with rfl | rfl
  · exact fsquare4 w hk hF
  · exact fsquare6 w hk hF
end Go.Proofs.YteaafnjflghlhaaDoor
namespace Go.Proofs.YteaafnjflghlhaaDoor
open Go.RowKit

theorem recip_step {a b b' E F : Int} (h : E ∣ a * b - 1) (hF : F ∣ E * E) (hM : F ∣ 18446744073709551616) (hb : ∃ k, b' = b * (2 - a * b) + 18446744073709551616 * k) : F ∣ a * b' - 1 := by
  obtain ⟨t, ht⟩ := h
  obtain ⟨k, hk⟩ := hb
  obtain ⟨x, hx⟩ := hF
  obtain ⟨y, hy⟩ := hM
  refine ⟨y * (k * a) - x * (t * t), ?_⟩
  have e : a * b = 1 + E * t := by omega
  grind
theorem recip_wrap (a b : Int) : ∃ k, IntKind.u64.wrap (b * IntKind.u64.wrap (2 - IntKind.u64.wrap (a * b))) = b * (2 - a * b) + 18446744073709551616 * k := by
  have w : ∀ x : Int, ∃ k, IntKind.u64.wrap x = x + 18446744073709551616 * k := fun x => ⟨-(x / 18446744073709551616), by rw [IntKind.wrap_u64]; omega⟩
  obtain ⟨k1, h1⟩ := w (a * b)
  obtain ⟨k2, h2⟩ := w (2 - IntKind.u64.wrap (a * b))
  obtain ⟨k3, h3⟩ := w (b * IntKind.u64.wrap (2 - IntKind.u64.wrap (a * b)))
  refine ⟨k3 + b * k2 - b * k1, ?_⟩
  rw [h3, h2, h1]
  grind
theorem wrap_nat (x : Int) : ∃ n : Nat, IntKind.u64.wrap x = (n : Int) ∧ Lim n := by
  refine ⟨(IntKind.u64.wrap x).toNat, ?_, ?_⟩
  · rw [IntKind.wrap_u64]; omega
  · unfold Lim; rw [IntKind.wrap_u64]; omega
def recF (m : Nat) : Int := [8, 64, 4096, 16777216, 281474976710656, 18446744073709551616].getD m 1
theorem recF_step (m : Nat) (h : m < 5) : recF (m + 1) ∣ recF m * recF m ∧ recF (m + 1) ∣ 18446744073709551616 := by
  rcases (show m = 0 ∨ m = 1 ∨ m = 2 ∨ m = 3 ∨ m = 4 by omega) with rfl | rfl | rfl | rfl | rfl <;> (constructor <;> decide)
theorem recF_start {a : Nat} (h : a % 2 = 1) : recF 0 ∣ (a : Int) * a - 1 := by
  have h8 : (a * a) % 8 = 1 := by
    rw [Nat.mul_mod]
    rcases (show a % 8 = 1 ∨ a % 8 = 3 ∨ a % 8 = 5 ∨ a % 8 = 7 by omega) with e | e | e | e <;> rw [e]
  show (8 : Int) ∣ _
  have e : (a : Int) * a = ((a * a : Nat) : Int) := by simp
  rw [e]
  omega

set_option maxRecDepth 100000 in
set_option maxHeartbeats 3200000 in
theorem recip_c {a : Nat} (w : World) (la : Lim a) (ho : a % 2 = 1) :
    Calls Tryd.prog 48 #[.int .u64 (a : Nat)] w fun e w' => ∃ b : Nat, e = .returned (.int .u64 (b : Nat)) ∧ Lim b ∧ (a * b) % 18446744073709551616 = 1 ∧ ∃ n, w' = w.drewN n := by
  have HS := Lib.hid (recF_start ho)
  have HLA := Lib.hid la
  clear ho la
  go_enter Tryd.func48, Tryd.ntmps48
  go_wp2_with fail
  go_loopw [3, 5] (fun v i wr => ∃ (m n b : Nat), m ≤ 5 ∧ v = .int .u64 (b : Nat) ∧ i = .int .i64 (m : Int) ∧ Hid (Lim b) ∧ Hid (recF m ∣ (a : Int) * b - 1) ∧ wr = w.drewN n)
    (fun _ i _ => (5 - intOf i).toNat)
  case atStart => exact ⟨0, 0, a, by omega, rfl, rfl, HLA, HS, rfl⟩
  case round =>
    obtain ⟨m, n, b, hm, rfl, rfl, HLB, HI, rfl⟩ := hrel
    by_cases hlt : (m : Int) < 5
    · obtain ⟨u, eu, -⟩ := wrap_nat ((a : Int) * (b : Int))
      obtain ⟨v, ev, -⟩ := wrap_nat (2 - (u : Int))
      obtain ⟨c, ec, lc⟩ := wrap_nat ((b : Int) * (v : Int))
      have HN : Hid (recF (m + 1) ∣ (a : Int) * c - 1) := by
        obtain ⟨k, hk⟩ := recip_wrap (a : Int) (b : Int)
        rw [eu, ev, ec] at hk
        exact recip_step HI.out (recF_step m (by omega)).1 (recF_step m (by omega)).2 ⟨k, hk⟩
      have HLC := Lib.hid lc
      have em : IntKind.i64.wrap ((m : Int) + 1) = ((m + 1 : Nat) : Int) := by rw [IntWalk.i64_in _ (by omega)]; simp
      clear lc HI HS
      go_wp2_with fail
      exact ⟨⟨m + 1, _, c, by omega, rfl, rfl, HLC, HN, rfl⟩, by simp [intOf] <;> omega⟩
    · obtain rfl : m = 5 := by omega
      have HE : Hid ((a * b) % 18446744073709551616 = 1) := by
        have h := HI.out
        obtain ⟨t, ht⟩ := h
        have e : (a : Int) * b = ((a * b : Nat) : Int) := by simp
        rw [e] at ht
        have f : recF 5 = 18446744073709551616 := rfl
        rw [f] at ht
        show _ = _
        generalize a * b = X at *
        omega
      clear HI HS
      go_wp2_with fail
      go_ret
      exact ⟨b, rfl, HLB.out, HE.out, _, rfl⟩
end Go.Proofs.YteaafnjflghlhaaDoor
namespace Go.Proofs.YteaafnjflghlhaaDoor
open Go.RowKit

/-- A field under way: some of its cells are still to be set. -/
structure Raw (X : World) (F p0 p1 p2 p3 p4 p5 : Nat) : Prop where
  hp : L6 X F 0 p0 p1 p2 p3 p4 p5
  c6 : ∃ u, X.cell? ⟨F, 6, none⟩ = some u
  c7 : ∃ u, X.cell? ⟨F, 7, none⟩ = some u
  ho : L6 X F 8 0 0 0 0 0 0
  hq : L6 X F 14 0 0 0 0 0 0
  hf : ∀ k, X.frozen? ⟨F, k, none⟩ = false
theorem Raw.new {w X : World} {p0 p1 p2 p3 p4 p5 : Nat} (hX : X = w.alloc (.cells #[.int .u64 (p0 : Nat), .int .u64 (p1 : Nat), .int .u64 (p2 : Nat), .int .u64 (p3 : Nat), .int .u64 (p4 : Nat), .int .u64 (p5 : Nat), .int .i64 0, .int .u64 0, .int .u64 0, .int .u64 0, .int .u64 0, .int .u64 0, .int .u64 0, .int .u64 0, .int .u64 0, .int .u64 0, .int .u64 0, .int .u64 0, .int .u64 0, .int .u64 0] 63)) : Raw X w.heap.size p0 p1 p2 p3 p4 p5 ∧ Below w.heap.size w X ∧ X.heap.size = w.heap.size + 1 := by
  subst hX
  have h := heap_alloc_new w (.cells #[.int .u64 (p0 : Nat), .int .u64 (p1 : Nat), .int .u64 (p2 : Nat), .int .u64 (p3 : Nat), .int .u64 (p4 : Nat), .int .u64 (p5 : Nat), .int .i64 0, .int .u64 0, .int .u64 0, .int .u64 0, .int .u64 0, .int .u64 0, .int .u64 0, .int .u64 0, .int .u64 0, .int .u64 0, .int .u64 0, .int .u64 0, .int .u64 0, .int .u64 0] 63)
  have c := fun j => cell_of_row _ w.heap.size j _ _ _ h
  exact ⟨⟨⟨c 0, c 1, c 2, c 3, c 4, c 5⟩, ⟨_, c 6⟩, ⟨_, c 7⟩, ⟨c 8, c 9, c 10, c 11, c 12, c 13⟩, ⟨c 14, c 15, c 16, c 17, c 18, c 19⟩, fun k => frozen_of_row _ w.heap.size k _ _ h⟩, (Below.refl _ _).alloc (Nat.le_refl _) _, by simp⟩
theorem Raw.keepB {w w' : World} {F p0 p1 p2 p3 p4 p5 : Nat} (h : Raw w F p0 p1 p2 p3 p4 p5) (hb : w'.heap[F]? = w.heap[F]?) : Raw w' F p0 p1 p2 p3 p4 p5 :=
  ⟨h.hp.keepB hb, by obtain ⟨u, hu⟩ := h.c6; exact ⟨u, (World.cell?_of_block (w := w) (a := ⟨F, 6, none⟩) hb).trans hu⟩, by obtain ⟨u, hu⟩ := h.c7; exact ⟨u, (World.cell?_of_block (w := w) (a := ⟨F, 7, none⟩) hb).trans hu⟩, h.ho.keepB hb, h.hq.keepB hb, fun k => (World.frozen?_of_block (w := w) (a := ⟨F, k, none⟩) hb).trans (h.hf k)⟩
/-- One of the two cells behind the prime is set. -/
theorem Raw.set {w : World} {F p0 p1 p2 p3 p4 p5 q : Nat} (h : Raw w F p0 p1 p2 p3 p4 p5) (hq : q = 6 ∨ q = 7) (v : Value) :
    Raw (w.setCell ⟨F, q, none⟩ v) F p0 p1 p2 p3 p4 p5 ∧ (w.setCell ⟨F, q, none⟩ v).cell? ⟨F, q, none⟩ = some v ∧ (∀ r, r ≠ q → (w.setCell ⟨F, q, none⟩ v).cell? ⟨F, r, none⟩ = w.cell? ⟨F, r, none⟩) ∧ Below F w (w.setCell ⟨F, q, none⟩ v) ∧ (w.setCell ⟨F, q, none⟩ v).heap.size = w.heap.size := by
  obtain ⟨u, hu⟩ : ∃ u, w.cell? ⟨F, q, none⟩ = some u := by rcases hq with rfl | rfl <;> first | exact h.c6 | exact h.c7
  have T := Turn.put0 hu v
  have hk : ∀ r, r ≠ q → (w.setCell ⟨F, q, none⟩ v).cell? ⟨F, r, none⟩ = w.cell? ⟨F, r, none⟩ := fun r hr => T.cell r hr
  refine ⟨⟨h.hp.keep (fun j hj => hk _ (by omega)), ?_, ?_, h.ho.keep (fun j hj => hk _ (by omega)), h.hq.keep (fun j hj => hk _ (by omega)), fun k => (T.frozen k).trans (h.hf k)⟩, T.at_, hk, ⟨T.os, T.tape, T.output, Nat.le_of_eq T.size.symm, fun k hk => T.block k (by omega)⟩, T.size⟩
  · by_cases e : (6 : Nat) = q
    · subst e; exact ⟨v, T.at_⟩
    · obtain ⟨u, hu⟩ := h.c6; exact ⟨u, (hk 6 e).trans hu⟩
  · by_cases e : (7 : Nat) = q
    · subst e; exact ⟨v, T.at_⟩
    · obtain ⟨u, hu⟩ := h.c7; exact ⟨u, (hk 7 e).trans hu⟩
theorem inv_neg {P p0 p1 p2 p3 p4 p5 b : Nat} (np : n6 p0 p1 p2 p3 p4 p5 = P) (lb : Lim b) (h : (p0 * b) % 18446744073709551616 = 1) : ∃ v : Nat, IntKind.u64.wrap (-(b : Int)) = (v : Int) ∧ (P * v + 1) % 18446744073709551616 = 0 := by
  unfold Lim at lb
  have hb : 0 < b := by
    rcases Nat.eq_zero_or_pos b with rfl | h0
    · simp at h
    · exact h0
  refine ⟨18446744073709551616 - b, by rw [IntKind.wrap_u64]; omega, ?_⟩
  have hP : P % 18446744073709551616 = p0 % 18446744073709551616 := by rw [← np]; unfold n6; omega
  have h2 : P * b % 18446744073709551616 = 1 := by rw [Nat.mul_mod, hP, ← Nat.mul_mod]; exact h
  have h3 : P * (18446744073709551616 - b) + P * b = 18446744073709551616 * P := by rw [← Nat.mul_add, Nat.sub_add_cancel (by omega), Nat.mul_comm]
  generalize P * (18446744073709551616 - b) = x at *
  generalize P * b = y at *
  omega

set_option maxRecDepth 100000 in
set_option maxHeartbeats 6400000 in
theorem fnew_c {P L K k p0 p1 p2 p3 p4 p5 : Nat} (w : World) (hk : FNum P L) (hK : K = k + 1) (hk6 : k < 6) (lp : Lim6 p0 p1 p2 p3 p4 p5) (np : n6 p0 p1 p2 p3 p4 p5 = P) (ho : p0 % 2 = 1) (hbl : (blen P + 63) / 64 = L) (hG : L6 w 0 (k * 6) p0 p1 p2 p3 p4 p5) :
    Calls Tryd.prog 25 #[.int .i64 (K : Nat)] w fun e w' => ∃ F, e = .returned (.tuple #[.pointer (some ⟨F, 0, none⟩), .int .i64 0]) ∧ FldAt P L w' F ∧ w.heap.size ≤ F ∧ Below w.heap.size w w' := by
  have hk1 : decide ((K : Int) < 1) = false := decide_eq_false (by omega)
  have hk2 : decide (6 < (K : Int)) = false := decide_eq_false (by omega)
  have e1 : IntKind.i64.wrap ((K : Int) - 1) = (k : Int) := by rw [IntWalk.i64_in _ (by omega)]; omega
  have hki : (k : Int) < 6 := by omega
  obtain ⟨c0, c1, c2, c3, c4, c5⟩ := hG
  obtain ⟨X, hX⟩ : ∃ X, X = w.alloc (.cells #[.int .u64 (p0 : Nat), .int .u64 (p1 : Nat), .int .u64 (p2 : Nat), .int .u64 (p3 : Nat), .int .u64 (p4 : Nat), .int .u64 (p5 : Nat), .int .i64 0, .int .u64 0, .int .u64 0, .int .u64 0, .int .u64 0, .int .u64 0, .int .u64 0, .int .u64 0, .int .u64 0, .int .u64 0, .int .u64 0, .int .u64 0, .int .u64 0, .int .u64 0] 63) := ⟨_, rfl⟩
  obtain ⟨hr, hb, hs⟩ := Raw.new hX
  have HX := Lib.hid hX
  have HR := Lib.hid hr
  have HB := Lib.hid hb
  have HS := Lib.hid hs
  have HK := Lib.hid hk
  have HLP := Lib.hid lp
  have HNP := Lib.hid np
  have HO := Lib.hid ho
  have HBL := Lib.hid hbl
  clear hX hr hb hs hk lp np ho hbl
  go_enter Tryd.func25, Tryd.ntmps25
  go_upto_region 4 with (fail)
  rw [← HX.out]
  clear HX c0 c1 c2 c3 c4 c5 hk1 hk2 e1 hki hK hk6
  obtain ⟨c0, c1, c2, c3, c4, c5⟩ := HR.out.hp
  simp only [Nat.zero_add] at c1 c2 c3 c4 c5
  have CT : Hid (Calls Tryd.prog 45 #[W6 p0 p1 p2 p3 p4 p5, .int .i64 48] X _) := ftext_c (N := 48) X HLP.out (by omega)
  go_wp2_with fail
  (with_reducible refine (CT.out).mono ?_)
  rintro e w2 ⟨rfl, zs, h1, h2, h3, h4, h5⟩
  have hv : dv 256 zs.reverse = P := (dv_told h1 h3 (by have := n6_lim HLP.out; rw [show (256 : Nat) ^ 48 = 39402006196394479212279040100143613805079739270465446667948293404245721771497210611414266254884915640806627990306816 by decide]; omega)).trans HNP.out
  have CB : Hid (Calls Tryd.prog 47 #[.slice (some ⟨X.heap.size + 1, 0, none⟩) 48 48] w2 fun e w' => e = .returned (.int .i64 (blen P : Nat)) ∧ w' = w2) := by
    have k := bits_n w2 h4.rd0 h2 (by omega)
    rw [h1, hv] at k
    exact k
  have hr2 := HR.out.keepB (h5.block w.heap.size (by rw [HS.out]; omega))
  have hbl := HBL.out
  obtain ⟨bl, ebl⟩ : ∃ b, b = blen P := ⟨_, rfl⟩
  rw [← ebl] at CB hbl
  obtain ⟨b63, eb3⟩ : ∃ b, b = bl + 63 := ⟨_, rfl⟩
  rw [← eb3] at hbl
  have hL := HK.out.limbs
  have g1 : IntKind.i64.wrap ((bl : Int) + 63) = (b63 : Int) := by rw [IntWalk.i64_in _ (by omega)]; omega
  have g2 : (b63 : Int).tdiv 64 = (L : Int) := by rw [Int.tdiv_eq_ediv_of_nonneg (by omega)]; omega
  have g3 : (b63 : Int) / 64 = (L : Int) := by omega
  have g4 : wrap64 (L : Int) = (L : Int) := IntWalk.wrap64_in _ (by omega)
  obtain ⟨u6, hu6⟩ := hr2.c6
  have hf6 := hr2.hf 6
  have HR2 := Lib.hid hr2
  have HB2 := Lib.hid (HB.out.trans (h5.mono (by rw [HS.out]; omega)))
  have HS2 : Hid (w.heap.size + 1 ≤ w2.heap.size) := Nat.le_trans (Nat.le_of_eq HS.out.symm) h5.size
  clear h1 h2 h3 h4 h5 hv hr2 hbl ebl eb3 hL CT c0 c1 c2 c3 c4 c5 HR HB HS
  go_wp2_with fail
  (with_reducible refine (CB.out).mono ?_)
  rintro e w3 ⟨rfl, rfl⟩
  clear CB
  go_upto_region 5 with (fail)
  obtain ⟨X3, hX3⟩ : ∃ X, X = w3.setCell ⟨w.heap.size, 6, none⟩ (.int .i64 (L : Nat)) := ⟨_, rfl⟩
  rw [← hX3]
  obtain ⟨hr3, h6, -, hb3, hs3⟩ := HR2.out.set (.inl rfl) (.int .i64 (L : Nat))
  rw [← hX3] at hr3 h6 hb3 hs3
  have c0 := hr3.hp.c0
  obtain ⟨u7, hu7⟩ := hr3.c7
  have hf7 := hr3.hf 7
  have HR3 := Lib.hid hr3
  have H6 := Lib.hid h6
  have HB3 := Lib.hid (HB2.out.trans hb3)
  have HS3 : Hid (w.heap.size + 1 ≤ X3.heap.size) := by show _ ≤ _; rw [hs3]; exact HS2.out
  have CR := Lib.hid (recip_c X3 HLP.out.1 HO.out)
  clear hX3 hr3 h6 hb3 hs3 hu6 hf6 g1 g2 g3 g4 HR2 HB2 HS2
  go_wp2_with fail
  (with_reducible refine (CR.out).mono ?_)
  rintro e w4 ⟨b, rfl, lb, hpb, n, rfl⟩
  obtain ⟨v, ev, hv⟩ := inv_neg HNP.out lb hpb
  have HIV := Lib.hid hv
  have HR4 : Hid (Raw (X3.drewN n) w.heap.size p0 p1 p2 p3 p4 p5) := HR3.out.keepB rfl
  have H64 : Hid ((X3.drewN n).cell? ⟨w.heap.size, 6, none⟩ = some (.int .i64 (L : Nat))) := H6.out
  have HB4 : Hid (Below w.heap.size w (X3.drewN n)) := ⟨HB3.out.os, HB3.out.tape, HB3.out.output, HB3.out.size, HB3.out.block⟩
  have HS4 : Hid (w.heap.size + 1 ≤ (X3.drewN n).heap.size) := HS3.out
  have hu74 : (X3.drewN n).cell? ⟨w.heap.size, 7, none⟩ = some u7 := hu7
  have hf74 : (X3.drewN n).frozen? ⟨w.heap.size, 7, none⟩ = false := hf7
  clear lb hpb hv CR HR3 H6 HB3 HS3 hu7 hf7 c0
  generalize X3.drewN n = X4 at *
  go_upto_region 6 with (fail)
  obtain ⟨X5, hX5⟩ : ∃ X, X = X4.setCell ⟨w.heap.size, 7, none⟩ (.int .u64 (v : Nat)) := ⟨_, rfl⟩
  rw [← hX5]
  obtain ⟨hr5, h7, hk5, hb5, hs5⟩ := HR4.out.set (.inr rfl) (.int .u64 (v : Nat))
  rw [← hX5] at hr5 h7 hk5 hb5 hs5
  have HP5 : Hid (FldP P L X5 w.heap.size p0 p1 p2 p3 p4 p5 v) := ⟨hr5.hp, HLP.out, HNP.out, (hk5 6 (by omega)).trans H64.out, h7, HIV.out⟩
  have HR5 := Lib.hid hr5
  have HB5 := Lib.hid (HB4.out.trans hb5)
  have HS5 : Hid (w.heap.size + 1 ≤ X5.heap.size) := by show _ ≤ _; rw [hs5]; exact HS4.out
  have CQ := Lib.hid (fsquare_c X5 HK.out HP5.out)
  clear hX5 hr5 h7 hk5 hb5 hs5 hu74 hf74 ev HR4 H64 HB4 HS4 HIV
  go_wp2_with fail
  (with_reducible refine (CQ.out).mono ?_)
  rintro e w6 ⟨q0, q1, q2, q3, q4, q5, rfl, lq, eq, hb6⟩
  have hr6 := HR5.out.keepB (hb6.block w.heap.size (by have := HS5.out; omega))
  have hp6 := HP5.out.keepB (hb6.block w.heap.size (by have := HS5.out; omega))
  obtain ⟨y0, y1, y2, y3, y4, y5⟩ := hr6.hq
  simp only [Nat.reduceAdd] at y1 y2 y3 y4 y5
  have f0 := hr6.hf 14
  have f1 := hr6.hf 15
  have f2 := hr6.hf 16
  have f3 := hr6.hf 17
  have f4 := hr6.hf 18
  have f5 := hr6.hf 19
  have HR6 := Lib.hid hr6
  have HP6 := Lib.hid hp6
  have HLQ := Lib.hid lq
  have HEQ := Lib.hid eq
  have HB6 := Lib.hid (HB5.out.trans (hb6.mono (by have := HS5.out; omega)))
  have HS6 : Hid (w.heap.size + 1 ≤ w6.heap.size) := Nat.le_trans HS5.out hb6.size
  clear lq eq hb6 hr6 hp6 CQ HR5 HP5 HB5 HS5
  go_upto_region 7 with (fail)
  obtain ⟨X7, hX7⟩ : ∃ X, X = (((((w6.setCell ⟨w.heap.size, 14, none⟩ (.int .u64 (q0 : Nat))).setCell ⟨w.heap.size, 15, none⟩ (.int .u64 (q1 : Nat))).setCell ⟨w.heap.size, 16, none⟩ (.int .u64 (q2 : Nat))).setCell ⟨w.heap.size, 17, none⟩ (.int .u64 (q3 : Nat))).setCell ⟨w.heap.size, 18, none⟩ (.int .u64 (q4 : Nat))).setCell ⟨w.heap.size, 19, none⟩ (.int .u64 (q5 : Nat)) := ⟨_, rfl⟩
  rw [← hX7]
  have h7 := put_six HR6.out.hq q0 q1 q2 q3 q4 q5
  simp only [Nat.reduceAdd] at h7
  rw [← hX7] at h7
  obtain ⟨k7, hq7⟩ := h7
  have hk7 : ∀ r, r < 14 → X7.cell? ⟨w.heap.size, r, none⟩ = w6.cell? ⟨w.heap.size, r, none⟩ := fun r hr => k7.cell r (by omega)
  have hp7 : FldP P L X7 w.heap.size p0 p1 p2 p3 p4 p5 v := ⟨HP6.out.hp.keep (fun j hj => hk7 _ (by omega)), HLP.out, HNP.out, (hk7 _ (by omega)).trans HP6.out.hL, (hk7 _ (by omega)).trans HP6.out.hv, HP6.out.iv⟩
  have ho7 : L6 X7 w.heap.size 8 0 0 0 0 0 0 := HR6.out.ho.keep (fun j hj => hk7 _ (by omega))
  have hf7 : ∀ k, X7.frozen? ⟨w.heap.size, k, none⟩ = false := fun k => (k7.frozen k).trans (HR6.out.hf k)
  have hq7' : L6 X7 w.heap.size 14 q0 q1 q2 q3 q4 q5 := hq7.keepB rfl
  have HB7 : Hid (Below w.heap.size w X7) := HB6.out.trans ⟨k7.os, k7.tape, k7.output, Nat.le_of_eq k7.size.symm, fun k hk => k7.block k (by omega)⟩
  have HS7 : Hid (w.heap.size + 1 ≤ X7.heap.size) := by have := k7.size; have := HS6.out; show _ ≤ _; exact Nat.le_trans HS6.out (Nat.le_of_eq k7.size.symm)
  have CL := Lib.hid (fleave_c X7 HK.out hp7 HLQ.out HEQ.out)
  have HP7 := Lib.hid hp7
  have HO7 := Lib.hid ho7
  have HF7 := Lib.hid hf7
  have HQ7 := Lib.hid hq7'
  clear y0 y1 y2 y3 y4 y5 f0 f1 f2 f3 f4 f5
  obtain ⟨y0, y1, y2, y3, y4, y5⟩ := hq7'
  simp only [Nat.reduceAdd] at y1 y2 y3 y4 y5
  clear hX7 k7 hq7 hk7 hp7 ho7 hf7 HR6 HP6 HB6 HS6
  go_wp2_with fail
  (with_reducible refine (CL.out).mono ?_)
  rintro e w8 ⟨o0, o1, o2, o3, o4, o5, rfl, lo, eo, hb8⟩
  have hbk := hb8.block w.heap.size (by have := HS7.out; omega)
  have hp8 := HP7.out.keepB hbk
  have ho8 := HO7.out.keepB hbk
  have hq8 := HQ7.out.keepB hbk
  have hf8 : ∀ k, w8.frozen? ⟨w.heap.size, k, none⟩ = false := fun k => (World.frozen?_of_block (w := X7) (a := ⟨w.heap.size, k, none⟩) hbk).trans (HF7.out k)
  clear y0 y1 y2 y3 y4 y5
  obtain ⟨y0, y1, y2, y3, y4, y5⟩ := ho8
  have HO8 : Hid (L6 w8 w.heap.size 8 0 0 0 0 0 0) := ⟨y0, y1, y2, y3, y4, y5⟩
  simp only [Nat.reduceAdd] at y1 y2 y3 y4 y5
  have f0 := hf8 8
  have f1 := hf8 9
  have f2 := hf8 10
  have f3 := hf8 11
  have f4 := hf8 12
  have f5 := hf8 13
  have HP8 := Lib.hid hp8
  have HQ8 := Lib.hid hq8
  have HLO := Lib.hid lo
  have HEO := Lib.hid eo
  have HB8 := Lib.hid (HB7.out.trans (hb8.mono (by have := HS7.out; omega)))
  clear hbk hp8 hq8 hf8 lo eo hb8 CL HP7 HO7 HQ7 HF7 HB7 HS7
  go_wp2_with fail
  obtain ⟨X9, hX9⟩ : ∃ X, X = (((((w8.setCell ⟨w.heap.size, 8, none⟩ (.int .u64 (o0 : Nat))).setCell ⟨w.heap.size, 9, none⟩ (.int .u64 (o1 : Nat))).setCell ⟨w.heap.size, 10, none⟩ (.int .u64 (o2 : Nat))).setCell ⟨w.heap.size, 11, none⟩ (.int .u64 (o3 : Nat))).setCell ⟨w.heap.size, 12, none⟩ (.int .u64 (o4 : Nat))).setCell ⟨w.heap.size, 13, none⟩ (.int .u64 (o5 : Nat)) := ⟨_, rfl⟩
  rw [← hX9]
  have h9 := put_six HO8.out o0 o1 o2 o3 o4 o5
  simp only [Nat.reduceAdd] at h9
  rw [← hX9] at h9
  obtain ⟨k9, ho9⟩ := h9
  have hk9 : ∀ r, (r < 8 ∨ 14 ≤ r) → X9.cell? ⟨w.heap.size, r, none⟩ = w8.cell? ⟨w.heap.size, r, none⟩ := fun r hr => k9.cell r (by omega)
  have HC : Hid (FldC P L X9 w.heap.size p0 p1 p2 p3 p4 p5 v o0 o1 o2 o3 o4 o5 q0 q1 q2 q3 q4 q5) := ⟨HP8.out.hp.keep (fun j hj => hk9 _ (by omega)), HLP.out, HNP.out, (hk9 _ (by omega)).trans HP8.out.hL, (hk9 _ (by omega)).trans HP8.out.hv, HP8.out.iv, ho9.keepB rfl, HLO.out, HEO.out, HQ8.out.keep (fun j hj => hk9 _ (by omega)), HLQ.out, HEQ.out⟩
  have HB9 : Hid (Below w.heap.size w X9) := HB8.out.trans ⟨k9.os, k9.tape, k9.output, Nat.le_of_eq k9.size.symm, fun k hk => k9.block k (by omega)⟩
  clear hX9 k9 ho9 hk9 y0 y1 y2 y3 y4 y5 f0 f1 f2 f3 f4 f5
  go_ret2
  exact ⟨w.heap.size, rfl, ⟨_, _, _, _, _, _, _, _, _, _, _, _, _, _, _, _, _, _, _, HC.out⟩, Nat.le_refl _, HB9.out⟩
end Go.Proofs.YteaafnjflghlhaaDoor
