/- Package field's plus. Written by wip/genfplus.py. -/
import Derived.Test.YteaafnjflghlhaaDoorFlBelow
import Derived.Deep.RegionWith
namespace Go.Proofs.YteaafnjflghlhaaDoor
open Go.RowKit

/-- One cell has turned. -/
structure Turn (g q : Nat) (v : Value) (w w' : World) : Prop where
  os : w'.os = w.os
  tape : w'.tape = w.tape
  output : w'.output = w.output
  size : w'.heap.size = w.heap.size
  block : ∀ k, k ≠ g → w'.heap[k]? = w.heap[k]?
  far : ∀ a : Addr, a.block ≠ g → w'.cell? a = w.cell? a
  at_ : w'.cell? ⟨g, q, none⟩ = some v
  cell : ∀ r, r ≠ q → w'.cell? ⟨g, r, none⟩ = w.cell? ⟨g, r, none⟩
  frozen : ∀ r, w'.frozen? ⟨g, r, none⟩ = w.frozen? ⟨g, r, none⟩
theorem Turn.put {g q : Nat} {z : Value} {w : World} (h : w.cell? ⟨g, q, none⟩ = some z) (v : Value) : Turn g q v w (w.setCell ⟨g, q, none⟩ v).drew :=
  ⟨rfl, rfl, rfl, by simp [World.setCell], fun k hk => Below.heap_setCell w ⟨g, q, none⟩ v k hk, fun a ha => World.cell?_setCell_other w _ a v (fun e => ha (by rw [← e])), World.cell?_setCell_same w _ v h, fun r hr => World.cell?_setCell_other w _ _ v (fun e => hr (by simpa using e.symm)), fun r => World.frozen?_setCell w _ _ v⟩
/-- Only six cells of one block may have turned. -/
structure Put6 (g o : Nat) (w w' : World) : Prop where
  os : w'.os = w.os
  tape : w'.tape = w.tape
  output : w'.output = w.output
  size : w'.heap.size = w.heap.size
  block : ∀ k, k ≠ g → w'.heap[k]? = w.heap[k]?
  far : ∀ a : Addr, a.block ≠ g → w'.cell? a = w.cell? a
  cell : ∀ q, ¬ (o ≤ q ∧ q < o + 6) → w'.cell? ⟨g, q, none⟩ = w.cell? ⟨g, q, none⟩
  frozen : ∀ q, w'.frozen? ⟨g, q, none⟩ = w.frozen? ⟨g, q, none⟩
theorem Put6.refl (g o : Nat) (w : World) : Put6 g o w w := ⟨rfl, rfl, rfl, rfl, fun _ _ => rfl, fun _ _ => rfl, fun _ _ => rfl, fun _ => rfl⟩
theorem Put6.trans {g o : Nat} {a b c : World} (h : Put6 g o a b) (k : Put6 g o b c) : Put6 g o a c :=
  ⟨k.os.trans h.os, k.tape.trans h.tape, k.output.trans h.output, k.size.trans h.size, fun i hi => (k.block i hi).trans (h.block i hi), fun i hi => (k.far i hi).trans (h.far i hi), fun q hq => (k.cell q hq).trans (h.cell q hq), fun q => (k.frozen q).trans (h.frozen q)⟩
theorem Put6.drewN {g o : Nat} {a b : World} (h : Put6 g o a b) (n : Nat) : Put6 g o a (b.drewN n) := ⟨h.os, h.tape, h.output, h.size, h.block, h.far, h.cell, h.frozen⟩
theorem Put6.turn {g o i : Nat} {v : Value} {a b c : World} (h : Put6 g o a b) (k : Turn g (o + i) v b c) (hi : i < 6) : Put6 g o a c :=
  ⟨k.os.trans h.os, k.tape.trans h.tape, k.output.trans h.output, k.size.trans h.size, fun i hi => (k.block i hi).trans (h.block i hi), fun i hi => (k.far i hi).trans (h.far i hi), fun q hq => (k.cell q (by omega)).trans (h.cell q hq), fun q => (k.frozen q).trans (h.frozen q)⟩
/-- Two places of numbers: the same one, or apart. -/
def Apart (g o f p : Nat) : Prop := (g = f ∧ o = p) ∨ g ≠ f
/-- What lies behind the turned cell stands as it did. -/
theorem Turn.later {g o f p i k : Nat} {v : Value} {w w' : World} (h : Turn g (o + i) v w w') (a : Apart g o f p) (hk : i < k) : w'.cell? ⟨f, p + k, none⟩ = w.cell? ⟨f, p + k, none⟩ := by
  rcases a with ⟨rfl, rfl⟩ | a
  · exact h.cell _ (by omega)
  · exact h.far _ (fun e => a e.symm)
theorem Turn.other {g o i k : Nat} {v : Value} {w w' : World} (h : Turn g (o + i) v w w') (hk : i ≠ k) : w'.cell? ⟨g, o + k, none⟩ = w.cell? ⟨g, o + k, none⟩ := h.cell _ (by omega)

/-- A statement that ends in one way. -/
def PtQ (F : Nat → Nat → Act) (R : Nat → Nat → World → Prop) : Exit → Act → World → Prop
  | .normal, a, w => ∃ s k, R s k w ∧ a = F s k
  | _, _, _ => False
/-- Its orders are walked, and what follows but once. -/
theorem wp_point {c : Code} {P : Program} {Q : Exit → Act → World → Prop} {a : Act} {w : World} (F : Nat → Nat → Act) (R : Nat → Nat → World → Prop) (h : c.wp P (PtQ F R) a w) (k : ∀ s k w', R s k w' → Q .normal (F s k) w') : c.wp P Q a w :=
  Code.wp_mono (fun ex a' w' h => by
    cases ex
    case normal =>
      obtain ⟨s, k', hr, rfl⟩ := h
      exact k s k' w' hr
    all_goals exact h.elim) h

theorem plus_math {x0 x1 x2 x3 x4 x5 y0 y1 y2 y3 y4 y5 s0 s1 s2 s3 s4 s5 k0 k1 k2 k3 k4 k5 : Nat} (A0 : AddC x0 y0 0 s0 k0) (A1 : AddC x1 y1 k0 s1 k1) (A2 : AddC x2 y2 k1 s2 k2) (A3 : AddC x3 y3 k2 s3 k3) (A4 : AddC x4 y4 k3 s4 k4) (A5 : AddC x5 y5 k4 s5 k5) (h0 : Lim s0) (h1 : Lim s1) (h2 : Lim s2) (h3 : Lim s3) (h4 : Lim s4) (h5 : Lim s5) :
    n6 s0 s1 s2 s3 s4 s5 = (n6 x0 x1 x2 x3 x4 x5 + n6 y0 y1 y2 y3 y4 y5) % 39402006196394479212279040100143613805079739270465446667948293404245721771497210611414266254884915640806627990306816 := by
  have e0 := A0.1
  have e1 := A1.1
  have e2 := A2.1
  have e3 := A3.1
  have e4 := A4.1
  have e5 := A5.1
  unfold Lim at h0 h1 h2 h3 h4 h5
  unfold n6
  clear A0 A1 A2 A3 A4 A5
  omega

set_option maxRecDepth 100000 in
set_option maxHeartbeats 6400000 in
theorem fplus_c {g o f p h q x0 x1 x2 x3 x4 x5 y0 y1 y2 y3 y4 y5 : Nat} (w : World) (hx : L6 w f p x0 x1 x2 x3 x4 x5) (hy : L6 w h q y0 y1 y2 y3 y4 y5) (lx : Lim6 x0 x1 x2 x3 x4 x5) (ly : Lim6 y0 y1 y2 y3 y4 y5)
    (hz : ∃ z0 z1 z2 z3 z4 z5, L6 w g o z0 z1 z2 z3 z4 z5) (hf : ∀ k, w.frozen? ⟨g, k, none⟩ = false) (a1 : Apart g o f p) (a2 : Apart g o h q) :
    Calls Tryd.prog 72 #[.pointer (some ⟨g, o, none⟩), .pointer (some ⟨f, p, none⟩), .pointer (some ⟨h, q, none⟩)] w fun e w' => e = .returned (.tuple #[]) ∧ Put6 g o w w' ∧
      ∃ s0 s1 s2 s3 s4 s5, L6 w' g o s0 s1 s2 s3 s4 s5 ∧ Lim6 s0 s1 s2 s3 s4 s5 ∧ n6 s0 s1 s2 s3 s4 s5 = (n6 x0 x1 x2 x3 x4 x5 + n6 y0 y1 y2 y3 y4 y5) % 39402006196394479212279040100143613805079739270465446667948293404245721771497210611414266254884915640806627990306816 := by
  obtain ⟨z0, z1, z2, z3, z4, z5, hz⟩ := hz
  obtain ⟨la0, la1, la2, la3, la4, la5⟩ := lx
  obtain ⟨lb0, lb1, lb2, lb3, lb4, lb5⟩ := ly
  have HX := Lib.hid hx
  have HY := Lib.hid hy
  have HZ := Lib.hid hz
  have HF := Lib.hid hf
  have HA1 := Lib.hid a1
  have HA2 := Lib.hid a2
  clear hx hy hz hf a1 a2
  go_enter Tryd.func72, Tryd.ntmps72
  have c0 : w.cell? ⟨f, p, none⟩ = some (.int .u64 (x0 : Nat)) := HX.out.c0
  have d0 : w.cell? ⟨h, q, none⟩ = some (.int .u64 (y0 : Nat)) := HY.out.c0
  have e0 : w.cell? ⟨g, o, none⟩ = some (.int .u64 (z0 : Nat)) := HZ.out.c0
  have f0 : w.frozen? ⟨g, o, none⟩ = false := HF.out (o)
  go_upto_region 1 with (fail)
  apply wp_point (R := fun s k w1 => AddC x0 y0 0 s k ∧ k ≤ 1 ∧ Lim s ∧ Turn g (o + 0) (.int .u64 (s : Nat)) w w1)
  case h =>
    go_region_with (refine upon_add0 _ _ _ la0 lb0 ?_; intro s0 k0 A0 hk0 ls0)
    all_goals
      go_simp
      exact ⟨s0, k0, ⟨A0, hk0, ls0, Turn.put e0 _⟩, rfl⟩
  rintro s0 k0 W0 ⟨A0, hk0, ls0, T0⟩
  replace T0 := Lib.hid T0
  have B0 := Lib.hid A0
  clear A0 c0 d0 e0 f0
  have c1 : W0.cell? ⟨f, p + 1, none⟩ = some (.int .u64 (x1 : Nat)) := ((T0.out.later (k := 1) HA1.out (by omega)).trans HX.out.c1)
  have d1 : W0.cell? ⟨h, q + 1, none⟩ = some (.int .u64 (y1 : Nat)) := ((T0.out.later (k := 1) HA2.out (by omega)).trans HY.out.c1)
  have e1 : W0.cell? ⟨g, o + 1, none⟩ = some (.int .u64 (z1 : Nat)) := ((T0.out.other (k := 1) (by omega)).trans HZ.out.c1)
  have f1 : W0.frozen? ⟨g, o + 1, none⟩ = false := ((T0.out.frozen _).trans (HF.out (o + 1)))
  go_upto_region 2 with (fail)
  apply wp_point (R := fun s k w1 => AddC x1 y1 k0 s k ∧ k ≤ 1 ∧ Lim s ∧ Turn g (o + 1) (.int .u64 (s : Nat)) W0 w1)
  case h =>
    go_region_with (refine upon_add _ _ _ hk0 _ la1 lb1 ?_; intro s1 k1 A1 hk1 ls1)
    all_goals
      go_simp
      exact ⟨s1, k1, ⟨A1, hk1, ls1, Turn.put e1 _⟩, rfl⟩
  rintro s1 k1 W1 ⟨A1, hk1, ls1, T1⟩
  replace T1 := Lib.hid T1
  have B1 := Lib.hid A1
  clear A1 c1 d1 e1 f1
  have c2 : W1.cell? ⟨f, p + 2, none⟩ = some (.int .u64 (x2 : Nat)) := ((T1.out.later (k := 2) HA1.out (by omega)).trans ((T0.out.later (k := 2) HA1.out (by omega)).trans HX.out.c2))
  have d2 : W1.cell? ⟨h, q + 2, none⟩ = some (.int .u64 (y2 : Nat)) := ((T1.out.later (k := 2) HA2.out (by omega)).trans ((T0.out.later (k := 2) HA2.out (by omega)).trans HY.out.c2))
  have e2 : W1.cell? ⟨g, o + 2, none⟩ = some (.int .u64 (z2 : Nat)) := ((T1.out.other (k := 2) (by omega)).trans ((T0.out.other (k := 2) (by omega)).trans HZ.out.c2))
  have f2 : W1.frozen? ⟨g, o + 2, none⟩ = false := ((T1.out.frozen _).trans (((T0.out.frozen _).trans (HF.out (o + 2)))))
  go_upto_region 3 with (fail)
  apply wp_point (R := fun s k w1 => AddC x2 y2 k1 s k ∧ k ≤ 1 ∧ Lim s ∧ Turn g (o + 2) (.int .u64 (s : Nat)) W1 w1)
  case h =>
    go_region_with (refine upon_add _ _ _ hk1 _ la2 lb2 ?_; intro s2 k2 A2 hk2 ls2)
    all_goals
      go_simp
      exact ⟨s2, k2, ⟨A2, hk2, ls2, Turn.put e2 _⟩, rfl⟩
  rintro s2 k2 W2 ⟨A2, hk2, ls2, T2⟩
  replace T2 := Lib.hid T2
  have B2 := Lib.hid A2
  clear A2 c2 d2 e2 f2
  have c3 : W2.cell? ⟨f, p + 3, none⟩ = some (.int .u64 (x3 : Nat)) := ((T2.out.later (k := 3) HA1.out (by omega)).trans ((T1.out.later (k := 3) HA1.out (by omega)).trans ((T0.out.later (k := 3) HA1.out (by omega)).trans HX.out.c3)))
  have d3 : W2.cell? ⟨h, q + 3, none⟩ = some (.int .u64 (y3 : Nat)) := ((T2.out.later (k := 3) HA2.out (by omega)).trans ((T1.out.later (k := 3) HA2.out (by omega)).trans ((T0.out.later (k := 3) HA2.out (by omega)).trans HY.out.c3)))
  have e3 : W2.cell? ⟨g, o + 3, none⟩ = some (.int .u64 (z3 : Nat)) := ((T2.out.other (k := 3) (by omega)).trans ((T1.out.other (k := 3) (by omega)).trans ((T0.out.other (k := 3) (by omega)).trans HZ.out.c3)))
  have f3 : W2.frozen? ⟨g, o + 3, none⟩ = false := ((T2.out.frozen _).trans (((T1.out.frozen _).trans (((T0.out.frozen _).trans (HF.out (o + 3)))))))
  go_upto_region 4 with (fail)
  apply wp_point (R := fun s k w1 => AddC x3 y3 k2 s k ∧ k ≤ 1 ∧ Lim s ∧ Turn g (o + 3) (.int .u64 (s : Nat)) W2 w1)
  case h =>
    go_region_with (refine upon_add _ _ _ hk2 _ la3 lb3 ?_; intro s3 k3 A3 hk3 ls3)
    all_goals
      go_simp
      exact ⟨s3, k3, ⟨A3, hk3, ls3, Turn.put e3 _⟩, rfl⟩
  rintro s3 k3 W3 ⟨A3, hk3, ls3, T3⟩
  replace T3 := Lib.hid T3
  have B3 := Lib.hid A3
  clear A3 c3 d3 e3 f3
  have c4 : W3.cell? ⟨f, p + 4, none⟩ = some (.int .u64 (x4 : Nat)) := ((T3.out.later (k := 4) HA1.out (by omega)).trans ((T2.out.later (k := 4) HA1.out (by omega)).trans ((T1.out.later (k := 4) HA1.out (by omega)).trans ((T0.out.later (k := 4) HA1.out (by omega)).trans HX.out.c4))))
  have d4 : W3.cell? ⟨h, q + 4, none⟩ = some (.int .u64 (y4 : Nat)) := ((T3.out.later (k := 4) HA2.out (by omega)).trans ((T2.out.later (k := 4) HA2.out (by omega)).trans ((T1.out.later (k := 4) HA2.out (by omega)).trans ((T0.out.later (k := 4) HA2.out (by omega)).trans HY.out.c4))))
  have e4 : W3.cell? ⟨g, o + 4, none⟩ = some (.int .u64 (z4 : Nat)) := ((T3.out.other (k := 4) (by omega)).trans ((T2.out.other (k := 4) (by omega)).trans ((T1.out.other (k := 4) (by omega)).trans ((T0.out.other (k := 4) (by omega)).trans HZ.out.c4))))
  have f4 : W3.frozen? ⟨g, o + 4, none⟩ = false := ((T3.out.frozen _).trans (((T2.out.frozen _).trans (((T1.out.frozen _).trans (((T0.out.frozen _).trans (HF.out (o + 4)))))))))
  go_upto_region 5 with (fail)
  apply wp_point (R := fun s k w1 => AddC x4 y4 k3 s k ∧ k ≤ 1 ∧ Lim s ∧ Turn g (o + 4) (.int .u64 (s : Nat)) W3 w1)
  case h =>
    go_region_with (refine upon_add _ _ _ hk3 _ la4 lb4 ?_; intro s4 k4 A4 hk4 ls4)
    all_goals
      go_simp
      exact ⟨s4, k4, ⟨A4, hk4, ls4, Turn.put e4 _⟩, rfl⟩
  rintro s4 k4 W4 ⟨A4, hk4, ls4, T4⟩
  replace T4 := Lib.hid T4
  have B4 := Lib.hid A4
  clear A4 c4 d4 e4 f4
  have c5 : W4.cell? ⟨f, p + 5, none⟩ = some (.int .u64 (x5 : Nat)) := ((T4.out.later (k := 5) HA1.out (by omega)).trans ((T3.out.later (k := 5) HA1.out (by omega)).trans ((T2.out.later (k := 5) HA1.out (by omega)).trans ((T1.out.later (k := 5) HA1.out (by omega)).trans ((T0.out.later (k := 5) HA1.out (by omega)).trans HX.out.c5)))))
  have d5 : W4.cell? ⟨h, q + 5, none⟩ = some (.int .u64 (y5 : Nat)) := ((T4.out.later (k := 5) HA2.out (by omega)).trans ((T3.out.later (k := 5) HA2.out (by omega)).trans ((T2.out.later (k := 5) HA2.out (by omega)).trans ((T1.out.later (k := 5) HA2.out (by omega)).trans ((T0.out.later (k := 5) HA2.out (by omega)).trans HY.out.c5)))))
  have e5 : W4.cell? ⟨g, o + 5, none⟩ = some (.int .u64 (z5 : Nat)) := ((T4.out.other (k := 5) (by omega)).trans ((T3.out.other (k := 5) (by omega)).trans ((T2.out.other (k := 5) (by omega)).trans ((T1.out.other (k := 5) (by omega)).trans ((T0.out.other (k := 5) (by omega)).trans HZ.out.c5)))))
  have f5 : W4.frozen? ⟨g, o + 5, none⟩ = false := ((T4.out.frozen _).trans (((T3.out.frozen _).trans (((T2.out.frozen _).trans (((T1.out.frozen _).trans (((T0.out.frozen _).trans (HF.out (o + 5)))))))))))
  go_upto_region 6 with (fail)
  apply wp_point (R := fun s k w1 => AddC x5 y5 k4 s k ∧ k ≤ 1 ∧ Lim s ∧ Turn g (o + 5) (.int .u64 (s : Nat)) W4 w1)
  case h =>
    go_region_with (refine upon_add _ _ _ hk4 _ la5 lb5 ?_; intro s5 k5 A5 hk5 ls5)
    all_goals
      go_simp
      exact ⟨s5, k5, ⟨A5, hk5, ls5, Turn.put e5 _⟩, rfl⟩
  rintro s5 k5 W5 ⟨A5, hk5, ls5, T5⟩
  replace T5 := Lib.hid T5
  have B5 := Lib.hid A5
  clear A5 c5 d5 e5 f5
  go_simp
  go_end0
  exact ⟨rfl, ((((((Put6.refl g o w).turn T0.out (by omega)).turn T1.out (by omega)).turn T2.out (by omega)).turn T3.out (by omega)).turn T4.out (by omega)).turn T5.out (by omega), s0, s1, s2, s3, s4, s5, ⟨(T5.out.other (k := 0) (by omega)).trans ((T4.out.other (k := 0) (by omega)).trans ((T3.out.other (k := 0) (by omega)).trans ((T2.out.other (k := 0) (by omega)).trans ((T1.out.other (k := 0) (by omega)).trans (T0.out.at_))))), (T5.out.other (k := 1) (by omega)).trans ((T4.out.other (k := 1) (by omega)).trans ((T3.out.other (k := 1) (by omega)).trans ((T2.out.other (k := 1) (by omega)).trans (T1.out.at_)))), (T5.out.other (k := 2) (by omega)).trans ((T4.out.other (k := 2) (by omega)).trans ((T3.out.other (k := 2) (by omega)).trans (T2.out.at_))), (T5.out.other (k := 3) (by omega)).trans ((T4.out.other (k := 3) (by omega)).trans (T3.out.at_)), (T5.out.other (k := 4) (by omega)).trans (T4.out.at_), T5.out.at_⟩, ⟨ls0, ls1, ls2, ls3, ls4, ls5⟩, plus_math B0.out B1.out B2.out B3.out B4.out B5.out ls0 ls1 ls2 ls3 ls4 ls5⟩
end Go.Proofs.YteaafnjflghlhaaDoor
