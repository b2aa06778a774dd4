/- The contract of package word's divide: all its ways. -/
import Derived.Test.YtihffojljbgpcaaDivide
import Derived.Test.YtihffojljbgpcaaKnuth
import Derived.Deep.RegionWith
namespace Go.Proofs.Ytihffojljbgpcaa
open Go.RowKit

/-- Both results 0. -/
def RetDivZero (w : World) (e : Ending) (w' : World) : Prop := e = .returned (.tuple #[L8 0 0 0 0 0 0 0 0, W4 0 0 0 0]) ∧ Below w.heap.size w w'

set_option maxRecDepth 100000 in
set_option maxHeartbeats 1600000 in
theorem divide_zero {x0 x1 x2 x3 x4 x5 x6 x7 d0 d1 d2 d3 top wide : Nat} (htop : IsTop [x0, x1, x2, x3, x4, x5, x6, x7] top) (hw : IsTop [d0, d1, d2, d3] wide) (h0 : wide = 0) (w : World) :
    Calls Try.prog 113 #[L8 x0 x1 x2 x3 x4 x5 x6 x7, W4 d0 d1 d2 d3] w (RetDivZero w) := by
  have hwb : ((wide : Int) == 0) = true := by simp; omega
  go_enter Try.func113, Try.ntmps113
  go_wp2_with fail
  obtain ⟨gx, gd, gq, gr, gB⟩ := startD w 94 24 x0 x1 x2 x3 x4 x5 x6 x7 d0 d1 d2 d3 _ rfl
  generalize (((w.alloc (.cells #[.int .u64 (x0 : Nat), .int .u64 (x1 : Nat), .int .u64 (x2 : Nat), .int .u64 (x3 : Nat), .int .u64 (x4 : Nat), .int .u64 (x5 : Nat), .int .u64 (x6 : Nat), .int .u64 (x7 : Nat)] 94)).alloc (.cells #[.int .u64 (d0 : Nat), .int .u64 (d1 : Nat), .int .u64 (d2 : Nat), .int .u64 (d3 : Nat)] 24)).alloc
      (.cells #[.int .u64 0, .int .u64 0, .int .u64 0, .int .u64 0, .int .u64 0, .int .u64 0, .int .u64 0, .int .u64 0] 94)).alloc (.cells #[.int .u64 0, .int .u64 0, .int .u64 0, .int .u64 0] 24) = X at *
  have cX : ∀ n, Calls Try.prog 104 #[.slice (some ⟨w.heap.size, 0, none⟩) 8 8] (X.drewN n) fun e w'' => e = .returned (.int .i64 top) ∧ ∃ m, w'' = X.drewN m := fun n => Calls.quiet_of_same (limbs_k _ (gx.drewN n) (by simp) htop 8 rfl)
  have cD : ∀ n, Calls Try.prog 104 #[.slice (some ⟨w.heap.size + 1, 0, none⟩) 4 4] (X.drewN n) fun e w'' => e = .returned (.int .i64 wide) ∧ ∃ m, w'' = X.drewN m := fun n => Calls.quiet_of_same (limbs_k _ (gd.drewN n) (by simp) hw 4 rfl)
  go_quiet (first | (with_reducible exact cX _) | (with_reducible exact cD _))
  clear cX cD
  obtain ⟨ya, yb, yc, yd, ye, yf, yg, yh⟩ := gq.cells8
  obtain ⟨fa, fb, fc, fd, fe, ff, fg, fh⟩ := gq.free8
  obtain ⟨za, zb, zc, zd⟩ := gr.cells4
  obtain ⟨ga, gb, gc, ge⟩ := gr.free4
  go_wp2_with fail
  go_region
  all_goals go_wp2_with fail
  obtain ⟨k3, k4, hB2⟩ := put12 (gq.drewN (nq + 1)) (gr.drewN (nq + 1)) (by omega) (gB.trans (below_drewN _ _ (nq + 1))) (by omega) (by omega) 0 0 0 0 0 0 0 0 0 0 0 0 _ rfl
  clear ya yb yc yd ye yf yg yh fa fb fc fd fe ff fg fh za zb zc zd ga gb gc ge
  obtain ⟨ya, yb, yc, yd, ye, yf, yg, yh⟩ := k3.cells8
  obtain ⟨za, zb, zc, zd⟩ := k4.cells4
  exact bodyPost_ret (v := .tuple #[L8 0 0 0 0 0 0 0 0, W4 0 0 0 0]) (by simp only [Int.natCast_zero] at *; simp [results, Try.results113, go_sem, ya, yb, yc, yd, ye, yf, yg, yh, za, zb, zc, zd]) rfl ⟨rfl, hB2⟩

theorem less_math {x0 x1 x2 x3 x4 x5 x6 x7 d0 d1 d2 d3 d top wide : Nat} (hx : Lims [x0, x1, x2, x3, x4, x5, x6, x7]) (hd : IsW d0 d1 d2 d3 d) (htop : IsTop [x0, x1, x2, x3, x4, x5, x6, x7] top) (hw : IsTop [d0, d1, d2, d3] wide) (hlt : top < wide) :
    vl [x0, x1, x2, x3, x4, x5, x6, x7] = vl [x0, x1, x2, x3] ∧ vl [x0, x1, x2, x3] < d := by
  have hw4 : wide ≤ 4 := hw.1
  have e0 := htop.2.1 0
  have e1 := htop.2.1 1
  have e2 := htop.2.1 2
  have e3 := htop.2.1 3
  have e4 := htop.2.1 4 (by omega)
  have e5 := htop.2.1 5 (by omega)
  have e6 := htop.2.1 6 (by omega)
  have e7 := htop.2.1 7 (by omega)
  have hn := hw.2.2 (by omega)
  have l0 := hx x0 (by simp)
  have l1 := hx x1 (by simp)
  have l2 := hx x2 (by simp)
  simp only [List.getD_cons_zero, List.getD_cons_succ] at e0 e1 e2 e3 e4 e5 e6 e7
  subst e4 e5 e6 e7
  rw [hd.vals]
  clear htop hw hx hd
  simp only [Lim] at *
  refine ⟨by simp [vl], ?_⟩
  simp only [vl, Nat.mul_zero, Nat.add_zero]
  obtain rfl | rfl | rfl | rfl : wide = 1 ∨ wide = 2 ∨ wide = 3 ∨ wide = 4 := by omega
  · have := e0 (by omega); have := e1 (by omega); have := e2 (by omega); have := e3 (by omega); subst x0 x1 x2 x3; simp at hn ⊢; omega
  · have := e1 (by omega); have := e2 (by omega); have := e3 (by omega); subst x1 x2 x3; simp at hn ⊢; omega
  · have := e2 (by omega); have := e3 (by omega); subst x2 x3; simp at hn ⊢; omega
  · have := e3 (by omega); subst x3; simp at hn ⊢; omega

set_option maxRecDepth 100000 in
set_option maxHeartbeats 1600000 in
theorem divide_less {x0 x1 x2 x3 x4 x5 x6 x7 d0 d1 d2 d3 d top wide : Nat} (hx : Lims [x0, x1, x2, x3, x4, x5, x6, x7]) (hd : IsW d0 d1 d2 d3 d) (htop : IsTop [x0, x1, x2, x3, x4, x5, x6, x7] top) (hw : IsTop [d0, d1, d2, d3] wide) (hlt : top < wide) (w : World) :
    Calls Try.prog 113 #[L8 x0 x1 x2 x3 x4 x5 x6 x7, W4 d0 d1 d2 d3] w (RetDivide (vl [x0, x1, x2, x3, x4, x5, x6, x7]) d w) := by
  have hw4 : wide ≤ 4 := hw.1
  have hwb : ((wide : Int) == 0) = false := by simp; omega
  have hlt2 : (top : Int) < (wide : Int) := by omega
  go_enter Try.func113, Try.ntmps113
  go_wp2_with fail
  obtain ⟨gx, gd, gq, gr, gB⟩ := startD w 94 24 x0 x1 x2 x3 x4 x5 x6 x7 d0 d1 d2 d3 _ rfl
  generalize (((w.alloc (.cells #[.int .u64 (x0 : Nat), .int .u64 (x1 : Nat), .int .u64 (x2 : Nat), .int .u64 (x3 : Nat), .int .u64 (x4 : Nat), .int .u64 (x5 : Nat), .int .u64 (x6 : Nat), .int .u64 (x7 : Nat)] 94)).alloc (.cells #[.int .u64 (d0 : Nat), .int .u64 (d1 : Nat), .int .u64 (d2 : Nat), .int .u64 (d3 : Nat)] 24)).alloc
      (.cells #[.int .u64 0, .int .u64 0, .int .u64 0, .int .u64 0, .int .u64 0, .int .u64 0, .int .u64 0, .int .u64 0] 94)).alloc (.cells #[.int .u64 0, .int .u64 0, .int .u64 0, .int .u64 0] 24) = X at *
  have cX : ∀ n, Calls Try.prog 104 #[.slice (some ⟨w.heap.size, 0, none⟩) 8 8] (X.drewN n) fun e w'' => e = .returned (.int .i64 top) ∧ ∃ m, w'' = X.drewN m := fun n => Calls.quiet_of_same (limbs_k _ (gx.drewN n) (by simp) htop 8 rfl)
  have cD : ∀ n, Calls Try.prog 104 #[.slice (some ⟨w.heap.size + 1, 0, none⟩) 4 4] (X.drewN n) fun e w'' => e = .returned (.int .i64 wide) ∧ ∃ m, w'' = X.drewN m := fun n => Calls.quiet_of_same (limbs_k _ (gd.drewN n) (by simp) hw 4 rfl)
  go_quiet (first | (with_reducible exact cX _) | (with_reducible exact cD _))
  clear cX cD
  obtain ⟨ya, yb, yc, yd, ye, yf, yg, yh⟩ := gq.cells8
  obtain ⟨fa, fb, fc, fd, fe, ff, fg, fh⟩ := gq.free8
  obtain ⟨xa, xb, xc, xd, xe, xf, xg, xh⟩ := gx.cells8
  obtain ⟨hT, hTd⟩ := less_math hx hd htop hw hlt
  have lx : Lims [x0, x1, x2, x3, x4, x5, x6, x7] := hx
  go_wp2_with fail
  go_region_with (go_at_call 108; refine (low_c lx _).mono ?_; rintro e w2 ⟨r0, r1, r2, r3, rfl, hr, hb2⟩
                  have k1 := (gq.drewN (nq + 1)).below hb2 (gq.drewN (nq + 1)).lt
                  have k2 := (gr.drewN (nq + 1)).below hb2 (gr.drewN (nq + 1)).lt
                  obtain ⟨y0, y1, y2, y3, y4, y5, y6, y7⟩ := k1.cells8
                  obtain ⟨f0, f1, f2, f3, f4, f5, f6, f7⟩ := k1.free8
                  obtain ⟨z0, z1, z2, z3⟩ := k2.cells4
                  obtain ⟨g0, g1, g2, g3⟩ := k2.free4)
  all_goals go_wp2_with fail
  all_goals
    obtain ⟨k3, k4, hB2⟩ := put12 k1 k2 (by omega) ((gB.trans (below_drewN _ _ (nq + 1))).trans (hb2.mono (Nat.le_of_lt (Nat.lt_of_le_of_lt (by omega) (gq.drewN (nq + 1)).lt)))) (by omega) (by omega) 0 0 0 0 0 0 0 0 r0 r1 r2 r3 _ rfl
    clear y0 y1 y2 y3 y4 y5 y6 y7 f0 f1 f2 f3 f4 f5 f6 f7 z0 z1 z2 z3 g0 g1 g2 g3
    obtain ⟨y0, y1, y2, y3, y4, y5, y6, y7⟩ := k3.cells8
    obtain ⟨z0, z1, z2, z3⟩ := k4.cells4
    exact bodyPost_ret (v := .tuple #[L8 0 0 0 0 0 0 0 0, W4 r0 r1 r2 r3]) (by simp only [Int.natCast_zero] at *; simp [results, Try.results113, go_sem, y0, y1, y2, y3, y4, y5, y6, y7, z0, z1, z2, z3]) rfl
      ⟨0, 0, 0, 0, 0, 0, 0, 0, r0, r1, r2, r3, rfl, fun x hx => (by simp at hx; subst hx; simp [Lim]), by rw [hT, Nat.div_eq_of_lt hTd]; simp [vl], by rw [hT, Nat.mod_eq_of_lt hTd]; exact hr, hB2⟩

set_option maxRecDepth 100000 in
set_option maxHeartbeats 1600000 in
theorem divide_two {x0 x1 x2 x3 x4 x5 x6 x7 d0 d1 d2 d3 d top wide : Nat} (hx : Lims [x0, x1, x2, x3, x4, x5, x6, x7]) (hd : IsW d0 d1 d2 d3 d) (htop : IsTop [x0, x1, x2, x3, x4, x5, x6, x7] top) (hw : IsTop [d0, d1, d2, d3] wide) (h2 : 2 ≤ wide) (hle : wide ≤ top) (w : World) :
    Calls Try.prog 113 #[L8 x0 x1 x2 x3 x4 x5 x6 x7, W4 d0 d1 d2 d3] w (RetDivide (vl [x0, x1, x2, x3, x4, x5, x6, x7]) d w) := by
  have hw4 : wide ≤ 4 := hw.1
  have hwb : ((wide : Int) == 0) = false := by simp; omega
  have hwb1 : ((wide : Int) == 1) = false := by simp; omega
  have hlt2 : ¬ ((top : Int) < (wide : Int)) := by omega
  go_enter Try.func113, Try.ntmps113
  go_wp2_with fail
  obtain ⟨gx, gd, gq, gr, gB⟩ := startD w 94 24 x0 x1 x2 x3 x4 x5 x6 x7 d0 d1 d2 d3 _ rfl
  generalize (((w.alloc (.cells #[.int .u64 (x0 : Nat), .int .u64 (x1 : Nat), .int .u64 (x2 : Nat), .int .u64 (x3 : Nat), .int .u64 (x4 : Nat), .int .u64 (x5 : Nat), .int .u64 (x6 : Nat), .int .u64 (x7 : Nat)] 94)).alloc (.cells #[.int .u64 (d0 : Nat), .int .u64 (d1 : Nat), .int .u64 (d2 : Nat), .int .u64 (d3 : Nat)] 24)).alloc
      (.cells #[.int .u64 0, .int .u64 0, .int .u64 0, .int .u64 0, .int .u64 0, .int .u64 0, .int .u64 0, .int .u64 0] 94)).alloc (.cells #[.int .u64 0, .int .u64 0, .int .u64 0, .int .u64 0] 24) = X at *
  have cX : ∀ n, Calls Try.prog 104 #[.slice (some ⟨w.heap.size, 0, none⟩) 8 8] (X.drewN n) fun e w'' => e = .returned (.int .i64 top) ∧ ∃ m, w'' = X.drewN m := fun n => Calls.quiet_of_same (limbs_k _ (gx.drewN n) (by simp) htop 8 rfl)
  have cD : ∀ n, Calls Try.prog 104 #[.slice (some ⟨w.heap.size + 1, 0, none⟩) 4 4] (X.drewN n) fun e w'' => e = .returned (.int .i64 wide) ∧ ∃ m, w'' = X.drewN m := fun n => Calls.quiet_of_same (limbs_k _ (gd.drewN n) (by simp) hw 4 rfl)
  go_quiet (first | (with_reducible exact cX _) | (with_reducible exact cD _))
  clear cX cD
  obtain ⟨y0, y1, y2, y3, y4, y5, y6, y7⟩ := gx.cells8
  obtain ⟨z0, z1, z2, z3⟩ := gd.cells4
  go_wp2_with fail
  refine (divLimbs_c hx htop hd hw h2 hle _).mono ?_
  rintro e w2 ⟨q0, q1, q2, q3, q4, q5, q6, q7, r0, r1, r2, r3, rfl, lq, hq, hr, hb2⟩
  have HQ := Lib.hid hq
  clear hq y0 y1 y2 y3 y4 y5 y6 y7 z0 z1 z2 z3
  have k1 := (gq.drewN nq).below hb2 gq.lt
  have k2 := (gr.drewN nq).below hb2 gr.lt
  obtain ⟨y0, y1, y2, y3, y4, y5, y6, y7⟩ := k1.cells8
  obtain ⟨f0, f1, f2, f3, f4, f5, f6, f7⟩ := k1.free8
  obtain ⟨z0, z1, z2, z3⟩ := k2.cells4
  obtain ⟨g0, g1, g2, g3⟩ := k2.free4
  go_wp2_with fail
  obtain ⟨k3, k4, hB2⟩ := put12 k1 k2 (by omega) ((gB.trans (below_drewN _ _ nq)).trans (hb2.mono (Nat.le_of_lt (Nat.lt_of_le_of_lt (by omega) gq.lt)))) (by omega) (by omega) q0 q1 q2 q3 q4 q5 q6 q7 r0 r1 r2 r3 _ rfl
  clear y0 y1 y2 y3 y4 y5 y6 y7 f0 f1 f2 f3 f4 f5 f6 f7 z0 z1 z2 z3 g0 g1 g2 g3
  generalize ((((((((((((w2.setCell ⟨w.heap.size + 1 + 1, 0, none⟩ (.int .u64 (q0 : Int))).setCell ⟨w.heap.size + 1 + 1, 1, none⟩ (.int .u64 (q1 : Int))).setCell ⟨w.heap.size + 1 + 1, 2, none⟩ (.int .u64 (q2 : Int))).setCell ⟨w.heap.size + 1 + 1, 3, none⟩ (.int .u64 (q3 : Int))).setCell ⟨w.heap.size + 1 + 1, 4, none⟩ (.int .u64 (q4 : Int))).setCell ⟨w.heap.size + 1 + 1, 5, none⟩ (.int .u64 (q5 : Int))).setCell ⟨w.heap.size + 1 + 1, 6, none⟩ (.int .u64 (q6 : Int))).setCell ⟨w.heap.size + 1 + 1, 7, none⟩ (.int .u64 (q7 : Int))).setCell ⟨w.heap.size + 1 + 1 + 1, 0, none⟩ (.int .u64 (r0 : Int))).setCell ⟨w.heap.size + 1 + 1 + 1, 1, none⟩ (.int .u64 (r1 : Int))).setCell ⟨w.heap.size + 1 + 1 + 1, 2, none⟩ (.int .u64 (r2 : Int))).setCell ⟨w.heap.size + 1 + 1 + 1, 3, none⟩ (.int .u64 (r3 : Int))) = Y at *
  obtain ⟨y0, y1, y2, y3, y4, y5, y6, y7⟩ := k3.cells8
  obtain ⟨z0, z1, z2, z3⟩ := k4.cells4
  exact bodyPost_ret (v := .tuple #[L8 q0 q1 q2 q3 q4 q5 q6 q7, W4 r0 r1 r2 r3]) (by simp [results, Try.results113, go_sem, y0, y1, y2, y3, y4, y5, y6, y7, z0, z1, z2, z3]) rfl
    ⟨q0, q1, q2, q3, q4, q5, q6, q7, r0, r1, r2, r3, rfl, lq, HQ.out, hr, hB2⟩
end Go.Proofs.Ytihffojljbgpcaa
