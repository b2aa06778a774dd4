/- The contract of package word's divideByLimb. -/
import Derived.Test.YtihffojljbgpcaaWordLeaf
import Derived.Test.YtihffojljbgpcaaWordMath
import Derived.Test.YtihffojljbgpcaaDiv64
import Derived.Deep.RegionWith
namespace Go.Proofs.Ytihffojljbgpcaa
open Go.RowKit

/-- Quotient (eight limbs) and rest (four) of T by d. -/
def RetDivide (T d : Nat) (w : World) (e : Ending) (w' : World) : Prop := ∃ q0 q1 q2 q3 q4 q5 q6 q7 r0 r1 r2 r3 : Nat, e = .returned (.tuple #[L8 q0 q1 q2 q3 q4 q5 q6 q7, W4 r0 r1 r2 r3]) ∧
  Lims [q0, q1, q2, q3, q4, q5, q6, q7] ∧ vl [q0, q1, q2, q3, q4, q5, q6, q7] = T / d ∧ IsW r0 r1 r2 r3 (T % d) ∧ Below w.heap.size w w'

/-- What stands in memory while divideByLimb runs. -/
def DlMem (w wr : World) (xs qs : List Nat) : Prop := Arr wr w.heap.size 94 xs ∧ Arr wr (w.heap.size + 1) 94 qs ∧ Arr wr (w.heap.size + 1 + 1) 24 [0, 0, 0, 0] ∧ Below w.heap.size w wr
theorem DlMem.step {w wr : World} {xs qs : List Nat} (h : DlMem w wr xs qs) (n j l : Nat) : DlMem w ((wr.drewN n).setCell ⟨w.heap.size + 1, j, none⟩ (.int .u64 (l : Int))) xs (qs.set j l) :=
  ⟨(h.1.drewN n).far (p := ⟨w.heap.size + 1, j, none⟩) (by simp) _, (h.2.1.drewN n).set j l, (h.2.2.1.drewN n).far (p := ⟨w.heap.size + 1, j, none⟩) (by simp) _,
    ((⟨h.2.2.2.os, h.2.2.2.tape, h.2.2.2.output, h.2.2.2.size, h.2.2.2.block⟩ : Below w.heap.size w (wr.drewN n))).setCell (p := ⟨w.heap.size + 1, j, none⟩) (by simp) _⟩

set_option maxRecDepth 100000 in
set_option maxHeartbeats 1600000 in
theorem divLimb_c {x0 x1 x2 x3 x4 x5 x6 x7 d top : Nat} (hx : Lims [x0, x1, x2, x3, x4, x5, x6, x7]) (ht : IsTop [x0, x1, x2, x3, x4, x5, x6, x7] top) (hd : Lim d) (h0 : 0 < d) (w : World) :
    Calls Try.prog 148 #[L8 x0 x1 x2 x3 x4 x5 x6 x7, .int .i64 top, .int .u64 d] w (RetDivide (vl [x0, x1, x2, x3, x4, x5, x6, x7]) d w) := by
  have ht8 : (top : Int) ≤ 8 := by have := ht.1; simp at this; omega
  go_enter Try.func148, Try.ntmps148
  go_wp2_with fail
  go_loopw [8, 9] (fun l i wr => ∃ (k left : Nat) (qs : List Nat), k ≤ 8 ∧ l = .int .u64 left ∧ i = .int .i64 ((k : Int) - 1) ∧ left < d ∧ qs.length = 8 ∧ Lims qs ∧ SchoolInv [x0, x1, x2, x3, x4, x5, x6, x7] d k left qs ∧ DlMem w wr [x0, x1, x2, x3, x4, x5, x6, x7] qs)
    (fun _ i _ => (intOf i + 1).toNat)
  case atStart =>
    refine ⟨top, 0, [0, 0, 0, 0, 0, 0, 0, 0], by omega, rfl, rfl, h0, rfl, ?_, school_start ?_ ?_, ?_, ?_, ?_, ?_⟩
    · intro x hx; simp at hx; subst hx; unfold Lim; omega
    · apply vl_zero; intro j; have := ht.2.1 (top + j) (by omega); simpa using this
    · apply vl_zero
      intro j
      have : ∀ m, [0, 0, 0, 0, 0, 0, 0, 0].getD m 0 = 0 := by
        intro m
        by_cases hm : m < 8
        · rcases (show m = 0 ∨ m = 1 ∨ m = 2 ∨ m = 3 ∨ m = 4 ∨ m = 5 ∨ m = 6 ∨ m = 7 by omega) with rfl | rfl | rfl | rfl | rfl | rfl | rfl | rfl <;> rfl
        · simp [List.getElem?_eq_none (show [0, 0, 0, 0, 0, 0, 0, 0].length ≤ m by simp; omega)]
      have := this (top + j)
      simpa using this
    · have h := ((Arr.new8 w 94 x0 x1 x2 x3 x4 x5 x6 x7).alloc (.cells #[.int .u64 0, .int .u64 0, .int .u64 0, .int .u64 0, .int .u64 0, .int .u64 0, .int .u64 0, .int .u64 0] 94)).alloc (.cells #[.int .u64 0, .int .u64 0, .int .u64 0, .int .u64 0] 24)
      simpa using h
    · have h := (Arr.new8z (w.alloc (.cells #[.int .u64 x0, .int .u64 x1, .int .u64 x2, .int .u64 x3, .int .u64 x4, .int .u64 x5, .int .u64 x6, .int .u64 x7] 94)) 94).alloc (.cells #[.int .u64 0, .int .u64 0, .int .u64 0, .int .u64 0] 24)
      simpa using h
    · have h := Arr.new4z ((w.alloc (.cells #[.int .u64 x0, .int .u64 x1, .int .u64 x2, .int .u64 x3, .int .u64 x4, .int .u64 x5, .int .u64 x6, .int .u64 x7] 94)).alloc (.cells #[.int .u64 0, .int .u64 0, .int .u64 0, .int .u64 0, .int .u64 0, .int .u64 0, .int .u64 0, .int .u64 0] 94)) 24
      simpa using h
    · exact (((Below.refl _ _).alloc (Nat.le_refl _) _).alloc (by simp) _).alloc (by simp; omega) _
  case round =>
    obtain ⟨k, left, qs, hk, rfl, rfl, hleft, hlen, hlim, hinv, hmem⟩ := hrel
    have HL := Lib.hid hlen
    clear hlen
    by_cases h1 : 0 < k
    · have hge : decide (0 ≤ (k : Int) - 1) = true := by simp; omega
      have cx := hmem.1.cell (k - 1) (by simp; omega)
      have cq := hmem.2.1.cell (k - 1) (by rw [HL.out]; omega)
      have fq := hmem.2.1.frozen (k - 1)
      obtain ⟨x, ex⟩ : ∃ x, x = [x0, x1, x2, x3, x4, x5, x6, x7].getD (k - 1) 0 := ⟨_, rfl⟩
      rw [← ex] at cx
      have lx : Lim x := by rw [ex]; exact hx.get _
      have EX := Lib.hid ex
      clear ex
      go_wp2_with fail
      refine (div64_c left x d lx hd hleft _).mono ?_
      rintro e w1 ⟨q, r, n, rfl, eq, er, lq, rfl⟩
      have EQ := Lib.hid eq
      have ER := Lib.hid er
      clear eq er
      go_wp2_with fail
      go_roundw
      case rel =>
        refine ⟨k - 1, r, qs.set (k - 1) q, by omega, rfl, by go_num, by rw [ER.out]; exact Nat.mod_lt _ h0, by rw [List.length_set]; exact HL.out, hlim.set _ _ lq, ?_, hmem.step n (k - 1) q⟩
        exact school_step (by rw [Nat.sub_add_cancel h1]; exact hinv) (by simp; omega) (by rw [HL.out]; omega) h0 (by rw [← EX.out]; exact EQ.out) (by rw [← EX.out]; exact ER.out)
      case measure => simp [intOf]; omega
    · obtain rfl : k = 0 := by omega
      obtain ⟨q0, q1, q2, q3, q4, q5, q6, q7, rfl⟩ := list8 HL.out
      obtain ⟨i0, i1⟩ := hinv
      simp only [List.drop_zero] at i0 i1
      have ll : Lim left := by unfold Lim at *; omega
      obtain ⟨m0, m1, m2, m3⟩ := hmem
      have HI0 := Lib.hid i0
      have HI1 := Lib.hid i1
      clear i0 i1
      obtain ⟨y0, y1, y2, y3, y4, y5, y6, y7⟩ := m1.cells8
      obtain ⟨f0, f1, f2, f3, f4, f5, f6, f7⟩ := m1.free8
      obtain ⟨z0, z1, z2, z3⟩ := m2.cells4
      obtain ⟨g0, g1, g2, g3⟩ := m2.free4
      go_wp2_with fail
      go_region_with (go_at_call 29; refine (of_c left ll _).mono ?_; rintro e w2 ⟨r0, r1, r2, r3, rfl, hr, hb2⟩
                      have k1 := m1.drew.below hb2 m1.drew.lt
                      have k2 := m2.drew.below hb2 m2.drew.lt
                      obtain ⟨y0, y1, y2, y3, y4, y5, y6, y7⟩ := k1.cells8
                      obtain ⟨f0, f1, f2, f3, f4, f5, f6, f7⟩ := k1.free8
                      obtain ⟨z0, z1, z2, z3⟩ := k2.cells4
                      obtain ⟨g0, g1, g2, g3⟩ := k2.free4)
      all_goals go_wp2_with fail
      all_goals
        have hB : Below w.heap.size w w2 := m3.drew.trans (hb2.mono (Nat.le_of_lt (Nat.lt_of_lt_of_le (by omega) (Nat.le_of_lt m1.drew.lt))))
        have k3 := (k1.put8 q0 q1 q2 q3 q4 q5 q6 q7).far4 (f := w.heap.size + 1 + 1) (by omega) (.int .u64 (r0 : Int)) (.int .u64 (r1 : Int)) (.int .u64 (r2 : Int)) (.int .u64 (r3 : Int))
        have k4 := (k2.far8 (f := w.heap.size + 1) (by omega) (.int .u64 (q0 : Int)) (.int .u64 (q1 : Int)) (.int .u64 (q2 : Int)) (.int .u64 (q3 : Int)) (.int .u64 (q4 : Int)) (.int .u64 (q5 : Int)) (.int .u64 (q6 : Int)) (.int .u64 (q7 : Int))).put4 r0 r1 r2 r3
        have hB2 := below_put4 (below_put8 hB (f := w.heap.size + 1) (by omega) (.int .u64 (q0 : Int)) (.int .u64 (q1 : Int)) (.int .u64 (q2 : Int)) (.int .u64 (q3 : Int)) (.int .u64 (q4 : Int)) (.int .u64 (q5 : Int)) (.int .u64 (q6 : Int)) (.int .u64 (q7 : Int))) (f := w.heap.size + 1 + 1) (by omega) (.int .u64 (r0 : Int)) (.int .u64 (r1 : Int)) (.int .u64 (r2 : Int)) (.int .u64 (r3 : Int))
        clear y0 y1 y2 y3 y4 y5 y6 y7 f0 f1 f2 f3 f4 f5 f6 f7 z0 z1 z2 z3 g0 g1 g2 g3
        generalize ((((((((((((w2.setCell ⟨w.heap.size + 1, 0, none⟩ (.int .u64 (q0 : Int))).setCell ⟨w.heap.size + 1, 1, none⟩ (.int .u64 (q1 : Int))).setCell ⟨w.heap.size + 1, 2, none⟩ (.int .u64 (q2 : Int))).setCell ⟨w.heap.size + 1, 3, none⟩ (.int .u64 (q3 : Int))).setCell ⟨w.heap.size + 1, 4, none⟩ (.int .u64 (q4 : Int))).setCell ⟨w.heap.size + 1, 5, none⟩ (.int .u64 (q5 : Int))).setCell ⟨w.heap.size + 1, 6, none⟩ (.int .u64 (q6 : Int))).setCell ⟨w.heap.size + 1, 7, none⟩ (.int .u64 (q7 : Int))).setCell ⟨w.heap.size + 1 + 1, 0, none⟩ (.int .u64 (r0 : Int))).setCell ⟨w.heap.size + 1 + 1, 1, none⟩ (.int .u64 (r1 : Int))).setCell ⟨w.heap.size + 1 + 1, 2, none⟩ (.int .u64 (r2 : Int))).setCell ⟨w.heap.size + 1 + 1, 3, none⟩ (.int .u64 (r3 : Int))) = X at *
        obtain ⟨y0, y1, y2, y3, y4, y5, y6, y7⟩ := k3.cells8
        obtain ⟨z0, z1, z2, z3⟩ := k4.cells4
        exact bodyPost_ret (v := .tuple #[L8 q0 q1 q2 q3 q4 q5 q6 q7, W4 r0 r1 r2 r3]) (by simp [results, Try.results148, go_sem, y0, y1, y2, y3, y4, y5, y6, y7, z0, z1, z2, z3]) rfl
          ⟨q0, q1, q2, q3, q4, q5, q6, q7, r0, r1, r2, r3, rfl, hlim, HI1.out, hr.eq HI0.out, hB2⟩
end Go.Proofs.Ytihffojljbgpcaa
