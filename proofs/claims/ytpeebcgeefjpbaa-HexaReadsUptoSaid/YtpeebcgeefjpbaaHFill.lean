/- The contract of package hexa's fill. -/
import Derived.Test.YtpeebcgeefjpbaaHNum
import Derived.Laws.CopyOwn
namespace Go.Proofs.Ytpeebcgeefjpbaa
open Go.RowKit

/-- What a fixed number of bytes is told of: the fault. -/
def fres (N : Nat) (s : ByteArray) : Nat × Nat := if (bres s).2.1 = 0 then (if (bres s).1.length = N then (0, 0) else (6, 0)) else ((bres s).2.1, (bres s).2.2)
/-- The bytes that a fixed number of bytes is told as. -/
def fbytes (N : Nat) (s : ByteArray) : List Nat := if (bres s).2.1 = 0 ∧ (bres s).1.length = N then (bres s).1 else List.replicate N 0
theorem bres_bad (s : ByteArray) (h : (bres s).2.1 ≠ 0) : (bres s).1 = [] := by
  unfold bres bresQ at *
  split at h
  · split at h
    · rename_i h1 h2; rw [if_pos h1, if_pos h2]
    · exact absurd rfl h
  · rename_i h1; rw [if_neg h1]

set_option maxRecDepth 100000 in
set_option maxHeartbeats 6400000 in
theorem fill_c (N g : Nat) (tt : TypeId) (s : ByteArray) (w : World) (hs : s.size ≤ 1073741824) (hN : 0 < N) (hN2 : N ≤ 64) (hg : Row .u8 w g tt (List.replicate N 0)) : Calls Try.prog 37 #[.slice (some ⟨g, 0, none⟩) N N, .string s] w fun e w' =>
    e = .returned (.agg #[.int .i64 ((fres N s).1 : Nat), .int .i64 ((fres N s).2 : Nat)]) ∧ Row .u8 w' g tt (fbytes N s) ∧ Below g w w' := by
  have hgl := hg.lt
  obtain ⟨q, hqq⟩ : ∃ q, q = bres s := ⟨_, rfl⟩
  have hbad := bres_bad s
  have hfr : fres N s = if q.2.1 = 0 then (if q.1.length = N then (0, 0) else (6, 0)) else (q.2.1, q.2.2) := by unfold fres; rw [← hqq]
  have hfb : fbytes N s = if q.2.1 = 0 ∧ q.1.length = N then q.1 else List.replicate N 0 := by unfold fbytes; rw [← hqq]
  rw [hfr, hfb]
  clear hfr hfb
  have hw0 := heap_alloc_new w (.cells #[.int .i64 0, .int .i64 0] 25)
  have C1 := bytes_h s (w.alloc (.cells #[.int .i64 0, .int .i64 0] 25)) hs
  rw [← hqq] at C1 hbad
  have C1 := Lib.hid C1
  have hX : (w.alloc (.cells #[.int .i64 0, .int .i64 0] 25)).heap.size = w.heap.size + 1 := by simp
  have HX := Lib.hid hX
  have HW0 := Lib.hid hw0
  have HG := Lib.hid (hg.alloc (.cells #[.int .i64 0, .int .i64 0] 25))
  have HB0 := Lib.hid ((Below.refl g w).alloc (by omega) (.cells #[.int .i64 0, .int .i64 0] 25))
  have HBAD := Lib.hid hbad
  clear hqq hw0 hX hg hbad
  obtain ⟨F, hF⟩ : ∃ F, F = (if q.2.1 = 0 then (if q.1.length = N then (0, 0) else (6, 0)) else (q.2.1, q.2.2) : Nat × Nat) := ⟨_, rfl⟩
  obtain ⟨Y, hY⟩ : ∃ Y, Y = (if q.2.1 = 0 ∧ q.1.length = N then q.1 else List.replicate N 0) := ⟨_, rfl⟩
  rw [← hF, ← hY]
  have HF := Lib.hid hF
  have HY := Lib.hid hY
  clear hF hY
  go_enter Try.func37, Try.ntmps37
  go_wp2_with fail
  (with_reducible refine C1.out.mono ?_)
  rintro e w1 ⟨v, rfl, hacc, hb1⟩
  have hf1 := (hb1.block w.heap.size (by have := HX.out; omega)).trans HW0.out
  have hrow1 := HG.out.below hb1 (by have := HX.out; omega)
  have hs1 : w.heap.size + 1 ≤ w1.heap.size := by have := hb1.size; have := HX.out; omega
  have HB1 := Lib.hid (HB0.out.trans (hb1.mono (by have := HX.out; omega)))
  obtain ⟨A, c, rfl⟩ := hacc.form
  obtain ⟨L, hL⟩ : ∃ L, L = q.1.length := ⟨_, rfl⟩
  rw [← hL]
  obtain ⟨y, hy⟩ : ∃ y, y = q.2.1 := ⟨_, rfl⟩
  obtain ⟨z, hz⟩ : ∃ z, z = q.2.2 := ⟨_, rfl⟩
  rw [← hy, ← hz]
  have HL := Lib.hid hL
  have HYY := Lib.hid hy
  have HZ := Lib.hid hz
  have hx1 := heap_alloc_new w1 (.cells #[.int .i64 (y : Nat), .int .i64 (z : Nat)] 25)
  have hf2 := (Below.heap_alloc w1 (.cells #[.int .i64 (y : Nat), .int .i64 (z : Nat)] 25) w.heap.size (by omega)).trans hf1
  have hrow2 := hrow1.alloc (.cells #[.int .i64 (y : Nat), .int .i64 (z : Nat)] 25)
  have hrd2 := hacc.rd.alloc (.cells #[.int .i64 (y : Nat), .int .i64 (z : Nat)] 25)
  have HB2 := Lib.hid (HB1.out.alloc (by omega) (.cells #[.int .i64 (y : Nat), .int .i64 (z : Nat)] 25))
  have HROW := Lib.hid hrow2
  have HRD := Lib.hid hrd2
  obtain ⟨c0, c1, f0, f1⟩ := two_cells hf2
  obtain ⟨d0, d1, g0, g1⟩ := two_cells hx1
  clear C1 hacc hb1 hf1 hrow1 hL hy hz hx1 hrow2 hrd2 HB1 HG HW0 HX HB0
  have HF2 := Lib.hid hf2
  clear hf2
  by_cases hy0 : y = 0
  · by_cases hLN : L = N
    · subst hLN
      have e1 : F = (0, 0) := by rw [HF.out, if_pos (by rw [← HYY.out]; exact hy0), if_pos HL.out.symm]
      have e2 : Y = q.1 := by rw [HY.out, if_pos ⟨by rw [← HYY.out]; exact hy0, HL.out.symm⟩]
      have E1 := Lib.hid e1
      have E2 := Lib.hid e2
      have hy1 : ((y : Int) != 0) = false := by rw [hy0]; rfl
      obtain ⟨b, o, rfl, hbb, hcell⟩ := HRD.out.at_ (by have := HL.out; omega)
      have HCELL := Lib.hid hcell
      have HY0 := Lib.hid hy0
      clear e1 e2 hcell hy0
      go_upto_region 6 with (fail)
      refine wp_region_lit ?_
      iterate 2 (refine wpList_plain rfl fun K hK => ?_; go_simp; refine hK _ _ ?_; clear hK K)
      refine wpList_copy_own rfl (.tmp 22) (.tmp 23) 22 22 rfl 5 Try.underlying22 (by kernel_rfl) g 0 L L ⟨b, o, none⟩ L c rfl rfl _ tt HROW.out (bv q.1) (by rw [bv_length, ← HL.out]; exact (Nat.min_self L).symm) (Rd.news HRD.out) (by rw [bv_length, ← HL.out]; simp) (bv_one _) ?_
      generalize hrw : ((List.map (fun n : Nat => Value.int .u8 (n : Int)) (List.replicate L 0)).toArray.toList.take 0 ++ (bv q.1 ++ (List.map (fun n : Nat => Value.int .u8 (n : Int)) (List.replicate L 0)).toArray.toList.drop (0 + (bv q.1).length))).toArray = rw
      have hrw2 : rw = (q.1.map fun n : Nat => Value.int .u8 (n : Int)).toArray := by
        rw [← hrw, List.drop_of_length_le (by rw [bv_length, ← HL.out]; simp)]
        simp [bv]
      have hrow3 : Row .u8 ((w1.alloc (.cells #[.int .i64 (y : Nat), .int .i64 (z : Nat)] 25)).setRow g rw) g tt q.1 := by
        have h := setRow_heap _ g _ rw tt _ HROW.out
        rw [hrw2] at h ⊢
        exact h
      have hf3 : ((w1.alloc (.cells #[.int .i64 (y : Nat), .int .i64 (z : Nat)] 25)).setRow g rw).heap[w.heap.size]? = some (.cells #[.int .i64 0, .int .i64 0] 25 (0, 0)) := (setRow_other _ g w.heap.size rw (by omega)).trans HF2.out
      have HB3 := Lib.hid (below_setRow HB2.out (Nat.le_refl g) rw)
      have HROW3 := Lib.hid hrow3
      generalize (w1.alloc (.cells #[.int .i64 (y : Nat), .int .i64 (z : Nat)] 25)).setRow g rw = W3 at *
      clear c0 c1 f0 f1 d0 d1 g0 g1 hrow3 hrw hrw2 HROW HRD HF2 HB2
      obtain ⟨c0, c1, f0, f1⟩ := two_cells hf3
      clear hf3
      go_simp
      go_wp2_with fail
      refine bodyPost_ret (v := .agg #[.int .i64 0, .int .i64 0]) (by simp [results, Try.results37, go_sem, c0, c1]) rfl ⟨?_, ?_, ?_⟩
      · rw [E1.out]; rfl
      · rw [E2.out]; exact (HROW3.out.far (p := ⟨w.heap.size, 0, none⟩) (by show g ≠ w.heap.size; omega) _).far (p := ⟨w.heap.size, 1, none⟩) (by show g ≠ w.heap.size; omega) _
      · exact (HB3.out.setCell (p := ⟨w.heap.size, 0, none⟩) (by show g ≤ w.heap.size; omega) _).setCell (p := ⟨w.heap.size, 1, none⟩) (by show g ≤ w.heap.size; omega) _
    · have hne : ((L : Int) != (N : Int)) = true := by simp; omega
      have hne2 : ¬ (L : Int) = (N : Int) := by omega
      have e1 : F = (6, 0) := by rw [HF.out, if_pos (by rw [← HYY.out]; exact hy0), if_neg (by rw [← HL.out]; exact hLN)]
      have e2 : Y = List.replicate N 0 := by rw [HY.out, if_neg (by rw [← HL.out]; intro ⟨_, h⟩; exact hLN h)]
      have E1 := Lib.hid e1
      have E2 := Lib.hid e2
      have hy1 : ((y : Int) != 0) = false := by rw [hy0]; rfl
      have HY0 := Lib.hid hy0
      clear e1 e2 hy0
      go_wp2_with fail
      refine bodyPost_ret (v := .agg #[.int .i64 6, .int .i64 0]) (by simp [results, Try.results37, go_sem, c0, c1]) rfl ⟨?_, ?_, ?_⟩
      · rw [E1.out]; rfl
      · rw [E2.out]; exact (HROW.out.far (p := ⟨w.heap.size, 0, none⟩) (by show g ≠ w.heap.size; omega) _).far (p := ⟨w.heap.size, 1, none⟩) (by show g ≠ w.heap.size; omega) _
      · exact (HB2.out.setCell (p := ⟨w.heap.size, 0, none⟩) (by show g ≤ w.heap.size; omega) _).setCell (p := ⟨w.heap.size, 1, none⟩) (by show g ≤ w.heap.size; omega) _
  · have hne : ((y : Int) != 0) = true := by simp; omega
    have e1 : F = (y, z) := by rw [HF.out, if_neg (by rw [← HYY.out]; exact hy0), HYY.out, HZ.out]
    have e2 : Y = List.replicate N 0 := by rw [HY.out, if_neg (by rw [← HYY.out]; intro ⟨h, _⟩; exact hy0 h)]
    have E1 := Lib.hid e1
    have E2 := Lib.hid e2
    clear e1 e2
    go_wp2_with fail
    refine bodyPost_ret (v := .agg #[.int .i64 (y : Nat), .int .i64 (z : Nat)]) (by simp [results, Try.results37, go_sem, c0, c1]) rfl ⟨?_, ?_, ?_⟩
    · rw [E1.out]
    · rw [E2.out]; exact (HROW.out.far (p := ⟨w.heap.size, 0, none⟩) (by show g ≠ w.heap.size; omega) _).far (p := ⟨w.heap.size, 1, none⟩) (by show g ≠ w.heap.size; omega) _
    · exact (HB2.out.setCell (p := ⟨w.heap.size, 0, none⟩) (by show g ≤ w.heap.size; omega) _).setCell (p := ⟨w.heap.size, 1, none⟩) (by show g ≤ w.heap.size; omega) _
end Go.Proofs.Ytpeebcgeefjpbaa
