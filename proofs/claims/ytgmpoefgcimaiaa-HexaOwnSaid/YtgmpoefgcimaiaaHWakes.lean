/- What the laws' wakes asks of package hexa holds. -/
import Derived.Test.YtgmpoefgcimaiaaHQuant
import Derived.Test.YtgmpoefgcimaiaaOpsS
namespace Go.Proofs.Ytgmpoefgcimaiaa
open Go.RowKit

theorem bres_wakes : bres ⟨#[48, 120, 48, 48, 102, 70]⟩ = ([0, 255], 0, 0) := by decide +kernel
theorem nres_wakes : nres ⟨#[48, 120, 49, 102]⟩ = (31, 0, 0) := by decide +kernel
theorem W_31 : W 31 = .agg #[.int .u64 31, .int .u64 0, .int .u64 0, .int .u64 0] := by simp [lim]
theorem htext_wakes : (⟨(htext [0, 255]).toArray⟩ : ByteArray) = ⟨#[48, 120, 48, 48, 102, 102]⟩ := by decide +kernel

set_option maxRecDepth 100000 in
set_option maxHeartbeats 6400000 in
theorem hwakes_c (w : World) : Calls Try.prog 15 #[] w (RetV (.bool true) w) := by
  have c1 : Calls Try.prog 7 #[.string ⟨#[48, 120, 48, 48, 102, 70]⟩] w fun e w' =>
      ∃ v, e = .returned (.tuple #[v, .agg #[.int .i64 0, .int .i64 0]]) ∧ Acc w' w.heap.size v [0, 255] ∧ Below w.heap.size w w' := by
    have h := bytes_h ⟨#[48, 120, 48, 48, 102, 70]⟩ w (by decide)
    rw [bres_wakes] at h
    exact h
  have C1 := Lib.hid c1
  have k2 : ∀ w, Calls Try.prog 9 #[.string ⟨#[48, 120, 49, 102]⟩] w fun e w' =>
      e = .returned (.tuple #[.agg #[.int .u64 31, .int .u64 0, .int .u64 0, .int .u64 0], .agg #[.int .i64 0, .int .i64 0]]) ∧ Below w.heap.size w w' := fun w => by
    have h := number_h ⟨#[48, 120, 49, 102]⟩ w (by decide)
    rw [nres_wakes, W_31] at h
    exact h
  have K2 := Lib.hid k2
  clear c1 k2
  go_enter Try.func15, Try.ntmps15
  go_wp2_with fail
  (with_reducible refine C1.out.mono ?_)
  rintro e w1 ⟨v, rfl, hacc, hb1⟩
  obtain ⟨A, c, rfl⟩ := hacc.form
  have HBY := Lib.hid (hacc.byt (fun x hx => by simp at hx; omega))
  have hl : (([0, 255] : List Nat).length) = 2 := rfl
  rw [hl] at HBY
  rw [hl]
  have H1 := Lib.hid hb1
  have hg1 := heap_alloc_new w1 (.cells #[.int .i64 0, .int .i64 0] 25)
  have HG1 := Lib.hid hg1
  have hs1 : (w1.alloc (.cells #[.int .i64 0, .int .i64 0] 25)).heap.size = w1.heap.size + 1 := by simp
  have HS1 := Lib.hid hs1
  have H2 := Lib.hid (hb1.alloc hb1.size (.cells #[.int .i64 0, .int .i64 0] 25))
  have HX := Lib.hid ((Below.refl w1.heap.size w1).alloc (Nat.le_refl _) (.cells #[.int .i64 0, .int .i64 0] 25))
  clear C1 hacc hb1 hl hg1 hs1
  go_wp2_with fail
  (with_reducible refine (K2.out _).mono ?_)
  rintro e w2 ⟨rfl, hb2⟩
  have hg2 := (hb2.block w1.heap.size (by rw [HS1.out]; omega)).trans HG1.out
  have hsz : w1.heap.size + 1 ≤ w2.heap.size := by have := hb2.size; rw [HS1.out] at this; exact this
  have hsw : w.heap.size ≤ w1.heap.size := H1.out.size
  have hb20 := HX.out.trans (hb2.mono (by rw [HS1.out]; omega))
  have H3 := Lib.hid (H2.out.trans (hb2.mono (by rw [HS1.out]; omega)))
  have r0 : Arr (w2.alloc (.cells #[.int .u64 31, .int .u64 0, .int .u64 0, .int .u64 0] 30)) w2.heap.size 30 [31, 0, 0, 0] := Arr.new4 w2 30 31 0 0 0
  have r1 := r0.alloc (.cells #[.int .i64 0, .int .i64 0] 25)
  have g3 : ((w2.alloc (.cells #[.int .u64 31, .int .u64 0, .int .u64 0, .int .u64 0] 30)).alloc (.cells #[.int .i64 0, .int .i64 0] 25)).heap[w2.heap.size + 1]? = some (.cells #[.int .i64 0, .int .i64 0] 25 (0, 0)) := by
    have := heap_alloc_new (w2.alloc (.cells #[.int .u64 31, .int .u64 0, .int .u64 0, .int .u64 0] 30)) (.cells #[.int .i64 0, .int .i64 0] 25)
    simpa using this
  have g2 : ((w2.alloc (.cells #[.int .u64 31, .int .u64 0, .int .u64 0, .int .u64 0] 30)).alloc (.cells #[.int .i64 0, .int .i64 0] 25)).heap[w1.heap.size]? = some (.cells #[.int .i64 0, .int .i64 0] 25 (0, 0)) := by
    rw [Below.heap_alloc _ _ _ (by simp; omega), Below.heap_alloc _ _ _ (by omega)]; exact hg2
  have hb3 := ((hb20.alloc (by omega) (.cells #[.int .u64 31, .int .u64 0, .int .u64 0, .int .u64 0] 30)).alloc (by simp; omega) (.cells #[.int .i64 0, .int .i64 0] 25))
  have H4 := Lib.hid ((H3.out.alloc (by omega) (.cells #[.int .u64 31, .int .u64 0, .int .u64 0, .int .u64 0] 30)).alloc (by simp; omega) (.cells #[.int .i64 0, .int .i64 0] 25))
  have s1 := run_sOf (HBY.out.below hb3)
  have t1 : sOf [0, 255] = ⟨#[0, 255]⟩ := by decide +kernel
  rw [t1] at s1
  obtain ⟨x0, x1, x2, x3⟩ := r1.cells4
  obtain ⟨d0, d1, -, -⟩ := two_cells g3
  obtain ⟨c0, c1, -, -⟩ := two_cells g2
  have q31 : ∀ w, (Op.equalIn 10000 30 (.agg #[.int .u64 31, .int .u64 0, .int .u64 0, .int .u64 0]) (.agg #[.int .u64 31, .int .u64 0, .int .u64 0, .int .u64 0])).run Try.prog w = .ok true w := eqIn_same 31 0 0 0
  have hX : ((w2.alloc (.cells #[.int .u64 31, .int .u64 0, .int .u64 0, .int .u64 0] 30)).alloc (.cells #[.int .i64 0, .int .i64 0] 25)).heap.size = w2.heap.size + 1 + 1 := by simp
  have rw1 : Row .u8 (((w2.alloc (.cells #[.int .u64 31, .int .u64 0, .int .u64 0, .int .u64 0] 30)).alloc (.cells #[.int .i64 0, .int .i64 0] 25)).alloc (.cells #[.int .u8 0, .int .u8 255] 5)) (w2.heap.size + 1 + 1) 5 [0, 255] := by
    have h := Row.new (k := .u8) ((w2.alloc (.cells #[.int .u64 31, .int .u64 0, .int .u64 0, .int .u64 0] 30)).alloc (.cells #[.int .i64 0, .int .i64 0] 25)) 5 [0, 255]
    rw [hX] at h
    exact h
  have c3 := text_c _ rw1.rd0 (fun x hx => by simp at hx; omega) (by decide)
  rw [htext_wakes] at c3
  have c4 : Calls Try.prog 17 #[.slice (some ⟨w2.heap.size + 1 + 1, 0, none⟩) 2 2] _ _ := c3
  have C4 := Lib.hid c4
  have k5 := quantity_255
  have K5 := Lib.hid k5
  have H5 := Lib.hid (H4.out.alloc (by rw [hX]; omega) (.cells #[.int .u8 0, .int .u8 255] 5))
  clear K2 H1 H2 H3 H4 HX HG1 HS1 hb2 hb20 hb3 hg2 HBY t1 r0 r1 g2 g3 rw1 c3 c4 k5 hX
  go_wp2_with fail
  (with_reducible refine C4.out.mono ?_)
  rintro e w3 ⟨rfl, hb3⟩
  have H6 := Lib.hid (H5.out.trans (hb3.mono H5.out.size))
  clear C4 H5 hb3 s1 x0 x1 x2 x3 d0 d1 c0 c1
  go_wp2_with fail
  (with_reducible refine (K5.out _).mono ?_)
  rintro e w4 ⟨rfl, hb4⟩
  have H7 := Lib.hid (H6.out.trans (hb4.mono H6.out.size))
  clear hb4 K5 H6
  go_wp2_with fail
  go_ret
  exact ⟨rfl, H7.out⟩
end Go.Proofs.Ytgmpoefgcimaiaa
