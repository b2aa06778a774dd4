/- What package hexa's Quantity tells of 255. -/
import Derived.Test.YtgmpoefgcimaiaaHText
import Derived.Test.YtgmpoefgcimaiaaHNum
import Derived.Test.YtgmpoefgcimaiaaShort
namespace Go.Proofs.Ytgmpoefgcimaiaa
open Go.RowKit

theorem shortv_255 : shortv 255 = [255] := by decide +kernel
theorem W_255 : W 255 = .agg #[.int .u64 255, .int .u64 0, .int .u64 0, .int .u64 0] := by simp [lim]
theorem htext_255 : (⟨(htext [255]).toArray⟩ : ByteArray) = ⟨#[48, 120, 102, 102]⟩ := by decide +kernel
set_option maxRecDepth 100000 in
set_option maxHeartbeats 3200000 in
theorem quantity_255 (w : World) : Calls Try.prog 38 #[.agg #[.int .u64 255, .int .u64 0, .int .u64 0, .int .u64 0]] w (RetV (.string ⟨#[48, 120, 102, 102]⟩) w) := by
  have k1 : ∀ w, Calls Try.prog 55 #[.agg #[.int .u64 255, .int .u64 0, .int .u64 0, .int .u64 0]] w (RetR (fun w' v => Byt w' v [255]) w) := fun w => by
    have h := short_c (a := 255) (by unfold Big; omega) w
    rw [shortv_255, W_255] at h
    exact h
  have k2 : ∀ w, Calls Try.prog 56 #[.string ⟨#[102, 102]⟩, .string ⟨#[48]⟩] w fun e w' => e = .returned (.string ⟨#[102, 102]⟩) ∧ w' = w := fun w => by
    have h := hstrings_TrimPrefix ⟨#[102, 102]⟩ ⟨#[48]⟩ w
    exact h
  have K1 := Lib.hid k1
  have K2 := Lib.hid k2
  have hB0 := (Below.refl w.heap.size w).alloc (Nat.le_refl _) (.cells #[.int .u64 255, .int .u64 0, .int .u64 0, .int .u64 0] 30)
  have HB0 := Lib.hid hB0
  obtain ⟨x0, x1, x2, x3⟩ := (Arr.new4 w 30 255 0 0 0).cells4
  clear k1 k2 hB0
  go_enter Try.func38, Try.ntmps38
  go_wp2_with fail
  (with_reducible refine (K1.out _).mono ?_)
  rintro e w1 ⟨v, rfl, ⟨A, c, rfl, hrd, hds⟩, hb1⟩
  have c1 := text_c w1 hrd hds (by decide)
  rw [htext_255] at c1
  have c2 : Calls Try.prog 17 #[.slice A 1 c] w1 fun e w' => e = .returned (.string ⟨#[48, 120, 102, 102]⟩) ∧ Below w1.heap.size w1 w' := c1
  have C1 := Lib.hid c2
  have hl : (([255] : List Nat).length) = 1 := rfl
  rw [hl]
  have HB1 := Lib.hid (HB0.out.trans (hb1.mono (by simp)))
  clear c1 c2 hl hb1 hrd hds x0 x1 x2 x3
  go_wp2_with fail
  (with_reducible refine C1.out.mono ?_)
  rintro e w2 ⟨rfl, hb2⟩
  have HB2 := Lib.hid (HB1.out.trans (hb2.mono HB1.out.size))
  clear hb2 C1
  have hx : (⟨#[48, 120, 102, 102]⟩ : ByteArray).extract 2 4 = ⟨#[102, 102]⟩ := by decide +kernel
  have hy : (⟨#[102, 102]⟩ : ByteArray).toList.isEmpty = false := by decide +kernel
  have hz : (⟨#[48, 120]⟩ : ByteArray) ++ ⟨#[102, 102]⟩ = ⟨#[48, 120, 102, 102]⟩ := by decide +kernel
  go_wp2_with fail
  (with_reducible refine (K2.out _).mono ?_)
  rintro e w3 ⟨rfl, hw3⟩
  rw [hw3]
  clear hw3
  go_wp2_with fail
  go_ret
  first | exact ⟨rfl, HB2.out⟩ | (refine ⟨?_, HB2.out⟩; rw [hz])
end Go.Proofs.Ytgmpoefgcimaiaa
