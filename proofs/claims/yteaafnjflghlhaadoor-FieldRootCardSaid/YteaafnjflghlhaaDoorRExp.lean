/- The contract of package quarryref02's ModExp. -/
import Derived.Test.YteaafnjflghlhaaDoorRDiv
import Derived.Test.YteaafnjflghlhaaDoorRMul
import Derived.Test.YteaafnjflghlhaaDoorWordMath
namespace Go.Proofs.YteaafnjflghlhaaDoor
open Go.RowKit

theorem msq {b q m r : Nat} (hr : r = b ^ q % m) : r * r % m = b ^ (2 * q) % m := by
  subst hr
  rw [← Nat.mul_mod, Nat.two_mul, Nat.pow_add]
theorem mmul {b q m r : Nat} (hr : r = b ^ q % m) : r * (b % m) % m = b ^ (q + 1) % m := by
  subst hr
  rw [← Nat.mul_mod, Nat.pow_succ]

set_option maxRecDepth 100000 in
set_option maxHeartbeats 3200000 in
theorem rexp_n {ub ue um : Value} {b e m L M K : Nat} (w : World) (hb : Num w ub b L) (he : Num w ue e K) (hm : Num w um m M) (hL : L ≤ 262144) (hM : M ≤ 262144) (hK : K ≤ 262144) (hm0 : 0 < m) :
    Calls Tryd.prog 63 #[ub, ue, um] w (RetR (fun w' v => Num w' v (b ^ e % m) M) w) := by
  have HB := Lib.hid hb
  have HE := Lib.hid he
  have HM := Lib.hid hm
  have HM0 := Lib.hid hm0
  have hkb : blen e ≤ 32 * K := by
    have h1 := he.lt
    rw [pow32] at h1
    rcases Nat.eq_zero_or_pos e with rfl | hp
    · have : blen 0 = 0 := rfl
      omega
    · have a2 := blen_ge hp
      rcases Nat.lt_or_ge (32 * K) (blen e) with h | h
      · have : (2 : Nat) ^ (32 * K) ≤ 2 ^ (blen e - 1) := Nat.pow_le_pow_right (by omega) (by omega)
        omega
      · exact h
  have hone : Num (w.alloc (.cells #[Value.int .u32 1] 65)) (.slice (some ⟨w.heap.size, 0, none⟩) 1 1) 1 1 := by
    have hr := Row.new (k := .u32) w 65 [1]
    exact ⟨_, _, [1], rfl, hr.rd0, ⟨Ds.mk (by omega) Ds.nil, by simp [dv], fun _ => by simp⟩, Nat.le_refl _⟩
  have hm1 := hm.below ((Below.refl _ w).alloc (Nat.le_refl _) (.cells #[Value.int .u32 1] 65))
  have HR := Lib.hid (rmod_n _ hone hm1 (by omega) (by omega) hm0)
  have hE := Lib.hid (blen_lt e)
  clear hone hm1 hb he hm hm0
  go_enter Tryd.func63, Tryd.ntmps63
  go_wp2_with fail
  (with_reducible refine HR.out.mono ?_)
  rintro e1 w1 ⟨v1, rfl, hv1, hb1⟩
  have hbel1 : Below w.heap.size w w1 := ((Below.refl _ w).alloc (Nat.le_refl _) (.cells #[Value.int .u32 1] 65)).trans (hb1.mono (by simp))
  have HV1 := Lib.hid hv1
  have HBe1 := Lib.hid hbel1
  clear hv1 hb1 hbel1 HR
  go_wp2_with fail
  (with_reducible refine (rmod_n _ (HB.out.below HBe1.out) (HM.out.below HBe1.out) (by omega) (by omega) HM0.out).mono ?_)
  rintro e2 w2 ⟨v2, rfl, hv2, hb2⟩
  have hbel2 := HBe1.out.trans (hb2.mono HBe1.out.size)
  have HV2 := Lib.hid hv2
  have HV1' := Lib.hid (HV1.out.below hb2)
  have HBe2 := Lib.hid hbel2
  clear hv2 hb2 hbel2 HV1 HBe1
  go_wp2_with fail
  (with_reducible refine (rlen_n _ (HE.out.below HBe2.out) (by omega)).mono ?_)
  rintro e3 w3 ⟨rfl, rfl⟩
  obtain ⟨bl, ebl⟩ : ∃ bl, bl = blen e := ⟨_, rfl⟩
  rw [← ebl] at hkb ⊢
  have EBL := Lib.hid ebl
  clear ebl
  go_wp2_with fail
  obtain ⟨wb, ewb⟩ : ∃ wb : World, wb = w3 := ⟨_, rfl⟩
  subst ewb
  go_loopw [7, 9] (fun v7 v9 wr => ∃ k : Nat, k ≤ bl ∧ v9 = .int .i64 ((k : Int) - 1) ∧ Num wr v7 (b ^ (e / 2 ^ k) % m) M ∧ Below wb.heap.size wb wr)
    (fun _ v9 _ => (intOf v9 + 1).toNat)
  case atStart =>
    refine ⟨bl, Nat.le_refl _, rfl, ?_, Below.refl _ _⟩
    have h1 : e / 2 ^ bl = 0 := Nat.div_eq_of_lt (by rw [EBL.out]; exact hE.out)
    rw [h1, Nat.pow_zero]
    exact HV1'.out
  case round =>
    obtain ⟨k, hk, rfl, hnum, hbel⟩ := hrel
    have HN := Lib.hid hnum
    have HBel := Lib.hid hbel
    clear hnum hbel
    rcases Nat.eq_zero_or_pos k with rfl | hk0
    · go_wp2_with fail
      go_ret
      have h1 := HN.out
      rw [Nat.pow_zero, Nat.div_one] at h1
      exact ⟨_, rfl, h1, HBe2.out.trans (HBel.out.mono HBe2.out.size)⟩
    · obtain ⟨p, rfl⟩ : ∃ p, k = p + 1 := ⟨k - 1, by omega⟩
      rw [show (((p + 1 : Nat) : Int) - 1) = (p : Int) by omega]
      go_wp2_with fail
      (with_reducible refine (rmul_n _ HN.out HN.out (by omega) (by omega)).mono ?_)
      rintro e4 w4 ⟨v4, rfl, hv4, hb4⟩
      have hbel4 := HBel.out.trans (hb4.mono HBel.out.size)
      have HV4 := Lib.hid hv4
      have HB4 := Lib.hid hbel4
      clear hv4 hb4 hbel4
      go_wp2_with fail
      (with_reducible refine (rmod_n _ HV4.out ((HM.out.below HBe2.out).below HB4.out) (by omega) (by omega) HM0.out).mono ?_)
      rintro e5 w5 ⟨v5, rfl, hv5, hb5⟩
      have hbel5 := HB4.out.trans (hb5.mono HB4.out.size)
      rw [msq (q := e / 2 ^ (p + 1)) rfl] at hv5
      have HV5 := Lib.hid hv5
      have HB5 := Lib.hid hbel5
      clear hv5 hb5 hbel5
      have hbit := rbit_n w5 ((HE.out.below HBe2.out).below HB5.out) (by omega) p (by omega)
      rcases (show e / 2 ^ p % 2 = 0 ∨ e / 2 ^ p % 2 = 1 by omega) with hb0 | hb1
      · rw [hb0] at hbit
        have hx := exp_bit0 (b := e) (k := p + 1) (by omega) hb0
        rw [Nat.add_sub_cancel] at hx
        have HX := Lib.hid hx
        have HBt := Lib.hid hbit
        clear hbit hb0 hx
        go_wp2_with fail
        (with_reducible refine HBt.out.mono ?_)
        rintro e6 w6 ⟨rfl, rfl⟩
        go_wp2_with fail
        go_roundw
        case rel =>
          refine ⟨p, by omega, rfl, ?_, HB5.out⟩
          have := HV5.out
          rwa [HX.out] at this
        case measure => simp [intOf] <;> omega
      · rw [hb1] at hbit
        have hx := exp_bit1 (b := e) (k := p + 1) (by omega) hb1
        rw [Nat.add_sub_cancel] at hx
        have HX := Lib.hid hx
        have HBt := Lib.hid hbit
        clear hbit hb1 hx
        go_wp2_with fail
        (with_reducible refine HBt.out.mono ?_)
        rintro e6 w6 ⟨rfl, rfl⟩
        go_wp2_with fail
        (with_reducible refine (rmul_n _ HV5.out (HV2.out.below HB5.out) (by omega) (by omega)).mono ?_)
        rintro e7 w7 ⟨v7, rfl, hv7, hb7⟩
        have hbel7 := HB5.out.trans (hb7.mono HB5.out.size)
        have HV7 := Lib.hid hv7
        have HB7 := Lib.hid hbel7
        clear hv7 hb7 hbel7
        go_wp2_with fail
        (with_reducible refine (rmod_n _ HV7.out ((HM.out.below HBe2.out).below HB7.out) (by omega) (by omega) HM0.out).mono ?_)
        rintro e8 w8 ⟨v8, rfl, hv8, hb8⟩
        have hbel8 := HB7.out.trans (hb8.mono HB7.out.size)
        rw [mmul (q := 2 * (e / 2 ^ (p + 1))) rfl, HX.out] at hv8
        have HV8 := Lib.hid hv8
        have HB8 := Lib.hid hbel8
        clear hv8 hb8 hbel8
        go_wp2_with fail
        go_roundw
        case rel => exact ⟨p, by omega, rfl, HV8.out, HB8.out⟩
        case measure => simp [intOf] <;> omega
end Go.Proofs.YteaafnjflghlhaaDoor
