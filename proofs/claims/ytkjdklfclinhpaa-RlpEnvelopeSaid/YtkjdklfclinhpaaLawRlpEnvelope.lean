/- The law RlpEnvelope. -/
import Derived.Test.YtkjdklfclinhpaaRlEnv
import Derived.Test.YtkjdklfclinhpaaRlWakes
import Derived.Test.YtkjdklfclinhpaaTwin
import Derived.Test.YtkjdklfclinhpaaOpsS
namespace Go.Proofs.Ytkjdklfclinhpaa
open Go.RowKit

set_option maxRecDepth 100000 in
set_option maxHeartbeats 3200000 in
theorem rlpEnvelope_c {A : Option Addr} {c : Nat} {raw : List Nat} (w : World) (h : Rd .u8 w A c raw) (hd : Ds 256 raw) : Calls Try.prog 9 #[.slice A raw.length c] w (RetV (.bool true) w) := by
  have k1 : Calls Try.prog 16 #[.slice A raw.length c, .int .i64 500] w (RetR (fun w' v => Byt w' v (raw.take 500)) w) := twin_c w h hd 500 (by omega) (by omega)
  obtain ⟨p, hp⟩ : ∃ p, p = raw.take 500 := ⟨_, rfl⟩
  have hpl : p.length ≤ 500 := by rw [hp, List.length_take]; omega
  have hpt : p.take 500 = p := List.take_of_length_le hpl
  rw [← hp] at k1
  obtain ⟨q, hq⟩ : ∃ q, q = envS p := ⟨_, rfl⟩
  have k2 : ∀ (w : World) (A : Option Addr) (c : Nat), Rd .u8 w A c p → Ds 256 p → Calls Try.prog 16 #[.slice A p.length c, .int .i64 500] w (RetR (fun w' v => Byt w' v p) w) := fun w A c h hd => by
    have := twin_c w h hd 500 (by omega) (by omega)
    rw [hpt] at this
    exact this
  have k3 : ∀ (w : World) (A : Option Addr) (c : Nat), Rd .u8 w A c p → Ds 256 p → Calls Try.prog 28 #[.slice A p.length c] w fun e w' => ∃ v, e = .returned (.tuple #[.int .i64 (q.1 : Nat), v, .int .i64 (q.2.2 : Nat)]) ∧ Byt w' v q.2.1 ∧ Below w.heap.size w w' := fun w A c h hd => by
    have := envelope_c w h hd (by omega)
    unfold EnvR at this
    rwa [← hq] at this
  have k4 : ∀ (w : World) (A : Option Addr) (c : Nat), Rd .u8 w A c p → Ds 256 p → Calls Try.prog 29 #[.slice A p.length c] w fun e w' => ∃ v, e = .returned (.tuple #[.int .i64 (q.1 : Nat), v, .int .i64 (q.2.2 : Nat)]) ∧ Byt w' v q.2.1 ∧ Below w.heap.size w w' := fun w A c h hd => by
    have := renvelope_c w h hd (by omega)
    unfold EnvR at this
    rwa [← hq] at this
  obtain ⟨Q1, hQ1⟩ : ∃ x, x = q.1 := ⟨_, rfl⟩
  obtain ⟨Q2, hQ2⟩ : ∃ x, x = q.2.1 := ⟨_, rfl⟩
  obtain ⟨Q3, hQ3⟩ : ∃ x, x = q.2.2 := ⟨_, rfl⟩
  simp only [← hQ1, ← hQ2, ← hQ3] at k3 k4
  have K1 := Lib.hid k1
  have K2 := Lib.hid k2
  have K3 := Lib.hid k3
  have K4 := Lib.hid k4
  obtain ⟨R, hR⟩ : ∃ R, R = raw.length := ⟨_, rfl⟩
  obtain ⟨L, hL⟩ : ∃ L, L = p.length := ⟨_, rfl⟩
  rw [← hR] at K1 ⊢
  simp only [← hL] at K2 K3 K4
  have HL := Lib.hid hL
  clear h hd k1 k2 k3 k4 hp hpl hpt hq hQ1 hQ2 hQ3 hR hL
  go_enter Try.func9, Try.ntmps9
  go_wp2_with fail
  (with_reducible refine K1.out.mono ?_)
  rintro e w1 ⟨v1, rfl, ⟨A1, c1, rfl, hr1, hd1⟩, hb1⟩
  rw [← HL.out]
  have HR1 := Lib.hid hr1
  have HD := Lib.hid hd1
  have HB1 := Lib.hid hb1
  clear K1 hr1 hd1 hb1
  go_wp2_with fail
  (with_reducible refine (K2.out _ _ _ HR1.out HD.out).mono ?_)
  rintro e w2 ⟨v2, rfl, ⟨A2, c2, rfl, hr2, hd2⟩, hb2⟩
  rw [← HL.out]
  have HR2 := Lib.hid hr2
  have HR12 := Lib.hid (HR1.out.below hb2)
  have HB2 := Lib.hid (HB1.out.trans (hb2.mono HB1.out.size))
  clear K2 hr2 hd2 hb2 HR1 HB1
  go_wp2_with fail
  (with_reducible refine (K3.out _ _ _ HR2.out HD.out).mono ?_)
  rintro e w3 ⟨v3, rfl, ⟨A3, c3, rfl, hr3, hd3⟩, hb3⟩
  have HR13 := Lib.hid (HR12.out.below hb3)
  have BY3 : Hid (Byt w3 (.slice A3 Q2.length c3) Q2) := ⟨_, _, rfl, hr3, hd3⟩
  have HB3 := Lib.hid (HB2.out.trans (hb3.mono HB2.out.size))
  clear K3 hr3 hd3 hb3 HR2 HR12 HB2
  go_wp2_with fail
  (with_reducible refine (K4.out _ _ _ HR13.out HD.out).mono ?_)
  rintro e w4 ⟨v4, rfl, ⟨A4, c4, rfl, hr4, hd4⟩, hb4⟩
  have s1 := run_sOf (BY3.out.below hb4)
  have s2 := run_sOf (show Byt w4 (.slice A4 Q2.length c4) Q2 from ⟨_, _, rfl, hr4, hd4⟩)
  have HB4 := Lib.hid (HB3.out.trans (hb4.mono HB3.out.size))
  obtain ⟨M, hM⟩ : ∃ M, M = Q2.length := ⟨_, rfl⟩
  rw [← hM] at s1 s2 ⊢
  clear K4 hr4 hd4 hb4 HR13 HB3 BY3 hM
  go_wp2_with fail
  (with_reducible refine (rwakes_c _).mono ?_)
  rintro e w5 ⟨rfl, hb5⟩
  have HB5 := Lib.hid (HB4.out.trans (hb5.mono HB4.out.size))
  clear hb5 HB4 s1 s2
  go_wp2_with fail
  go_ret
  exact ⟨rfl, HB5.out⟩
end Go.Proofs.Ytkjdklfclinhpaa
