/- Package rlp's Split; the law RlpSplit. -/
import Derived.Test.YtchhnalalplggaaRlSplit
import Derived.Test.YtchhnalalplggaaRlWakes
import Derived.Test.YtchhnalalplggaaTwin
import Derived.Test.YtchhnalalplggaaOpsS
namespace Go.Proofs.Ytchhnalalplggaa
open Go.RowKit

/-- What Split tells, of both: is it a list, payload, what is behind, the error. -/
def splitS (raw : List Nat) : Bool × List Nat × List Nat × Nat := match fstS raw with
  | none => (false, [], [], 2)
  | some (l, u, r) => (l, u, r, 0)
def SplitQ (raw : List Nat) (w : World) (e : Ending) (w' : World) : Prop := Below w.heap.size w w' ∧ ∃ vu vr, e = .returned (.tuple #[.bool (splitS raw).1, vu, vr, .int .i64 ((splitS raw).2.2.2 : Nat)]) ∧ Byt w' vu (splitS raw).2.1 ∧ Byt w' vr (splitS raw).2.2.1
theorem rsplit_q {A : Option Addr} {c : Nat} {raw : List Nat} (w : World) (h : Rd .u8 w A c raw) (hd : Ds 256 raw) (hl : raw.length ≤ 16777216) :
    Calls Try.prog 22 #[.slice A raw.length c] w (SplitQ raw w) := by
  refine (rsplit_c w h hd hl).mono fun e w' ⟨hb, hm⟩ => ⟨hb, ?_⟩
  unfold splitS
  rcases hf : fstS raw with _ | ⟨l, u, r⟩
  · rw [hf] at hm
    exact ⟨_, _, hm, Byt.nil _, Byt.nil _⟩
  · rw [hf] at hm
    obtain ⟨vu, vr, he, h1, h2, _⟩ := hm
    exact ⟨vu, vr, he, h1, h2⟩
set_option maxRecDepth 100000 in
set_option maxHeartbeats 6400000 in
theorem split_q {A : Option Addr} {c : Nat} {raw : List Nat} (w : World) (h : Rd .u8 w A c raw) (hd : Ds 256 raw) (hl : raw.length ≤ 16777216) :
    Calls Try.prog 21 #[.slice A raw.length c] w (SplitQ raw w) := by
  have C1 := Lib.hid (first_c w h hd hl)
  have HL := Lib.hid hl
  obtain ⟨L, hL⟩ : ∃ L, L = raw.length := ⟨_, rfl⟩
  rw [← hL] at C1 ⊢
  clear h hd hl hL
  go_enter Try.func21, Try.ntmps21
  go_wp2_with fail
  (with_reducible refine C1.out.mono ?_)
  rintro e w1 ⟨hb, hm⟩
  have HB1 := Lib.hid hb
  clear C1 hb
  rcases hf : fstS raw with _ | ⟨l, u, r⟩
  · rw [hf] at hm
    obtain ⟨p, v, rfl⟩ := hm
    have HS : splitS raw = (false, [], [], 2) := by simp [splitS, hf]
    have HQ : Hid (SplitQ raw w (.returned (.tuple #[.bool false, .slice none 0 0, .slice none 0 0, .int .i64 2])) w1) := ⟨HB1.out, _, _, by rw [HS]; rfl, by rw [HS]; exact Byt.nil _, by rw [HS]; exact Byt.nil _⟩
    clear hf HS
    go_wp2_with fail
    refine bodyPost_ret (results_tmp4 rfl _ _ _) rfl ?_
    exact HQ.out
  · rw [hf] at hm
    obtain ⟨vu, vr, rfl, ⟨A2, c2, rfl, hr2, hd2⟩, ⟨A3, c3, rfl, hr3, hd3⟩, -, -⟩ := hm
    obtain ⟨hlr, -⟩ := fstS_len hf
    have hlu := fstS_len2 hf
    have C2 := Lib.hid (rl_clone_c w1 hr2 (by have := HL.out; omega))
    have HR3 := Lib.hid hr3
    have HD2 := Lib.hid hd2
    have HD3 := Lib.hid hd3
    have HRL : Hid (r.length ≤ 16777216) := by have := HL.out; show _ ≤ _; omega
    have HS : Hid (splitS raw = (l, u, r, 0)) := by show _ = _; simp [splitS, hf]
    obtain ⟨K, hK⟩ : ∃ K, K = u.length := ⟨_, rfl⟩
    obtain ⟨M, hM⟩ : ∃ M, M = r.length := ⟨_, rfl⟩
    have HM := Lib.hid hM
    rw [← hK] at C2
    rw [← hK, ← hM]
    have T1 := ta_text
    have T2 := ta_row_text
    have T3 := ta_row
    clear hf hr2 hd2 hr3 hd3 hlr hlu hK hM
    rcases l with _ | _
    · go_wp2_with fail
      (with_reducible refine C2.out.mono ?_)
      rintro e w2 ⟨v2, rfl, ha2, hb2⟩
      have HA2 := Lib.hid ha2
      have C3 := Lib.hid (rl_clone_c w2 (HR3.out.below hb2) HRL.out)
      rw [← HM.out] at C3
      have HB2 := Lib.hid (HB1.out.trans (hb2.mono HB1.out.size))
      clear C2 ha2 hb2 HB1 HR3
      go_wp2_with fail
      (with_reducible refine C3.out.mono ?_)
      rintro e w3 ⟨v3, rfl, ha3, hb3⟩
      have HQ : Hid (SplitQ raw w (.returned (.tuple #[.bool false, v2, v3, .int .i64 0])) w3) := ⟨HB2.out.trans (hb3.mono HB2.out.size), _, _, by rw [HS.out]; rfl, by rw [HS.out]; exact (HA2.out.byt HD2.out).below hb3, by rw [HS.out]; exact ha3.byt HD3.out⟩
      clear C3 ha3 hb3 HA2
      go_wp2_with fail
      refine bodyPost_ret (results_tmp4 rfl _ _ _) rfl ?_
      exact HQ.out
    · go_wp2_with fail
      (with_reducible refine C2.out.mono ?_)
      rintro e w2 ⟨v2, rfl, ha2, hb2⟩
      have HA2 := Lib.hid ha2
      have C3 := Lib.hid (rl_clone_c w2 (HR3.out.below hb2) HRL.out)
      rw [← HM.out] at C3
      have HB2 := Lib.hid (HB1.out.trans (hb2.mono HB1.out.size))
      clear C2 ha2 hb2 HB1 HR3
      go_wp2_with fail
      (with_reducible refine C3.out.mono ?_)
      rintro e w3 ⟨v3, rfl, ha3, hb3⟩
      have HQ : Hid (SplitQ raw w (.returned (.tuple #[.bool true, v2, v3, .int .i64 0])) w3) := ⟨HB2.out.trans (hb3.mono HB2.out.size), _, _, by rw [HS.out]; rfl, by rw [HS.out]; exact (HA2.out.byt HD2.out).below hb3, by rw [HS.out]; exact ha3.byt HD3.out⟩
      clear C3 ha3 hb3 HA2
      go_wp2_with fail
      refine bodyPost_ret (results_tmp4 rfl _ _ _) rfl ?_
      exact HQ.out

set_option maxRecDepth 100000 in
set_option maxHeartbeats 3200000 in
theorem rlpSplit_c {A : Option Addr} {c : Nat} {raw : List Nat} (w : World) (h : Rd .u8 w A c raw) (hd : Ds 256 raw) : Calls Try.prog 6 #[.slice A raw.length c] w (RetV (.bool true) w) := by
  have k1 : Calls Try.prog 16 #[.slice A raw.length c, .int .i64 3000] w (RetR (fun w' v => Byt w' v (raw.take 3000)) w) := twin_c w h hd 3000 (by omega) (by omega)
  obtain ⟨p, hp⟩ : ∃ p, p = raw.take 3000 := ⟨_, rfl⟩
  have hpl : p.length ≤ 3000 := by rw [hp, List.length_take]; omega
  have hpt : p.take 3000 = p := List.take_of_length_le hpl
  rw [← hp] at k1
  have k2 : ∀ (w : World) (A : Option Addr) (c : Nat), Rd .u8 w A c p → Ds 256 p → Calls Try.prog 16 #[.slice A p.length c, .int .i64 3000] w (RetR (fun w' v => Byt w' v p) w) := fun w A c h hd => by
    have := twin_c w h hd 3000 (by omega) (by omega)
    rw [hpt] at this
    exact this
  have k3 : ∀ (w : World) (A : Option Addr) (c : Nat), Rd .u8 w A c p → Ds 256 p → Calls Try.prog 21 #[.slice A p.length c] w (SplitQ p w) := fun w A c h hd => split_q w h hd (by omega)
  have k4 : ∀ (w : World) (A : Option Addr) (c : Nat), Rd .u8 w A c p → Ds 256 p → Calls Try.prog 22 #[.slice A p.length c] w (SplitQ p w) := fun w A c h hd => rsplit_q w h hd (by omega)
  unfold SplitQ at k3 k4
  obtain ⟨q, hq⟩ : ∃ q, q = splitS p := ⟨_, rfl⟩
  simp only [← hq] at k3 k4
  obtain ⟨Q0, Q1, Q2, Q3⟩ := q
  simp only at k3 k4
  have K1 := Lib.hid k1
  have K2 := Lib.hid k2
  have K3 := Lib.hid k3
  have K4 := Lib.hid k4
  obtain ⟨R, hR⟩ : ∃ R, R = raw.length := ⟨_, rfl⟩
  obtain ⟨L, hL⟩ : ∃ L, L = p.length := ⟨_, rfl⟩
  rw [← hR] at K1 ⊢
  simp only [← hL] at K2 K3 K4
  have HL := Lib.hid hL
  clear h hd k1 k2 k3 k4 hp hpl hpt hq hR hL
  go_enter Try.func6, Try.ntmps6
  go_wp2_with fail
  (with_reducible refine K1.out.mono ?_)
  rintro e w1 ⟨v1, rfl, ⟨A1, c1, rfl, hr1, hd1⟩, hb1⟩
  rw [← HL.out]
  have HR1 := Lib.hid hr1
  have HD := Lib.hid hd1
  have HB1 := Lib.hid hb1
  clear K1 hr1 hd1 hb1
  go_wp2_with fail
  (with_reducible refine (K2.out _ _ _ HR1.out HD.out).mono ?_)
  rintro e w2 ⟨v2, rfl, ⟨A2, c2, rfl, hr2, hd2⟩, hb2⟩
  rw [← HL.out]
  have HR2 := Lib.hid hr2
  have HR12 := Lib.hid (HR1.out.below hb2)
  have HB2 := Lib.hid (HB1.out.trans (hb2.mono HB1.out.size))
  clear K2 hr2 hd2 hb2 HR1 HB1
  go_wp2_with fail
  (with_reducible refine (K3.out _ _ _ HR2.out HD.out).mono ?_)
  rintro e w3 ⟨hb3, vu3, vr3, rfl, ⟨A3, c3, rfl, hr3, hd3⟩, ⟨A5, c5, rfl, hr5, hd5⟩⟩
  have HR13 := Lib.hid (HR12.out.below hb3)
  have BY3 : Hid (Byt w3 (.slice A3 Q1.length c3) Q1) := ⟨_, _, rfl, hr3, hd3⟩
  have BY5 : Hid (Byt w3 (.slice A5 Q2.length c5) Q2) := ⟨_, _, rfl, hr5, hd5⟩
  have HB3 := Lib.hid (HB2.out.trans (hb3.mono HB2.out.size))
  clear K3 hr3 hd3 hr5 hd5 hb3 HR2 HR12 HB2
  go_wp2_with fail
  (with_reducible refine (K4.out _ _ _ HR13.out HD.out).mono ?_)
  rintro e w4 ⟨hb4, vu4, vr4, rfl, ⟨A4, c4, rfl, hr4, hd4⟩, ⟨A6, c6, rfl, hr6, hd6⟩⟩
  have s1 := run_sOf (BY3.out.below hb4)
  have s2 := run_sOf (show Byt w4 (.slice A4 Q1.length c4) Q1 from ⟨_, _, rfl, hr4, hd4⟩)
  have s3 := run_sOf (BY5.out.below hb4)
  have s4 := run_sOf (show Byt w4 (.slice A6 Q2.length c6) Q2 from ⟨_, _, rfl, hr6, hd6⟩)
  have HB4 := Lib.hid (HB3.out.trans (hb4.mono HB3.out.size))
  obtain ⟨M, hM⟩ : ∃ M, M = Q1.length := ⟨_, rfl⟩
  obtain ⟨M2, hM2⟩ : ∃ M, M = Q2.length := ⟨_, rfl⟩
  rw [← hM] at s1 s2
  rw [← hM2] at s3 s4
  rw [← hM, ← hM2]
  clear K4 hr4 hd4 hr6 hd6 hb4 HR13 HB3 BY3 BY5 hM hM2
  go_wp2_with fail
  (with_reducible refine (rwakes_c _).mono ?_)
  rintro e w5 ⟨rfl, hb5⟩
  have HB5 := Lib.hid (HB4.out.trans (hb5.mono HB4.out.size))
  clear hb5 HB4 s1 s2 s3 s4
  go_wp2_with fail
  go_ret
  exact ⟨rfl, HB5.out⟩
end Go.Proofs.Ytchhnalalplggaa
