/- Package rlp's Split; the law RlpSplit. -/
import Derived.Test.YtgjiealcjaojaaaRlSplit
import Derived.Test.YtgjiealcjaojaaaRlWakes
import Derived.Test.YtgjiealcjaojaaaTwin
import Derived.Test.YtgjiealcjaojaaaOpsS
namespace Go.Proofs.Ytgjiealcjaojaaa
open Go.RowKit

/-- What Split tells, of both: is it a list, payload, what is behind, the error. -/
def splitS (raw : List Nat) : Bool × List Nat × List Nat × Nat := match fstS raw with
  | none => (false, [], [], 2)
  | some (l, u, r) => (l, u, r, 0)
def SplitO (raw : List Nat) (w : World) (e : Ending) (w' : World) : Prop := Below w.heap.size w w' ∧ ∃ vu vr, e = .returned (.tuple #[.bool (splitS raw).1, vu, vr, .int .i64 ((splitS raw).2.2.2 : Nat)]) ∧ OwnB w.heap.size w' vu (splitS raw).2.1 ∧ OwnB w.heap.size w' vr (splitS raw).2.2.1 ∧ ∀ k, vu.ownBlock = some k → vr.ownBlock ≠ some k
def SplitQ (raw : List Nat) (w : World) (e : Ending) (w' : World) : Prop := Below w.heap.size w w' ∧ ∃ vu vr, e = .returned (.tuple #[.bool (splitS raw).1, vu, vr, .int .i64 ((splitS raw).2.2.2 : Nat)]) ∧ Byt w' vu (splitS raw).2.1 ∧ Byt w' vr (splitS raw).2.2.1
set_option maxRecDepth 100000 in
set_option maxHeartbeats 6400000 in
theorem split_o {A : Option Addr} {c : Nat} {raw : List Nat} (w : World) (h : Rd .u8 w A c raw) (hd : Ds 256 raw) (hl : raw.length ≤ 16777216) :
    Calls Try.prog 29 #[.slice A raw.length c] w (SplitO raw w) := by
  have C1 := Lib.hid (first_c w h hd hl)
  have HL := Lib.hid hl
  obtain ⟨L, hL⟩ : ∃ L, L = raw.length := ⟨_, rfl⟩
  rw [← hL] at C1 ⊢
  clear h hd hl hL
  go_enter Try.func29, Try.ntmps29
  go_wp2_with fail
  (with_reducible refine C1.out.mono ?_)
  rintro e w1 ⟨hb, hm⟩
  have HB1 := Lib.hid hb
  clear C1 hb
  rcases hf : fstS raw with _ | ⟨l, u, r⟩
  · rw [hf] at hm
    obtain ⟨p, v, rfl⟩ := hm
    have HS : splitS raw = (false, [], [], 2) := by simp [splitS, hf]
    have HQ : Hid (SplitO raw w (.returned (.tuple #[.bool false, .slice none 0 0, .slice none 0 0, .int .i64 2])) w1) := ⟨HB1.out, _, _, by rw [HS]; rfl, by rw [HS]; exact OwnB.nil _ _, by rw [HS]; exact OwnB.nil _ _, fun k h => by cases h⟩
    clear hf HS
    go_wp2_with fail
    refine bodyPost_ret (results_tmp4 rfl _ _ _) rfl ?_
    exact HQ.out
  · rw [hf] at hm
    obtain ⟨vu, vr, rfl, ⟨A2, c2, rfl, hr2, hd2⟩, ⟨A3, c3, rfl, hr3, hd3⟩, -, -⟩ := hm
    obtain ⟨hlr, -⟩ := fstS_len hf
    have hlu := fstS_len2 hf
    have C2 := Lib.hid (rl_clone_c w1 hr2 (by have := HL.out; omega))
    have HR3 := Lib.hid hr3
    have HD2 := Lib.hid hd2
    have HD3 := Lib.hid hd3
    have HRL : Hid (r.length ≤ 16777216) := by have := HL.out; show _ ≤ _; omega
    have HS : Hid (splitS raw = (l, u, r, 0)) := by show _ = _; simp [splitS, hf]
    obtain ⟨K, hK⟩ : ∃ K, K = u.length := ⟨_, rfl⟩
    obtain ⟨M, hM⟩ : ∃ M, M = r.length := ⟨_, rfl⟩
    have HM := Lib.hid hM
    rw [← hK] at C2
    rw [← hK, ← hM]
    have T1 := ta_text
    have T2 := ta_row_text
    have T3 := ta_row
    clear hf hr2 hd2 hr3 hd3 hlr hlu hK hM
    rcases l with _ | _
    · go_wp2_with fail
      (with_reducible refine C2.out.mono ?_)
      rintro e w2 ⟨v2, rfl, ha2, hb2⟩
      have HA2 := Lib.hid ha2
      have C3 := Lib.hid (rl_clone_c w2 (HR3.out.below hb2) HRL.out)
      rw [← HM.out] at C3
      have HB2 := Lib.hid (HB1.out.trans (hb2.mono HB1.out.size))
      clear C2 ha2 hb2 HR3
      go_wp2_with fail
      (with_reducible refine C3.out.mono ?_)
      rintro e w3 ⟨v3, rfl, ha3, hb3⟩
      have HQ : Hid (SplitO raw w (.returned (.tuple #[.bool false, v2, v3, .int .i64 0])) w3) := ⟨HB2.out.trans (hb3.mono HB2.out.size), _, _, by rw [HS.out]; rfl, by rw [HS.out]; exact ((OwnB.of HA2.out HD2.out).below hb3).mono HB1.out.size, by rw [HS.out]; exact (OwnB.of ha3 HD3.out).mono HB2.out.size, fun k h1 h2 => by
        have := (World.ownsRow.lt HA2.out k h1).2
        have := ha3.own k h2
        omega⟩
      clear C3 ha3 hb3 HA2 HB1
      go_wp2_with fail
      refine bodyPost_ret (results_tmp4 rfl _ _ _) rfl ?_
      exact HQ.out
    · go_wp2_with fail
      (with_reducible refine C2.out.mono ?_)
      rintro e w2 ⟨v2, rfl, ha2, hb2⟩
      have HA2 := Lib.hid ha2
      have C3 := Lib.hid (rl_clone_c w2 (HR3.out.below hb2) HRL.out)
      rw [← HM.out] at C3
      have HB2 := Lib.hid (HB1.out.trans (hb2.mono HB1.out.size))
      clear C2 ha2 hb2 HR3
      go_wp2_with fail
      (with_reducible refine C3.out.mono ?_)
      rintro e w3 ⟨v3, rfl, ha3, hb3⟩
      have HQ : Hid (SplitO raw w (.returned (.tuple #[.bool true, v2, v3, .int .i64 0])) w3) := ⟨HB2.out.trans (hb3.mono HB2.out.size), _, _, by rw [HS.out]; rfl, by rw [HS.out]; exact ((OwnB.of HA2.out HD2.out).below hb3).mono HB1.out.size, by rw [HS.out]; exact (OwnB.of ha3 HD3.out).mono HB2.out.size, fun k h1 h2 => by
        have := (World.ownsRow.lt HA2.out k h1).2
        have := ha3.own k h2
        omega⟩
      clear C3 ha3 hb3 HA2 HB1
      go_wp2_with fail
      refine bodyPost_ret (results_tmp4 rfl _ _ _) rfl ?_
      exact HQ.out
theorem split_q {A : Option Addr} {c : Nat} {raw : List Nat} (w : World) (h : Rd .u8 w A c raw) (hd : Ds 256 raw) (hl : raw.length ≤ 16777216) :
    Calls Try.prog 29 #[.slice A raw.length c] w (SplitQ raw w) := (split_o w h hd hl).mono fun _ _ ⟨hb, u, v, e, h1, h2, _⟩ => ⟨hb, u, v, e, h1.byt, h2.byt⟩

end Go.Proofs.Ytgjiealcjaojaaa
