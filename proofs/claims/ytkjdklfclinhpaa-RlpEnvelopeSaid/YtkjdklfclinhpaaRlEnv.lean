/- Envelopes: package rlp's and the reference's. -/
import Derived.Test.YtkjdklfclinhpaaRlFirst2
import Derived.OwnWalk
namespace Go.Proofs.Ytkjdklfclinhpaa
open Go.RowKit

def envS (raw : List Nat) : Nat × List Nat × Nat :=
  if raw.length = 0 then (0, [], 2) else if 192 ≤ raw.getD 0 0 then (0, raw, 0) else if 128 ≤ raw.getD 0 0 then (0, [], 2) else (raw.getD 0 0, raw.drop 1, 0)
def EnvR (raw : List Nat) (w : World) (e : Ending) (w' : World) : Prop := ∃ v, e = .returned (.tuple #[.int .i64 ((envS raw).1 : Nat), v, .int .i64 ((envS raw).2.2 : Nat)]) ∧ Byt w' v (envS raw).2.1 ∧ Below w.heap.size w w'

set_option maxRecDepth 100000 in
set_option maxHeartbeats 3200000 in
theorem envelope_c {A : Option Addr} {c : Nat} {raw : List Nat} (w : World) (h : Rd .u8 w A c raw) (hd : Ds 256 raw) (hl : raw.length ≤ 16777216) : Calls Try.prog 28 #[.slice A raw.length c] w (EnvR raw w) := by
  by_cases h0 : raw.length = 0
  · have hE : envS raw = (0, [], 2) := if_pos h0
    have HQ : Hid (EnvR raw w (.returned (.tuple #[.int .i64 0, .slice none 0 0, .int .i64 2])) w) := ⟨_, by rw [hE]; rfl, by rw [hE]; exact Byt.nil _, Below.refl _ _⟩
    rw [h0]
    clear h hd hl h0 hE
    go_enter Try.func28, Try.ntmps28
    go_wp2_with fail
    go_ret3
    exact HQ.out
  · obtain ⟨b, o, rfl, hb, hc⟩ := h.at_ (by omega)
    have z0 : w.cell? ⟨b, o, none⟩ = some (.int .u8 (raw.getD 0 0 : Nat)) := by have := hc 0 (by omega); rwa [Nat.add_zero] at this
    obtain ⟨x, hx⟩ : ∃ x, x = raw.getD 0 0 := ⟨_, rfl⟩
    have hxd : x < 256 := by rw [hx]; exact hd.get (by omega) _
    rw [← hx] at z0
    obtain ⟨L, hL⟩ : ∃ L, L = raw.length := ⟨_, rfl⟩
    have hLc : L ≤ c := by have := h.le; omega
    have hz1 : ((L : Int) == 0) = false := by simp; omega
    have j1 : (1 : Int) ≤ (L : Int) := by omega
    have j2 : (L : Int) ≤ (c : Int) := by omega
    have j3 : (1 : Int) ≤ (c : Int) := by omega
    have j4 : (0 : Int) < (L : Int) := by omega
    have j5 : 0 < L := by omega
    have e0 : IntKind.i64.wrap (x : Int) = (x : Int) := IntWalk.i64_in _ (by omega)
    by_cases h192 : 192 ≤ x
    · have g1 : (192 : Int) ≤ (x : Int) := by omega
      have g2 : (128 : Int) ≤ (x : Int) := by omega
      have g3 : ¬ (x : Int) < 192 := by omega
      have hE : envS raw = (0, raw, 0) := by unfold envS; rw [if_neg h0, ← hx, if_pos h192]
      have C := Lib.hid (rl_clone_c w h hl)
      have HD := Lib.hid hd
      have HE := Lib.hid hE
      rw [← hL] at C ⊢
      clear h hd hl h0 hc hx hL h192 hE
      go_enter Try.func28, Try.ntmps28
      go_wp2_with fail
      (with_reducible refine C.out.mono ?_)
      rintro e w1 ⟨v, rfl, hv, hb1⟩
      have HQ : Hid (EnvR raw w (.returned (.tuple #[.int .i64 0, v, .int .i64 0])) w1) := ⟨_, by rw [HE.out]; rfl, by rw [HE.out]; exact hv.byt HD.out, hb1⟩
      clear C hv hb1
      go_wp2_with fail
      go_ret3
      exact HQ.out
    · by_cases h128 : 128 ≤ x
      · have g1 : ¬ (192 : Int) ≤ (x : Int) := by omega
        have g2 : (128 : Int) ≤ (x : Int) := by omega
        have g3 : (x : Int) < 192 := by omega
        have hE : envS raw = (0, [], 2) := by unfold envS; rw [if_neg h0, ← hx, if_neg h192, if_pos h128]
        have HQ : Hid (EnvR raw w (.returned (.tuple #[.int .i64 0, .slice none 0 0, .int .i64 2])) w) := ⟨_, by rw [hE]; rfl, by rw [hE]; exact Byt.nil _, Below.refl _ _⟩
        rw [← hL]
        clear h hd hl h0 hc hx hL h192 h128 hE
        go_enter Try.func28, Try.ntmps28
        go_wp2_with fail
        go_ret3
        exact HQ.out
      · have g1 : ¬ (192 : Int) ≤ (x : Int) := by omega
        have g2 : ¬ (128 : Int) ≤ (x : Int) := by omega
        have hE : envS raw = (x, raw.drop 1, 0) := by unfold envS; rw [if_neg h0, ← hx, if_neg h192, if_neg h128]
        have hR := h.rest 1 (by omega)
        obtain ⟨o1, hAA⟩ : ∃ o1, (if c = 1 then some ⟨b, o, none⟩ else some ⟨b, o + 1, none⟩ : Option Addr) = some ⟨b, o1, none⟩ := by
          by_cases h : c = 1
          · exact ⟨o, if_pos h⟩
          · exact ⟨o + 1, if_neg h⟩
        rw [hAA] at hR
        have cc : Calls Try.prog 41 #[.slice (some ⟨b, o1, none⟩) (L - 1) (c - 1)] w (RetR (fun w' v => Acc w' w.heap.size v (raw.drop 1)) w) := by
          have := rl_clone_c w hR (by rw [List.length_drop]; omega)
          rwa [List.length_drop, ← hL] at this
        have C := Lib.hid cc
        have HD := Lib.hid (hd.drop 1)
        have HE := Lib.hid hE
        rw [← hL]
        clear h hd hl h0 hc hx hL h192 h128 hE hR cc
        go_enter Try.func28, Try.ntmps28
        go_wp2_with fail
        (with_reducible refine C.out.mono ?_)
        rintro e w1 ⟨v, rfl, hv, hb1⟩
        have HQ : Hid (EnvR raw w (.returned (.tuple #[.int .i64 x, v, .int .i64 0])) w1) := ⟨_, by rw [HE.out]; rfl, by rw [HE.out]; exact hv.byt HD.out, hb1⟩
        clear C hv hb1
        go_wp2_with fail
        go_ret3
        exact HQ.out

set_option maxRecDepth 100000 in
set_option maxHeartbeats 3200000 in
theorem renvelope_c {A : Option Addr} {c : Nat} {raw : List Nat} (w : World) (h : Rd .u8 w A c raw) (hd : Ds 256 raw) (hl : raw.length ≤ 16777216) : Calls Try.prog 29 #[.slice A raw.length c] w (EnvR raw w) := by
  by_cases h0 : raw.length = 0
  · have hE : envS raw = (0, [], 2) := if_pos h0
    have HQ : Hid (EnvR raw w (.returned (.tuple #[.int .i64 0, .slice none 0 0, .int .i64 2])) w) := ⟨_, by rw [hE]; rfl, by rw [hE]; exact Byt.nil _, Below.refl _ _⟩
    rw [h0]
    clear h hd hl h0 hE
    go_enter Try.func29, Try.ntmps29
    go_wp2_with fail
    go_ret3
    exact HQ.out
  · obtain ⟨b, o, rfl, hb, hc⟩ := h.at_ (by omega)
    have z0 : w.cell? ⟨b, o, none⟩ = some (.int .u8 (raw.getD 0 0 : Nat)) := by have := hc 0 (by omega); rwa [Nat.add_zero] at this
    obtain ⟨x, hx⟩ : ∃ x, x = raw.getD 0 0 := ⟨_, rfl⟩
    have hxd : x < 256 := by rw [hx]; exact hd.get (by omega) _
    rw [← hx] at z0
    obtain ⟨L, hL⟩ : ∃ L, L = raw.length := ⟨_, rfl⟩
    have hLc : L ≤ c := by have := h.le; omega
    have hz1 : ((L : Int) == 0) = false := by simp; omega
    have j1 : (1 : Int) ≤ (L : Int) := by omega
    have j2 : (L : Int) ≤ (c : Int) := by omega
    have j3 : (1 : Int) ≤ (c : Int) := by omega
    have j4 : (0 : Int) < (L : Int) := by omega
    have j5 : 0 < L := by omega
    have e0 : IntKind.i64.wrap (x : Int) = (x : Int) := IntWalk.i64_in _ (by omega)
    by_cases h192 : 192 ≤ x
    · have g1 : (192 : Int) ≤ (x : Int) := by omega
      have g2 : (128 : Int) ≤ (x : Int) := by omega
      have g3 : ¬ (x : Int) < 192 := by omega
      have hE : envS raw = (0, raw, 0) := by unfold envS; rw [if_neg h0, ← hx, if_pos h192]
      have HQ : Hid (EnvR raw w (.returned (.tuple #[.int .i64 0, .slice (some ⟨b, o, none⟩) L c, .int .i64 0])) w) := ⟨_, by rw [hE]; rfl, by rw [hE, hL]; exact ⟨_, _, rfl, h, hd⟩, Below.refl _ _⟩
      rw [← hL]
      clear h hd hl h0 hc hx hL h192 hE
      go_enter Try.func29, Try.ntmps29
      go_wp2_with fail
      go_ret3
      exact HQ.out
    · by_cases h128 : 128 ≤ x
      · have g1 : ¬ (192 : Int) ≤ (x : Int) := by omega
        have g2 : (128 : Int) ≤ (x : Int) := by omega
        have g3 : (x : Int) < 192 := by omega
        have hE : envS raw = (0, [], 2) := by unfold envS; rw [if_neg h0, ← hx, if_neg h192, if_pos h128]
        have HQ : Hid (EnvR raw w (.returned (.tuple #[.int .i64 0, .slice none 0 0, .int .i64 2])) w) := ⟨_, by rw [hE]; rfl, by rw [hE]; exact Byt.nil _, Below.refl _ _⟩
        rw [← hL]
        clear h hd hl h0 hc hx hL h192 h128 hE
        go_enter Try.func29, Try.ntmps29
        go_wp2_with fail
        go_ret3
        exact HQ.out
      · have g1 : ¬ (192 : Int) ≤ (x : Int) := by omega
        have g2 : ¬ (128 : Int) ≤ (x : Int) := by omega
        have hE : envS raw = (x, raw.drop 1, 0) := by unfold envS; rw [if_neg h0, ← hx, if_neg h192, if_neg h128]
        have HQ : Hid (∀ w', Below w.heap.size w w' → EnvR raw w (.returned (.tuple #[.int .i64 x, .slice (if c = 1 then some ⟨b, o, none⟩ else some ⟨b, o + 1, none⟩) (L - 1) (c - 1), .int .i64 0])) w') := fun w' hb' => ⟨_, by rw [hE]; rfl, by rw [hE]; exact (byt_rest h hd hL 1 (by omega)).below hb', hb'⟩
        obtain ⟨AA, hAA⟩ : ∃ AA : Option Addr, AA = if c = 1 then some ⟨b, o, none⟩ else some ⟨b, o + 1, none⟩ := ⟨_, rfl⟩
        rw [← hAA] at HQ
        rw [← hL]
        clear h hd hl h0 hc hx hL h192 h128 hE
        go_enter Try.func29, Try.ntmps29
        go_wp2_with fail
        go_region
        simp only [← hAA]
        clear hAA
        go_simp
        go_wp2_with fail
        go_ret3
        exact HQ.out _ (Below.refl _ _).drew
end Go.Proofs.Ytkjdklfclinhpaa
