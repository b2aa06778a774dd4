/- The first item of bytes: what package rlp's bare and first tell. -/
import Derived.Test.YtgjiealcjaojaaaRlFirst
namespace Go.Proofs.Ytgjiealcjaojaaa
open Go.RowKit

def bareB (bs : List Nat) : Bool := decide (bs.length = 1 ∧ bs.getD 0 0 < 128)
set_option maxRecDepth 100000 in
theorem bare_c {A : Option Addr} {c : Nat} {bs : List Nat} (w : World) (h : Rd .u8 w A c bs) :
    Calls Try.prog 87 #[.slice A bs.length c] w fun e w' => e = .returned (.bool (bareB bs)) ∧ w' = w := by
  by_cases h1 : bs.length = 1
  · obtain ⟨b, o, rfl, hb, hc⟩ := h.at_ (by omega)
    have h0 : w.cell? ⟨b, o, none⟩ = some (.int .u8 (bs.getD 0 0 : Nat)) := by have := hc 0 (by omega); rwa [Nat.add_zero] at this
    obtain ⟨x, hx⟩ : ∃ x, x = bs.getD 0 0 := ⟨_, rfl⟩
    rw [← hx] at h0
    by_cases h2 : x < 128
    · have HR : Hid (bareB bs = true) := decide_eq_true ⟨h1, by rw [← hx]; exact h2⟩
      have h2' : (x : Int) < 128 := by omega
      rw [h1]
      clear h hc h1 hx
      go_enter Try.func87, Try.ntmps87
      go_wp2_with fail
      go_ret
      exact ⟨by rw [HR.out]; first | done | rfl, rfl⟩
    · have HR : Hid (bareB bs = false) := decide_eq_false (by rw [← hx]; omega)
      have h2' : ¬ (x : Int) < 128 := by omega
      rw [h1]
      clear h hc h1 hx
      go_enter Try.func87, Try.ntmps87
      go_wp2_with fail
      go_ret
      exact ⟨by rw [HR.out]; first | done | rfl, rfl⟩
  · have HR : Hid (bareB bs = false) := decide_eq_false (by omega)
    obtain ⟨L, hL⟩ : ∃ L, L = bs.length := ⟨_, rfl⟩
    have h2' : ¬ (L : Int) = 1 := by omega
    have h3' : ((L : Int) == 1) = false := by simpa using h2'
    rw [← hL]
    clear h h1 hL
    go_enter Try.func87, Try.ntmps87
    go_wp2_with fail
    go_ret
    exact ⟨by rw [HR.out]; first | done | rfl, rfl⟩

theorem below_drewN (w : World) (n : Nat) : Below w.heap.size w (w.drewN n) := ⟨rfl, rfl, rfl, Nat.le_refl _, fun _ _ => rfl⟩
theorem lenS_len {a n N : Nat} {raw u : List Nat} (h : lenS a raw = some (n, u)) (hl : raw.length ≤ N) : u.length ≤ N := by
  unfold lenS at h
  split at h
  · cases h; exact hl
  · split at h
    · cases h
    · split at h
      · cases h
      · cases h; rw [List.length_drop]; omega

/-- The first item: is it a list, its payload, what is behind it. -/
def fstS (raw : List Nat) : Option (Bool × List Nat × List Nat) :=
  if raw.length = 0 then none
  else if raw.getD 0 0 < 128 then some (false, raw.take 1, raw.drop 1)
  else match lenS (if 192 ≤ raw.getD 0 0 then raw.getD 0 0 - 192 else raw.getD 0 0 - 128) (raw.drop 1) with
    | none => none
    | some (n, u) => if u.length < n then none
      else if 192 ≤ raw.getD 0 0 then some (true, u.take n, u.drop n)
      else if bareB (u.take n) = true then none
      else some (false, u.take n, u.drop n)
def FirstR (A : Option Addr) (raw : List Nat) (w : World) (e : Ending) (w' : World) : Prop := Below w.heap.size w w' ∧ match fstS raw with
  | none => ∃ p v, e = .returned (.tuple #[p, v, .bool false])
  | some (l, u, r) => ∃ vu vr, e = .returned (.tuple #[.iface (if l = true then 114 else 112) vu, vr, .bool true]) ∧ Byt w' vu u ∧ Byt w' vr r ∧ vu.ownBlock = (Value.slice A 0 0).ownBlock ∧ vr.ownBlock = (Value.slice A 0 0).ownBlock

theorem byt_rest {w : World} {b o c L : Nat} {xs : List Nat} (h : Rd .u8 w (some ⟨b, o, none⟩) c xs) (hd : Ds 256 xs) (hL : L = xs.length) (m : Nat) (hm : m ≤ xs.length) :
    Byt w (.slice (if c = m then some ⟨b, o, none⟩ else some ⟨b, o + m, none⟩) (L - m) (c - m)) (xs.drop m) :=
  ⟨_, _, by rw [List.length_drop, hL], h.rest m hm, hd.drop m⟩
theorem byt_take {w : World} {A : Option Addr} {c : Nat} {xs : List Nat} (h : Rd .u8 w A c xs) (hd : Ds 256 xs) (m : Nat) (hm : m ≤ xs.length) : Byt w (.slice A m c) (xs.take m) :=
  ⟨_, _, by rw [List.length_take, Nat.min_eq_left hm], h.take m hm, hd.take m⟩

set_option maxRecDepth 100000 in
set_option maxHeartbeats 6400000 in
theorem first_c {A : Option Addr} {c : Nat} {raw : List Nat} (w : World) (h : Rd .u8 w A c raw) (hd : Ds 256 raw) (hl : raw.length ≤ 16777216) :
    Calls Try.prog 62 #[.slice A raw.length c] w (FirstR A raw w) := by
  by_cases hl0 : raw.length = 0
  · have HR : Hid (FirstR A raw w (.returned (.tuple #[.nilIface, .slice none 0 0, .bool false])) w) := by
      refine ⟨Below.refl _ _, ?_⟩
      rw [show fstS raw = none from if_pos hl0]
      exact ⟨_, _, rfl⟩
    rw [hl0]
    clear h hd hl hl0
    go_enter Try.func62, Try.ntmps62
    go_wp2_with fail
    go_ret3
    exact HR.out
  · obtain ⟨b, o, rfl, hb, hc⟩ := h.at_ (by omega)
    have h0 : w.cell? ⟨b, o, none⟩ = some (.int .u8 (raw.getD 0 0 : Nat)) := by have := hc 0 (by omega); rwa [Nat.add_zero] at this
    obtain ⟨x, hx⟩ : ∃ x, x = raw.getD 0 0 := ⟨_, rfl⟩
    have hxd : x < 256 := by rw [hx]; exact hd.get (by omega) _
    rw [← hx] at h0
    obtain ⟨L, hL⟩ : ∃ L, L = raw.length := ⟨_, rfl⟩
    have hL1 : 1 ≤ L := by omega
    have hLc : L ≤ c := by have := h.le; omega
    have hz : ¬ (L : Int) = 0 := by omega
    have hz1 : ((L : Int) == 0) = false := by simpa using hz
    have j1 : (1 : Int) ≤ (L : Int) := by omega
    have j2 : (L : Int) ≤ (c : Int) := by omega
    have j3 : (1 : Int) ≤ (c : Int) := by omega
    have j4 : (0 : Int) < (L : Int) := by omega
    have j5 : 0 < L := by omega
    have j6 : 1 ≤ c := by omega
    by_cases hx1 : x < 128
    · have hx1' : (x : Int) < 128 := by omega
      have HR : Hid (∀ w' : World, Below w.heap.size w w' → FirstR (some ⟨b, o, none⟩) raw w (.returned (.tuple #[.iface 112 (.slice (some ⟨b, o, none⟩) 1 c), .slice (if c = 1 then some ⟨b, o, none⟩ else some ⟨b, o + 1, none⟩) (L - 1) (c - 1), .bool true])) w') := by
        intro w' hb'
        refine ⟨hb', ?_⟩
        rw [show fstS raw = some (false, raw.take 1, raw.drop 1) by unfold fstS; rw [if_neg hl0, if_pos (by rw [← hx]; exact hx1)]]
        exact ⟨_, _, rfl, (byt_take h hd 1 (by omega)).below hb', (byt_rest h hd hL 1 (by omega)).below hb', rfl, by split <;> rfl⟩
      obtain ⟨AA, hAA⟩ : ∃ AA : Option Addr, AA = if c = 1 then some ⟨b, o, none⟩ else some ⟨b, o + 1, none⟩ := ⟨_, rfl⟩
      rw [← hAA] at HR
      rw [← hL]
      clear h hd hl hl0 hc hx hL hx1
      go_enter Try.func62, Try.ntmps62
      go_wp2_with fail
      go_region
      simp only [← hAA]
      clear hAA
      go_simp
      go_wp2_with fail
      go_ret3
      exact HR.out _ (Below.refl _ _).drew
    · have hRN : fstS raw = none → ∀ w' : World, Below w.heap.size w w' → FirstR (some ⟨b, o, none⟩) raw w (.returned (.tuple #[.nilIface, .slice none 0 0, .bool false])) w' := fun h w' hb' => by
        refine ⟨hb', ?_⟩
        rw [h]
        exact ⟨_, _, rfl⟩
      have hx1' : ¬ (x : Int) < 128 := by omega
      obtain ⟨o1, hAA⟩ : ∃ o1, (if c = 1 then some ⟨b, o, none⟩ else some ⟨b, o + 1, none⟩ : Option Addr) = some ⟨b, o1, none⟩ := by
        by_cases h : c = 1
        · exact ⟨o, if_pos h⟩
        · exact ⟨o + 1, if_neg h⟩
      have hR1 := h.rest 1 (by omega)
      rw [hAA] at hR1
      by_cases hxL : 192 ≤ x
      · have hxB : 192 ≤ x := hxL
        have hx2 : (192 : Int) ≤ (x : Int) := by omega
        obtain ⟨a, ha⟩ : ∃ a, a = x - 192 := ⟨_, rfl⟩
        have ha63 : a ≤ 63 := by omega
        have e1 : IntKind.u8.wrap (a : Int) = (a : Int) := IntWalk.u8_in _ (by omega)
        have e1' : (x : Int) - 192 = (a : Int) := by omega
        have cL : ∀ n, Calls Try.prog 86 #[.int .u8 a, .slice (some ⟨b, o1, none⟩) (L - 1) (c - 1)] (w.drewN n) fun e w'' => e = .returned (lenV (some ⟨b, o1, none⟩) (c - 1) a (raw.drop 1)) ∧ ∃ m, w'' = w.drewN m := fun n => by
          have h := length_c (w.drewN n) (hR1.drewN n) (hd.drop 1) a ha63 (by rw [List.length_drop]; omega)
          rw [List.length_drop, ← hL] at h
          exact Calls.quiet_of h
        have hsay := lenV_says hR1 (hd.drop 1) a
        have HF : Hid (fstS raw = match lenS a (raw.drop 1) with
            | none => none
            | some (n, u) => if u.length < n then none else some (true, u.take n, u.drop n)) := by
          show _ = _
          unfold fstS
          rw [if_neg hl0, if_neg (by rw [← hx]; exact hx1), ← hx, if_pos hxB, ← ha]
          rcases lenS a (raw.drop 1) with _ | ⟨n, u⟩
          · rfl
          · show (if _ then _ else _) = (if _ then _ else _)
            rw [if_pos hxB]
        obtain ⟨V, hV⟩ : ∃ V, V = lenV (some ⟨b, o1, none⟩) (c - 1) a (raw.drop 1) := ⟨_, rfl⟩
        rw [← hV] at hsay cL
        rw [← hL]
        have hnone : fstS raw = none → ∀ w' : World, Below w.heap.size w w' → FirstR (some ⟨b, o, none⟩) raw w (.returned (.tuple #[.nilIface, .slice none 0 0, .bool false])) w' := fun h => hRN h
        rcases hls : lenS a (raw.drop 1) with _ | ⟨n, u⟩
        · rw [hls] at hsay
          obtain ⟨n, v, rfl⟩ := hsay
          have HR := Lib.hid (hnone (by rw [HF.out, hls]))
          have CL := Lib.hid cL
          clear hV hls HF hnone hRN h hd hl hl0 hc hx hL hx1 cL ha hxL hxB hR1
          go_enter Try.func62, Try.ntmps62
          go_upto_region 8 with (fail)
          go_quiet (with_reducible exact CL.out _)
          clear CL
          go_wp2_with fail
          go_ret3
          exact HR.out _ (below_drewN _ _)
        · rw [hls] at hsay
          obtain ⟨o2, c2, rfl, hru, hdu⟩ := hsay
          have hul : u.length ≤ c2 := hru.le
          have hu16 : u.length ≤ 16777216 := lenS_len hls (by rw [List.length_drop]; omega)
          have CL := Lib.hid cL
          obtain ⟨K, hK⟩ : ∃ K, K = u.length := ⟨_, rfl⟩
          rw [← hK] at CL
          have f0 : IntKind.u64.wrap (K : Int) = (K : Int) := IntWalk.u64_in _ (by omega)
          by_cases hn : u.length < n
          · have HR := Lib.hid (hnone (by rw [HF.out, hls]; exact if_pos hn))
            have hn' : (K : Int) < (n : Int) := by omega
            clear hV hls HF hnone hRN h hd hl hl0 hc hx hL hx1 cL ha hxL hxB hR1 hru hdu hul hu16 hK hn
            go_enter Try.func62, Try.ntmps62
            go_upto_region 8 with (fail)
            go_quiet (with_reducible exact CL.out _)
            clear CL
            go_wp2_with fail
            go_ret3
            exact HR.out _ (below_drewN _ _)
          · have hn' : ¬ (K : Int) < (n : Int) := by omega
            have n1 : (n : Int) ≤ (K : Int) := by omega
            have n2 : (K : Int) ≤ (c2 : Int) := by omega
            have n3 : (n : Int) ≤ (c2 : Int) := by omega
            have HU := Lib.hid (byt_take hru hdu n (by omega))
            have HT := Lib.hid (byt_rest hru hdu hK n (by omega))
            obtain ⟨A2, hA2⟩ : ∃ A2 : Option Addr, A2 = if c2 = n then some ⟨b, o2, none⟩ else some ⟨b, o2 + n, none⟩ := ⟨_, rfl⟩
            rw [← hA2] at HT
            have HR : Hid (∀ w' : World, Below w.heap.size w w' → FirstR (some ⟨b, o, none⟩) raw w (.returned (.tuple #[.iface 114 (.slice (some ⟨b, o2, none⟩) n c2), .slice A2 (K - n) (c2 - n), .bool true])) w') := by
              intro w' hb'
              refine ⟨hb', ?_⟩
              rw [HF.out, hls]
              simp only
              rw [if_neg hn]
              exact ⟨_, _, rfl, HU.out.below hb', HT.out.below hb', rfl, by rw [hA2]; split <;> rfl⟩
            clear hV hls HF hnone hRN h hd hl hl0 hc hx hL hx1 cL ha hxL hxB hR1 hru hdu hul hu16 hK hn
            go_enter Try.func62, Try.ntmps62
            go_upto_region 8 with (fail)
            go_quiet (with_reducible exact CL.out _)
            clear CL
            go_wp2_with fail
            go_region
            simp only [← hA2]
            clear hA2
            go_simp
            go_wp2_with fail
            go_ret3
            exact HR.out _ (below_drewN _ _).drew
      · have hxB : ¬ 192 ≤ x := hxL
        have hx2 : ¬ (192 : Int) ≤ (x : Int) := by omega
        obtain ⟨a, ha⟩ : ∃ a, a = x - 128 := ⟨_, rfl⟩
        have ha63 : a ≤ 63 := by omega
        have e1 : IntKind.u8.wrap (a : Int) = (a : Int) := IntWalk.u8_in _ (by omega)
        have e1' : (x : Int) - 128 = (a : Int) := by omega
        have cL : ∀ n, Calls Try.prog 86 #[.int .u8 a, .slice (some ⟨b, o1, none⟩) (L - 1) (c - 1)] (w.drewN n) fun e w'' => e = .returned (lenV (some ⟨b, o1, none⟩) (c - 1) a (raw.drop 1)) ∧ ∃ m, w'' = w.drewN m := fun n => by
          have h := length_c (w.drewN n) (hR1.drewN n) (hd.drop 1) a ha63 (by rw [List.length_drop]; omega)
          rw [List.length_drop, ← hL] at h
          exact Calls.quiet_of h
        have hsay := lenV_says hR1 (hd.drop 1) a
        have HF : Hid (fstS raw = match lenS a (raw.drop 1) with
            | none => none
            | some (n, u) => if u.length < n then none else if bareB (u.take n) = true then none else some (false, u.take n, u.drop n)) := by
          show _ = _
          unfold fstS
          rw [if_neg hl0, if_neg (by rw [← hx]; exact hx1), ← hx, if_neg hxB, ← ha]
          rcases lenS a (raw.drop 1) with _ | ⟨n, u⟩
          · rfl
          · show (if _ then _ else _) = (if _ then _ else _)
            rw [if_neg hxB]
        obtain ⟨V, hV⟩ : ∃ V, V = lenV (some ⟨b, o1, none⟩) (c - 1) a (raw.drop 1) := ⟨_, rfl⟩
        rw [← hV] at hsay cL
        rw [← hL]
        have hnone : fstS raw = none → ∀ w' : World, Below w.heap.size w w' → FirstR (some ⟨b, o, none⟩) raw w (.returned (.tuple #[.nilIface, .slice none 0 0, .bool false])) w' := fun h => hRN h
        rcases hls : lenS a (raw.drop 1) with _ | ⟨n, u⟩
        · rw [hls] at hsay
          obtain ⟨n, v, rfl⟩ := hsay
          have HR := Lib.hid (hnone (by rw [HF.out, hls]))
          have CL := Lib.hid cL
          clear hV hls HF hnone hRN h hd hl hl0 hc hx hL hx1 cL ha hxL hxB hR1
          go_enter Try.func62, Try.ntmps62
          go_upto_region 8 with (fail)
          go_quiet (with_reducible exact CL.out _)
          clear CL
          go_wp2_with fail
          go_ret3
          exact HR.out _ (below_drewN _ _)
        · rw [hls] at hsay
          obtain ⟨o2, c2, rfl, hru, hdu⟩ := hsay
          have hul : u.length ≤ c2 := hru.le
          have hu16 : u.length ≤ 16777216 := lenS_len hls (by rw [List.length_drop]; omega)
          have CL := Lib.hid cL
          obtain ⟨K, hK⟩ : ∃ K, K = u.length := ⟨_, rfl⟩
          rw [← hK] at CL
          have f0 : IntKind.u64.wrap (K : Int) = (K : Int) := IntWalk.u64_in _ (by omega)
          by_cases hn : u.length < n
          · have HR := Lib.hid (hnone (by rw [HF.out, hls]; exact if_pos hn))
            have hn' : (K : Int) < (n : Int) := by omega
            clear hV hls HF hnone hRN h hd hl hl0 hc hx hL hx1 cL ha hxL hxB hR1 hru hdu hul hu16 hK hn
            go_enter Try.func62, Try.ntmps62
            go_upto_region 8 with (fail)
            go_quiet (with_reducible exact CL.out _)
            clear CL
            go_wp2_with fail
            go_ret3
            exact HR.out _ (below_drewN _ _)
          · have hn' : ¬ (K : Int) < (n : Int) := by omega
            have n1 : (n : Int) ≤ (K : Int) := by omega
            have n2 : (K : Int) ≤ (c2 : Int) := by omega
            have n3 : (n : Int) ≤ (c2 : Int) := by omega
            have HU := Lib.hid (byt_take hru hdu n (by omega))
            have HT := Lib.hid (byt_rest hru hdu hK n (by omega))
            obtain ⟨A2, hA2⟩ : ∃ A2 : Option Addr, A2 = if c2 = n then some ⟨b, o2, none⟩ else some ⟨b, o2 + n, none⟩ := ⟨_, rfl⟩
            rw [← hA2] at HT
            have HR : Hid (∀ w' : World, Below w.heap.size w w' → FirstR (some ⟨b, o, none⟩) raw w (.returned (.tuple #[.iface 112 (.slice (some ⟨b, o2, none⟩) n c2), .slice A2 (K - n) (c2 - n), .bool (!bareB (u.take n))])) w') := by
              intro w' hb'
              refine ⟨hb', ?_⟩
              rw [HF.out, hls]
              simp only
              rw [if_neg hn]
              by_cases hbb : bareB (u.take n) = true
              · rw [if_pos hbb, hbb]; exact ⟨_, _, rfl⟩
              · rw [if_neg hbb, Bool.eq_false_iff.2 hbb]
                exact ⟨_, _, rfl, HU.out.below hb', HT.out.below hb', rfl, by rw [hA2]; split <;> rfl⟩
            have cB : ∀ w' : World, Below w.heap.size w w' → Calls Try.prog 87 #[.slice (some ⟨b, o2, none⟩) n c2] w' fun e w'' => e = .returned (.bool (bareB (u.take n))) ∧ w'' = w' := fun w' hb' => by
              have h := bare_c w' ((hru.take n (by omega)).below hb')
              rw [List.length_take, Nat.min_eq_left (by omega)] at h
              exact h
            obtain ⟨BB, hBB⟩ : ∃ BB, BB = bareB (u.take n) := ⟨_, rfl⟩
            rw [← hBB] at HR cB
            have CB := Lib.hid cB
            clear hV hls HF hnone hRN h hd hl hl0 hc hx hL hx1 cL ha hxL hxB hR1 hru hdu hul hu16 hK hn cB hBB
            go_enter Try.func62, Try.ntmps62
            go_upto_region 8 with (fail)
            go_quiet (with_reducible exact CL.out _)
            clear CL
            go_wp2_with fail
            go_region
            simp only [← hA2]
            clear hA2
            go_simp
            go_wp2_with fail
            (with_reducible refine (CB.out _ (below_drewN _ _)).mono ?_)
            rintro e w2 ⟨rfl, rfl⟩
            clear CB
            go_wp2_with fail
            go_ret3
            exact HR.out _ (below_drewN _ _).drew
end Go.Proofs.Ytgjiealcjaojaaa
