/- The reference's head of a payload. -/
import Derived.Test.YtchhnalalplggaaRlMath
import Derived.Test.YtchhnalalplggaaRlTwin2
import Derived.Test.YtchhnalalplggaaRFrom
namespace Go.Proofs.Ytchhnalalplggaa
open Go.RowKit

theorem hdB_of {bs : List Nat} {n base : Nat} (h : Can 256 bs.reverse n) (hn : 55 < n) (hl : n ≤ 1099511627776) : hdB base n = (base + 55 + bs.length) :: bs ∧ lsz n = bs.length ∧ bs.length ≤ 6 := by
  obtain ⟨hd, hv, hc⟩ := h
  have hds : Ds 256 bs := by have := hd.reverse; rwa [List.reverse_reverse] at this
  have hbe : be bs = n := hv
  have h0 : 0 < bs.length := by
    rcases Nat.eq_zero_or_pos bs.length with h | h
    · rw [List.eq_nil_of_length_eq_zero h] at hbe
      have : be [] = 0 := rfl
      omega
    · exact h
  have hz : bs.getD 0 0 ≠ 0 := by
    have := hc (by rw [List.length_reverse]; exact h0)
    rwa [List.length_reverse, rev_get _ _ (by omega), show bs.length - 1 - (bs.length - 1) = 0 by omega] at this
  have hge := be_ge h0 hz
  have hlt := be_lt hds
  rw [hbe] at hge hlt
  have e := lsz_uniq (by omega) hl hlt (by omega) hge
  have hlo := lastB_of hds
  rw [hbe] at hlo
  refine ⟨?_, e, by have := lsz_le hl; omega⟩
  unfold hdB
  rw [if_neg (by omega), e, hlo]

set_option maxRecDepth 100000 in
set_option maxHeartbeats 6400000 in
theorem rhead_c (base n : Nat) (hb : base ≤ 192) (hn : n ≤ 16777216) (w : World) :
    Calls Try.prog 57 #[.int .i64 (base : Nat), .int .i64 (n : Nat)] w (RetR (fun w' v => Acc w' w.heap.size v (hdB base n)) w) := by
  by_cases h55 : n ≤ 55
  · have h1 : (n : Int) ≤ 55 := by omega
    obtain ⟨s, es⟩ : ∃ s, s = base + n := ⟨_, rfl⟩
    have w1 : IntKind.i64.wrap ((base : Int) + (n : Int)) = (s : Int) := by rw [IntWalk.i64_in _ (by omega)]; omega
    have w2 : IntKind.u8.wrap (s : Int) = (s : Int) := by rw [IntKind.wrap_u8']; omega
    have hq : hdB base n = [s] := by unfold hdB; rw [if_pos h55, es]
    rw [hq]
    have HR : Hid (Acc (w.alloc (.cells #[.int .u8 (s : Int)] 5)) w.heap.size (.slice (some ⟨w.heap.size, 0, none⟩) 1 1) [s]) := Acc.of_row (Row.new (k := .u8) w 5 [s]) (Nat.le_refl _) (by simp)
    have HB : Hid (Below w.heap.size w (w.alloc (.cells #[.int .u8 (s : Int)] 5))) := (Below.refl _ _).alloc (Nat.le_refl _) _
    clear h55 hn hb es hq
    go_enter Try.func57, Try.ntmps57
    go_wp2_with fail
    go_ret
    exact ⟨_, rfl, HR.out, HB.out⟩
  · have h1 : ¬ (n : Int) ≤ 55 := by omega
    have w0 : IntKind.u64.wrap (n : Int) = (n : Int) := by rw [wrapU, Nat.mod_eq_of_lt (by omega)]
    have K1 := Lib.hid (rof_c n (by omega) w)
    have HN : Hid (55 < n ∧ n ≤ 16777216 ∧ base ≤ 192) := ⟨by omega, hn, hb⟩
    obtain ⟨i0, hi, hz0, hz1, hz2⟩ : ∃ i, Try.prog.info? 5 = some i ∧ i.zero = some (.int .u8 0) ∧ i.size = 1 ∧ i.bytes = 1 := info_parts info8
    clear h55 hn hb
    go_enter Try.func57, Try.ntmps57
    go_wp2_with fail
    (with_reducible refine K1.out.mono ?_)
    rintro e w1 ⟨v1, rfl, hnum, hb1⟩
    have K2 := Lib.hid (rbytes_n w1 hnum (by omega))
    have HB1 := Lib.hid hb1
    clear hnum hb1 K1
    go_wp2_with fail
    (with_reducible refine K2.out.mono ?_)
    rintro e w2 ⟨v2, rfl, ⟨bs, hbyt, hcan, hbl⟩, hb2⟩
    obtain ⟨A2, c2, rfl, hr2, hd2⟩ := hbyt
    obtain ⟨hq, hz, hl6⟩ := hdB_of (base := base) hcan HN.out.1 (by have := HN.out; omega)
    have hl0 : 0 < bs.length := by have := (lsz_spec (n := n) (by have := HN.out; omega) (by have := HN.out; omega)).2.1; omega
    obtain ⟨b2, o2, rfl, -, -⟩ := hr2.at_ hl0
    obtain ⟨L, hL⟩ : ∃ L, L = bs.length := ⟨_, rfl⟩
    rw [← hL] at hl6 hq ⊢
    obtain ⟨s, es⟩ : ∃ s, s = base + 55 + L := ⟨_, rfl⟩
    have w3 : IntKind.i64.wrap ((base : Int) + 55) = (base : Int) + 55 := IntWalk.i64_in _ (by have := HN.out; omega)
    have w1' : IntKind.i64.wrap ((base : Int) + 55 + (L : Int)) = (s : Int) := by rw [IntWalk.i64_in _ (by have := HN.out; omega)]; omega
    have w2' : IntKind.u8.wrap (s : Int) = (s : Int) := by rw [IntKind.wrap_u8']; have := HN.out; omega
    rw [← es] at hq
    have HQ := Lib.hid hq
    have HAC : Hid (Acc (w2.alloc (.cells #[.int .u8 (s : Int)] 5)) w2.heap.size (.slice (some ⟨w2.heap.size, 0, none⟩) 1 1) [s]) := Acc.of_row (Row.new (k := .u8) w2 5 [s]) (Nat.le_refl _) (by simp)
    have hbe : Below w2.heap.size w2 (w2.alloc (.cells #[.int .u8 (s : Int)] 5)) := (Below.refl _ _).alloc (Nat.le_refl _) _
    have HNW := Lib.hid (hr2.alloc (.cells #[.int .u8 (s : Int)] 5)).news
    have HBE := Lib.hid hbe
    have HLL := Lib.hid hL
    have HB2 := Lib.hid (HB1.out.trans (hb2.mono HB1.out.size))
    have HSE : Hid ((w2.alloc (.cells #[.int .u8 (s : Int)] 5)).heap.size = w2.heap.size + 1) := by show _ = _; simp
    clear hr2 hd2 hcan hbl hb2 K2 HB1 hq hz hl0 hL es hbe
    go_wp2_with (at_builtin; refine wpList_append_own _ rfl (.tmp 23) (.tmp 24) 22 rfl w2.heap.size 5 i0 (.int .u8 0) 1 1 Try.underlying22 hi hz0 hz1 hz2 rfl (by decide) (.slice (some ⟨w2.heap.size, 0, none⟩) 1 1) 1 (bv [s]) rfl HAC.out ⟨b2, o2, none⟩ L c2 (bv bs) rfl (by rw [bv_length, HLL.out]; omega) HNW.out (by intro u hu; simp [bv] at hu; obtain ⟨x, _, rfl⟩ := hu; rfl) (by unfold maxLen; omega) (by omega) (by rw [HSE.out]; omega) ?_)
    intro v' w3 hown hg _
    have hacc : Acc w3 w2.heap.size v' (s :: bs) := by
      unfold Acc
      have h := hown
      rw [HLL.out, ← bv_append] at h
      rw [List.length_cons, Nat.add_comm]
      exact h
    have hb3 : Below w2.heap.size w2 w3 := HBE.out.grown hg (by rw [HSE.out]; omega) (fun k hk => by simp [Value.ownBlock] at hk; omega)
    have HA := Lib.hid (Acc.mono' hacc (HB2.out.size))
    have HB3 := Lib.hid (HB2.out.trans (hb3.mono HB2.out.size))
    clear hacc hown hg hb3 HAC HBE HSE HNW HB2
    go_wp2_with fail
    go_ret
    exact ⟨_, rfl, by rw [HQ.out]; exact HA.out, HB3.out⟩
end Go.Proofs.Ytchhnalalplggaa
