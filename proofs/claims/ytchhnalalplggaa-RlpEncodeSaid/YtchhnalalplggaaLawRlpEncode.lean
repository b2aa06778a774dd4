/- The law RlpEncode. -/
import Derived.Test.YtchhnalalplggaaRlFormR
import Derived.Test.YtchhnalalplggaaRlCut
import Derived.Test.YtchhnalalplggaaRlEncode
import Derived.Test.YtchhnalalplggaaRlWakes
import Derived.Test.YtchhnalalplggaaRlDs
import Derived.Test.YtchhnalalplggaaRlNested
namespace Go.Proofs.Ytchhnalalplggaa
open Go.RowKit

set_option maxRecDepth 100000 in
set_option maxHeartbeats 6400000 in
theorem rencode_c {S : Nat → Prop} (x : Itm) (vx : Value) (w : World) (hx : IAt S w vx x) (hs : fsz x ≤ 16777216) (hz : isz x ≤ 1099511627776) : Calls Try.prog 14 #[vx] w (EncR x w) := by
  obtain ⟨l0, a1, m1, c1, b1, k1, cp1, rfl⟩ := hx.parts
  have hbx : Below w.heap.size w (w.alloc (.cells #[.bool l0, .slice a1 m1 c1, .slice b1 k1 cp1] 25)) := (Below.refl w.heap.size w).alloc (Nat.le_refl _) _
  have hp1 := heap_alloc_new w (.cells #[.bool l0, .slice a1 m1 c1, .slice b1 k1 cp1] 25)
  have hx2 := hx.keep hbx
  obtain ⟨W, hW⟩ : ∃ W, W = w.alloc (.cells #[.bool l0, .slice a1 m1 c1, .slice b1 k1 cp1] 25) := ⟨_, rfl⟩
  rw [← hW] at hbx hp1 hx2
  have ch : Calls Try.prog 36 #[.agg #[.bool l0, .slice a1 m1 c1, .slice b1 k1 cp1], .int .i64 1025] W (RetV (.int .i64 (depI x 1025 : Nat)) W) := depth_c x S W _ 1025 (by omega) hz hx2
  have hdq := ok_dep x 1024
  obtain ⟨q, hq⟩ : ∃ q, q = depI x 1025 := ⟨_, rfl⟩
  rw [← hq] at ch hdq
  have HQ := Lib.hid hdq
  have CH := Lib.hid ch
  have HWE := Lib.hid hW
  have HBX := Lib.hid hbx
  have HP1 := Lib.hid hp1
  have HX2 := Lib.hid hx2
  have HS := Lib.hid hs
  obtain ⟨x0, x1, x2, -, -, -⟩ := three_cells hp1
  clear hx hs hz hbx hp1 hx2 hW ch hdq hq
  go_enter Try.func14, Try.ntmps14
  go_upto_region 1 with (fail)
  rw [← HWE.out]
  clear HWE
  go_wp2_with fail
  (with_reducible refine CH.out.mono ?_)
  rintro e w1 ⟨rfl, hb1⟩
  have HB1 := Lib.hid (HBX.out.trans (hb1.mono HBX.out.size))
  by_cases hgt : q ≤ 1024
  · have hg1 : ¬ (1024 : Int) < (q : Int) := by omega
    have HK : Hid (okN x 1024 = true) := HQ.out.2 hgt
    have C2 := Lib.hid (form_c x S w1 _ HS.out (HX2.out.keep hb1))
    obtain ⟨y0, y1, y2, -, -, -⟩ := three_cells ((hb1.block _ (heap_lt2 HP1.out)).trans HP1.out)
    clear hgt hb1 CH x0 x1 x2
    go_wp2_with fail
    (with_reducible refine C2.out.mono ?_)
    rintro e w2 ⟨v2, rfl, hacc, hb2⟩
    have HA := Lib.hid (Acc.mono' hacc HB1.out.size)
    have HB2 := Lib.hid (HB1.out.trans (hb2.mono HB1.out.size))
    clear hacc hb2 C2 y0 y1 y2
    go_wp2_with fail
    go_ret2
    exact ⟨HB2.out, .inl ⟨HK.out, _, rfl, HA.out⟩⟩
  · have hg1 : (1024 : Int) < (q : Int) := by omega
    have HK : Hid (okN x 1024 = false) := by
      show _ = _
      have h := HQ.out
      cases hk : okN x 1024 with
      | false => rfl
      | true => exact absurd (h.1 hk) hgt
    clear hgt hb1 CH x0 x1 x2
    go_wp2_with fail
    go_ret2
    exact ⟨HB1.out, .inr ⟨HK.out, rfl⟩⟩

theorem nest_sz (x : Itm) : ∀ n, n ≤ 1100 → fsz x ≤ 1227000 → fsz (nestI x n) ≤ 1227000 + 7 * n
  | 0, _, h => by show fsz x ≤ _; omega
  | n + 1, hn, h => by
    have := nest_sz x n (by omega) h
    show fsz (.list [nestI x n]) ≤ _
    rw [fsz, if_pos rfl]
    simp only [psz, Nat.add_zero]
    have h2 := hsz_le (n := fsz (nestI x n)) (by omega)
    omega
theorem nest_isz (x : Itm) : ∀ n, isz (nestI x n) = isz x + n
  | 0 => rfl
  | n + 1 => by
    have := nest_isz x n
    show isz (.list [nestI x n]) = _
    rw [isz]
    simp only [iszL, Nat.add_zero]
    omega

set_option maxRecDepth 100000 in
set_option maxHeartbeats 6400000 in
theorem rlpEncode_c {S : Nat → Prop} {x : Itm} {vx : Value} (w : World) (hx : IAt S w vx x) (i : Int) (hi0 : -9223372036854775808 ≤ i) (hi1 : i < 9223372036854775808) :
    Calls Try.prog 3 #[vx, .int .i64 i] w (RetV (.bool true) w) := by
  obtain ⟨l0, a0, n0, c0, b0, k0, d0, rfl⟩ := hx.parts
  have hbx : Below w.heap.size w (w.alloc (.cells #[.bool l0, .slice a0 n0 c0, .slice b0 k0 d0] 25)) := (Below.refl _ _).alloc (Nat.le_refl _) _
  have hc3 := heap_alloc_new w (.cells #[.bool l0, .slice a0 n0 c0, .slice b0 k0 d0] 25)
  have K1 := Lib.hid (cut_c _ (hx.keep hbx))
  have hys := cutI_sz x
  obtain ⟨y, hy⟩ : ∃ y, y = cutI x := ⟨_, rfl⟩
  rw [← hy] at K1 hys
  have HYS := Lib.hid hys
  have HBX := Lib.hid hbx
  obtain ⟨x0, x1, x2, -, -, -⟩ := three_cells hc3
  obtain ⟨r, hr⟩ : ∃ r, r = Int.tmod i 1100 := ⟨_, rfl⟩
  have hrb : -1100 < r ∧ r < 1100 := by
    rw [hr]
    rcases Int.le_total 0 i with h | h
    · rw [Int.tmod_eq_emod_of_nonneg h]; omega
    · have := Int.neg_tmod (a := i) (b := 1100)
      rw [Int.tmod_eq_emod_of_nonneg (by omega)] at this
      omega
  have wr1 : IntKind.i64.wrap r = r := IntWalk.i64_in _ (by omega)
  have et : Int.tmod i 1100 = r := hr.symm
  obtain ⟨n, hn⟩ : ∃ n : Nat, n = r.natAbs := ⟨_, rfl⟩
  have hnb : n ≤ 1099 := by omega
  have HNB := Lib.hid hnb
  have K2 : Hid (∀ (S : Nat → Prop) (v : Value) (w : World), IAt S w v y → Calls Try.prog 11 #[v, .int .i64 (n : Nat)] w (RetR (fun w' v => IAt (fun _ => True) w' v (nestI y n)) w)) := fun S v w h => nested_c w n (by omega) h
  obtain ⟨z, hz⟩ : ∃ z, z = nestI y n := ⟨_, rfl⟩
  have hzs : fsz z ≤ 16777216 ∧ isz z ≤ 1099511627776 := by
    rw [hz]
    have h1 := nest_sz y n (by omega) (by omega)
    have h2 := nest_isz y n
    omega
  rw [← hz] at K2
  have HZS := Lib.hid hzs
  clear hx hbx hc3 hys hy hr hnb hz hzs hi0 hi1
  by_cases hneg : r < 0
  case' pos =>
    have wr2 : IntKind.i64.wrap (-r) = ((n : Nat) : Int) := by rw [IntWalk.i64_in _ (by omega)]; omega
    clear hn hrb
  case' neg =>
    obtain rfl : r = ((n : Nat) : Int) := by omega
    clear hn hrb
  all_goals
    go_enter Try.func3, Try.ntmps3
    go_wp2_with fail
    (with_reducible refine K1.out.mono ?_)
    rintro e w1 ⟨v1, rfl, hi1, hb1⟩
    have C2 := Lib.hid (K2.out _ _ _ hi1)
    have HB1 := Lib.hid (HBX.out.trans (hb1.mono HBX.out.size))
    clear hi1 hb1 K1 K2 x0 x1 x2 HBX
    go_wp2_with fail
    (with_reducible refine C2.out.mono ?_)
    rintro e w2 ⟨v2, rfl, hi2, hb2⟩
    obtain ⟨l1, a1, n1, c1, b1, k1, d1, rfl⟩ := hi2.parts
    have hA : Below w2.heap.size w2 (w2.alloc (.cells #[.bool l1, .slice a1 n1 c1, .slice b1 k1 d1] 25)) := (Below.refl _ _).alloc (Nat.le_refl _) _
    have hc7 := heap_alloc_new w2 (.cells #[.bool l1, .slice a1 n1 c1, .slice b1 k1 d1] 25)
    have C3 := Lib.hid (encode_c z _ _ (hi2.keep hA) HZS.out.1)
    have HI := Lib.hid (hi2.keep hA)
    have HC7 := Lib.hid hc7
    have hbA := hb2.trans (hA.mono hb2.size)
    have HB2 := Lib.hid (HB1.out.trans (hbA.mono HB1.out.size))
    obtain ⟨y0, y1, y2, -, -, -⟩ := three_cells hc7
    clear hi2 hb2 hA hbA hc7 C2 HB1
    go_wp2_with fail
    (with_reducible refine C3.out.mono ?_)
    rintro e w3 ⟨hb3, hcase⟩
    have C4 := Lib.hid (rencode_c z _ _ (HI.out.keep hb3) HZS.out.1 HZS.out.2)
    have HB3 := Lib.hid (HB2.out.trans (hb3.mono HB2.out.size))
    obtain ⟨z0, z1, z2, -, -, -⟩ := three_cells ((hb3.block _ (heap_lt2 HC7.out)).trans HC7.out)
    have HDZ := Lib.hid ((HI.out.keep hb3).form_ds (by have := HZS.out; omega))
    clear hb3 C3 HB2 HI HC7 y0 y1 y2
    rcases hcase with ⟨hk, v8, rfl, hacc8⟩ | ⟨hk, rfl⟩
    · obtain ⟨A8, c8, rfl⟩ := hacc8.form
      have HA8 := Lib.hid hacc8.rd
      have HK := Lib.hid hk
      obtain ⟨L, hL⟩ : ∃ L, L = (form z).length := ⟨_, rfl⟩
      rw [← hL]
      have HL := Lib.hid hL
      clear hacc8 hk hL
      go_wp2_with fail
      (with_reducible refine C4.out.mono ?_)
      rintro e w4 ⟨hb4, hcase⟩
      rcases hcase with ⟨-, v9, rfl, hacc9⟩ | ⟨hk, rfl⟩
      · obtain ⟨A9, c9, rfl⟩ := hacc9.form
        have s1 := run_sOf (show Byt w4 (.slice A8 (form z).length c8) (form z) from ⟨_, _, rfl, HA8.out.below hb4, HDZ.out⟩)
        have s2 := run_sOf (show Byt w4 (.slice A9 (form z).length c9) (form z) from ⟨_, _, rfl, hacc9.rd, HDZ.out⟩)
        have HB4 := Lib.hid (HB3.out.trans (hb4.mono HB3.out.size))
        rw [← HL.out] at s1 s2 ⊢
        clear hacc9 hb4 HB3 HA8 z0 z1 z2 C4
        go_wp2_with fail
        (with_reducible refine (rwakes_c _).mono ?_)
        rintro e w5 ⟨rfl, hb5⟩
        have HB5 := Lib.hid (HB4.out.trans (hb5.mono HB4.out.size))
        clear hb5 HB4 s1 s2
        go_wp2_with fail
        go_ret
        exact ⟨rfl, HB5.out⟩
      · exact absurd hk (by rw [HK.out]; decide)
    · have HK := Lib.hid hk
      clear hk
      go_wp2_with fail
      (with_reducible refine C4.out.mono ?_)
      rintro e w4 ⟨hb4, hcase⟩
      rcases hcase with ⟨hk, v9, rfl, hacc9⟩ | ⟨hk, rfl⟩
      · exact absurd hk (by rw [HK.out]; decide)
      · have s1 := run_sOf (show Byt w4 (.slice none 0 0) [] from ⟨none, 0, rfl, Rd.nil _, Ds.nil⟩)
        have HB4 := Lib.hid (HB3.out.trans (hb4.mono HB3.out.size))
        clear hk hb4 HB3 z0 z1 z2 C4
        go_wp2_with fail
        (with_reducible refine (rwakes_c _).mono ?_)
        rintro e w5 ⟨rfl, hb5⟩
        have HB5 := Lib.hid (HB4.out.trans (hb5.mono HB4.out.size))
        clear hb5 HB4 s1
        go_wp2_with fail
        go_ret
        exact ⟨rfl, HB5.out⟩
end Go.Proofs.Ytchhnalalplggaa
