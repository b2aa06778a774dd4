/- The contract of package nat's ModExp. -/
import Derived.Test.YtakojlgoelbjmaaNModulo
import Derived.Test.YtakojlgoelbjmaaNTrim
import Derived.Test.YtakojlgoelbjmaaNBit
namespace Go.Proofs.Ytakojlgoelbjmaa
open Go.RowKit

theorem MM.big {w : World} {Bp Bq Bm Gp Gq Gm n P D : Nat} (h : MM w Bp Bq Bm Gp Gq Gm n P D) : 9223372036854775808 ≤ D := by
  obtain ⟨es, _, _, h1, h2, h3⟩ := h.m
  have hn := h.hn
  obtain ⟨v, rfl⟩ : ∃ v, n = v + 1 := ⟨n - 1, by omega⟩
  rw [Nat.add_sub_cancel] at h3
  rw [h2, dv_take_succ es v (by omega)]
  have := Nat.mul_le_mul (Nat.one_le_pow v 18446744073709551616 (by omega)) h3
  omega
theorem pow_sq {b q m p D s : Nat} (hD : D = m * s) (hp : p % m = b ^ q % m) : p * p % D % m = b ^ (2 * q) % m := by
  rw [hD, Nat.mod_mul_right_mod, Nat.mul_mod, hp, ← Nat.mul_mod, ← Nat.pow_add]
  congr 2; omega
theorem pow_mul {b q m p D s : Nat} (hD : D = m * s) (hp : p % m = b ^ q % m) : p * (b % m) % D % m = b ^ (q + 1) % m := by
  rw [hD, Nat.mod_mul_right_mod, Nat.mul_mod, hp, Nat.mod_mod, ← Nat.mul_mod, Nat.pow_succ]

set_option maxRecDepth 100000 in
set_option maxHeartbeats 1600000 in
theorem modexp_no {A B C : Option Addr} {c d f : Nat} {xs es ys : List Nat} (w : World) (h : Rd .u8 w C f ys) (hy : Ds 256 ys) (hl : ys.length ≤ 2097152) (h0 : dv 256 ys.reverse = 0) :
    Calls Try.prog 15 #[.slice A xs.length c, .slice B es.length d, .slice C ys.length f] w fun e w' => e = .returned (.slice none 0 0) ∧ Below w.heap.size w w' := by
  have C1 := Lib.hid (divmod_no (A := A) (c := c) (xs := xs) w h hy hl h0)
  generalize xs.length = L at *
  generalize ys.length = M at *
  generalize es.length = E at *
  clear h hy h0
  go_enter Try.func15, Try.ntmps15
  go_wp2_with fail
  (with_reducible refine C1.out.mono ?_)
  rintro e w1 ⟨rfl, hb1⟩
  have HB := Lib.hid hb1
  clear C1 hb1
  go_wp2_with fail
  go_ret
  exact ⟨rfl, HB.out⟩

set_option maxRecDepth 100000 in
set_option maxHeartbeats 6400000 in
theorem modexp_o {A B C : Option Addr} {c d f : Nat} {xs es ys : List Nat} (w : World) (hb : Rd .u8 w A c xs) (he : Rd .u8 w B d es) (hm : Rd .u8 w C f ys) (hx : Ds 256 xs) (hee : Ds 256 es) (hy : Ds 256 ys) (hl : xs.length ≤ 2097152) (hle : es.length ≤ 2097152) (hlm : ys.length ≤ 2097152) (hm0 : 0 < dv 256 ys.reverse) :
    Calls Try.prog 15 #[.slice A xs.length c, .slice B es.length d, .slice C ys.length f] w (RetR (fun w' v => NBO w.heap.size w' v (dv 256 xs.reverse ^ dv 256 es.reverse % dv 256 ys.reverse)) w) := by
  have C1 := Lib.hid (divmod_n w hb hm hx hy hl hlm hm0)
  obtain ⟨a, ha⟩ : ∃ a, a = dv 256 xs.reverse := ⟨_, rfl⟩
  obtain ⟨E, hE⟩ : ∃ E, E = dv 256 es.reverse := ⟨_, rfl⟩
  obtain ⟨m, hmv⟩ : ∃ m, m = dv 256 ys.reverse := ⟨_, rfl⟩
  obtain ⟨L, hL⟩ : ∃ L, L = xs.length := ⟨_, rfl⟩
  obtain ⟨K, hK⟩ : ∃ K, K = es.length := ⟨_, rfl⟩
  obtain ⟨M, hM⟩ : ∃ M, M = ys.length := ⟨_, rfl⟩
  rw [← ha, ← hmv, ← hL, ← hM] at C1
  rw [← hmv] at hm0
  rw [← hL] at hl
  rw [← hK] at hle
  rw [← hM] at hlm
  rw [← ha, ← hE, ← hmv, ← hL, ← hK, ← hM]
  have RE := Lib.hid he
  have RM := Lib.hid hm
  have DE := Lib.hid hee
  have DY := Lib.hid hy
  have HE := Lib.hid hE
  have HMv := Lib.hid hmv
  have HK := Lib.hid hK
  have HM := Lib.hid hM
  have HM0 := Lib.hid hm0
  clear hb he hm hx hee hy ha hE hmv hL hK hM
  go_enter Try.func15, Try.ntmps15
  go_wp2_with fail
  (with_reducible refine C1.out.mono ?_)
  rintro e w1 ⟨u, v, rfl, hu, hv, hb1⟩
  have C2 := Lib.hid (toLimbs_c w1 (RM.out.below hb1) DY.out (by rw [← HM.out]; omega))
  rw [← HM.out, ← HMv.out] at C2
  have HB1 := Lib.hid hb1
  obtain ⟨bs, hv1, hv2⟩ := hv
  obtain ⟨Av, cv, rfl, hv3, hv4⟩ := hv1
  have HV3 := Lib.hid hv3
  have HV4 := Lib.hid hv4
  have HV2 := Lib.hid hv2
  have HBL : Hid (bs.length ≤ M) := by
    have h1 := hv2.len_le (m := M) (by omega) (by
      have h2 := dv_lt ys.reverse DY.out.reverse
      rw [List.length_reverse, ← HM.out, ← HMv.out] at h2
      exact Nat.lt_trans (Nat.mod_lt _ HM0.out) h2)
    rw [List.length_reverse] at h1
    exact h1
  clear C1 hu hv2 hv3 hv4 hb1
  go_wp2_with fail
  (with_reducible refine C2.out.mono ?_)
  rintro e w2 ⟨G2, ms, rfl, hr2, hg2, hc2, hk2, hb2⟩
  have hpos : 0 < ms.length := by
    rcases Nat.eq_zero_or_pos ms.length with h0 | h0
    · have := (hc2.pos (by omega)).1 (List.eq_nil_of_length_eq_zero h0); have := HM0.out; omega
    · exact h0
  have C3 := Lib.hid (nmodulo_c w2 hr2.rd0 hc2 (by omega) hpos)
  have HV3 := Lib.hid (HV3.out.below hb2)
  have HB2 := Lib.hid (HB1.out.trans (hb2.mono HB1.out.size))
  obtain ⟨n, hn⟩ : ∃ n, n = ms.length := ⟨_, rfl⟩
  rw [← hn] at C3 hk2 hpos
  rw [← hn]
  have HN := Lib.hid hn
  have HC2 := Lib.hid hc2
  clear C2 hr2 hc2 hb2 hn HB1 hg2
  go_wp2_with fail
  (with_reducible refine C3.out.mono ?_)
  rintro e w3 ⟨Bp, Bq, Bm, Gp, Gq, Gm, P, s, rfl, hmm3, hbq3, hgm3, hb3⟩
  have HMM3 := Lib.hid hmm3
  have HV3 := Lib.hid (HV3.out.below hb3)
  have hgm : w.heap.size ≤ Gm := by have := HB2.out.size; omega
  have HB3 := Lib.hid (HB2.out.trans (hb3.mono HB2.out.size))
  have hmk := mk64 (n : Int) n rfl (by omega) w3
  clear C3 hmm3 hb3 HB2
  go_upto_region 7 with (fail)
  have hmm4 := HMM3.out.below ((Below.refl w3.heap.size w3).alloc (Nat.le_refl _) (.cells (madeCells #[Value.int .u64 0] n) 68)) hbq3
  have hF := Row.made (k := .u64) w3 68 n
  have hV4 := HV3.out.alloc (.cells (madeCells #[Value.int .u64 0] n) 68)
  have hB4 := HB3.out.alloc HB3.out.size (.cells (madeCells #[Value.int .u64 0] n) 68)
  have hs4 : (w3.alloc (.cells (madeCells #[Value.int .u64 0] n) 68)).heap.size = w3.heap.size + 1 := by simp
  generalize w3.alloc (.cells (madeCells #[Value.int .u64 0] n) 68) = w4 at *
  obtain ⟨Gf, hGf⟩ : ∃ Gf, Gf = w3.heap.size := ⟨_, rfl⟩
  rw [← hGf] at hF hs4 hbq3
  rw [← hGf]
  have hgf0 : w.heap.size ≤ Gf := by rw [hGf]; exact HB3.out.size
  have C4 := Lib.hid (toLimbs_c w4 hV4 HV4.out (by have := HBL.out; omega))
  have HMM4 := Lib.hid hmm4
  have HF := Lib.hid hF
  have HB4 := Lib.hid hB4
  clear hmm4 hF hV4 hB4 HB3 hmk HMM3 hGf HV3
  rw [HV2.out.2.1] at C4
  go_wp2_with fail
  rename_i KK hKK
  (with_reducible refine C4.out.mono ?_)
  rintro e w5 ⟨G5, l5, rfl, hr5, hg5, hc5, hk5, hb5⟩
  have hmm5 := HMM4.out.below hb5 (by omega)
  have hF5 := HF.out.below hb5 (by omega)
  have hB5 := HB4.out.trans (hb5.mono HB4.out.size)
  have hs5 := hb5.size
  have hl5 : l5.length ≤ n := hc5.len_le (by omega) (Nat.lt_trans (Nat.mod_lt _ HM0.out) (by have := HC2.out.lt; rw [← HN.out] at this; exact this))
  have hn0 : (l5.map fun n : Nat => Value.int .u64 (n : Int)).length = Nat.min l5.length n := by rw [List.length_map]; show _ = min _ _; omega
  have hfit : 0 + (l5.map fun n : Nat => Value.int .u64 (n : Int)).length ≤ ((List.replicate n 0).map fun n : Nat => Value.int .u64 (n : Int)).length := by rw [List.length_map, List.length_map, List.length_replicate]; omega
  have hone : ∀ v ∈ (l5.map fun n : Nat => Value.int .u64 (n : Int)), v.oneCell' = true := by
    intro v hv
    rw [List.mem_map] at hv
    obtain ⟨n, _, rfl⟩ := hv
    rfl
  have hpos5 : 0 < (l5.map fun n : Nat => Value.int .u64 (n : Int)).length → (some ⟨Gf, 0, none⟩ : Option Addr) = some ⟨Gf, 0, none⟩ ∧ ∃ ad, (some ⟨G5, 0, none⟩ : Option Addr) = some ad ∧ ∀ j v, (l5.map fun n : Nat => Value.int .u64 (n : Int))[j]? = some v → w5.cell? (ad.add j) = some v := by
    intro _
    refine ⟨rfl, ⟨G5, 0, none⟩, rfl, fun j v hv => ?_⟩
    rw [List.getElem?_map] at hv
    obtain ⟨u, hu, rfl⟩ := Option.map_eq_some_iff.1 hv
    have hj := (List.getElem?_eq_some_iff.1 hu).1
    have e : (⟨G5, 0, none⟩ : Addr).add j = ⟨G5, j, none⟩ := by unfold Addr.add; split <;> simp_all
    rw [e, hr5.cell j hj, List.getD_eq_getElem?_getD, hu]
    rfl
  have A1 := Lib.hid hn0
  have A2 := Lib.hid hfit
  have A3 := Lib.hid hone
  have A4 := Lib.hid hpos5
  have HF5 := Lib.hid hF5
  have HMM5 := Lib.hid hmm5
  have HB5 := Lib.hid hB5
  have HC5 := Lib.hid hc5
  have HL5 := Lib.hid hl5
  have HS5 := Lib.hid hs5
  clear C4 hr5 hc5 hb5 hmm5 hF5 hB5 hs5 hl5 hn0 hfit hone hpos5
  refine hKK _ _ ?_
  refine wpList_copy_splice rfl (.tmp 34) (.tmp 36) 74 74 rfl 68 Try.underlying74 (by kernel_rfl) (some ⟨Gf, 0, none⟩) (some ⟨G5, 0, none⟩) n n l5.length l5.length rfl rfl Gf 0 ((List.replicate n 0).map fun n : Nat => Value.int .u64 (n : Int)) 68 HF5.out (l5.map fun n : Nat => Value.int .u64 (n : Int)) A1.out A4.out A2.out A3.out Gf w5 (Below.refl _ _) (Nat.le_refl _) ?_
  intro w6 hr6 hb6
  obtain ⟨fs, hfs⟩ : ∃ fs, fs = l5 ++ List.replicate (n - l5.length) 0 := ⟨_, rfl⟩
  have hrf : Row .u64 w6 Gf 68 fs := by
    have h := hr6.out
    have e : splice ((List.replicate n 0).map fun n : Nat => Value.int .u64 (n : Int)) 0 (l5.map fun n : Nat => Value.int .u64 (n : Int)) = fs.map fun n : Nat => Value.int .u64 (n : Int) := by
      unfold splice
      rw [hfs, List.take_zero, List.nil_append, List.map_append, List.length_map, Nat.zero_add, ← List.map_drop, List.drop_replicate]
    rw [e] at h
    exact h
  have hfl : fs.length = n := by rw [hfs, List.length_append, List.length_replicate]; have := HL5.out; omega
  have hfv : dv 18446744073709551616 fs = a % m := by rw [hfs, dv_append, dv_zeros, Nat.mul_zero, Nat.add_zero]; exact HC5.out.2.1
  have hfd : Ds 18446744073709551616 fs := by rw [hfs]; exact HC5.out.1.append (Ds.zeros (by omega) _)
  have hmm6 := HMM5.out.below hb6 hbq3
  have hB6 := HB5.out.trans (hb6.mono hgf0)
  have hs6 := hb6.size
  have hgf6 := hrf.lt
  have HRF := Lib.hid hrf
  have HFL := Lib.hid hfl
  have HFV := Lib.hid hfv
  have HFD := Lib.hid hfd
  have HMM6 := Lib.hid hmm6
  have HB6 := Lib.hid hB6
  have hmk := mk64 (n : Int) n rfl (by omega) w6
  clear hr6 hb6 hfs hrf hfl hfv hfd hmm6 hB6 A1 A2 A3 A4 HF5 HMM5 HB5 HC5 HL5 HF HMM4 HB4
  refine wpList_nil ?_
  generalize goInt _ = gi
  go_upto_region 9 with (fail)
  have hmm7 := HMM6.out.below ((Below.refl w6.heap.size w6).alloc (Nat.le_refl _) (.cells (madeCells #[Value.int .u64 0] n) 68)) (by omega)
  have hP7 := Row.made (k := .u64) w6 68 n
  have hF7 := HRF.out.alloc (.cells (madeCells #[Value.int .u64 0] n) 68)
  have hB7 := HB6.out.alloc HB6.out.size (.cells (madeCells #[Value.int .u64 0] n) 68)
  have hs7 : (w6.alloc (.cells (madeCells #[Value.int .u64 0] n) 68)).heap.size = w6.heap.size + 1 := by simp
  generalize w6.alloc (.cells (madeCells #[Value.int .u64 0] n) 68) = w7 at *
  obtain ⟨Ga, hGa⟩ : ∃ Ga, Ga = w6.heap.size := ⟨_, rfl⟩
  have hga0 : w.heap.size ≤ Ga := by rw [hGa]; exact HB6.out.size
  rw [← hGa] at hP7 hgf6
  rw [← hGa]
  have c0 := hP7.cell 0 (by rw [List.length_replicate]; exact hpos)
  have f0 := hP7.frozen 0
  have z0 : (List.replicate n 0).getD 0 0 = 0 := by rw [List.getD_eq_getElem?_getD, List.getElem?_replicate, if_pos hpos]; rfl
  rw [z0] at c0
  have hn0 : (0 : Int) < (n : Int) := by omega
  obtain ⟨ps0, hps0⟩ : ∃ ps, ps = (List.replicate n 0).set 0 1 := ⟨_, rfl⟩
  have hP8 := hP7.set 0 1
  rw [← hps0] at hP8
  have hpl : ps0.length = n := by rw [hps0, List.length_set, List.length_replicate]
  have hpd : Ds 18446744073709551616 ps0 := by rw [hps0]; exact (Ds.zeros (by omega) _).set 0 1 (by omega)
  have hpv : dv 18446744073709551616 ps0 = 1 := by
    have := dv_set (B := 18446744073709551616) (List.replicate n 0) 0 1 (by rw [List.length_replicate]; exact hpos)
    rw [← hps0, z0, dv_zeros] at this
    simpa using this
  have HMM8 := Lib.hid (hmm7.far (a := ⟨Ga, 0, none⟩) (by show Bq < Ga; omega) (.int .u64 ((1 : Nat) : Int)))
  have HF8 := Lib.hid (hF7.far (p := ⟨Ga, 0, none⟩) (by show Gf ≠ Ga; omega) (.int .u64 ((1 : Nat) : Int)))
  have HB8 := Lib.hid (hB7.setCell (p := ⟨Ga, 0, none⟩) hga0 (.int .u64 ((1 : Nat) : Int)))
  have HP8 := Lib.hid hP8
  have HPL := Lib.hid hpl
  have HPD := Lib.hid hpd
  have HPV := Lib.hid hpv
  clear hmm7 hP7 hF7 hB7 z0 hps0 hP8 hpl hpd hpv HMM6 HB6 HRF hmk hs7 hGa
  go_upto_region 10 with (fail)
  clear c0 f0
  have e1 : (w7.setCell ⟨Ga, 0, none⟩ (.int .u64 1)) = w7.setCell ⟨Ga, 0, none⟩ (.int .u64 ((1 : Nat) : Int)) := rfl
  rw [e1]
  generalize w7.setCell ⟨Ga, 0, none⟩ (.int .u64 ((1 : Nat) : Int)) = w8 at *
  have C5 := Lib.hid (bits_n w8 (RE.out.below HB8.out) DE.out (by rw [← HK.out]; omega))
  rw [← HK.out, ← HE.out] at C5
  clear e1
  go_wp2_with fail
  (with_reducible refine C5.out.mono ?_)
  rintro e w9 ⟨rfl, hw9⟩
  rw [hw9]
  have hbl : blen E ≤ 16777216 := by
    have h1 := dv_lt es.reverse DE.out.reverse
    rw [List.length_reverse, ← HK.out, ← HE.out] at h1
    rcases Nat.eq_zero_or_pos E with h0 | h0
    · rw [h0]; decide
    · have h2 := blen_ge h0
      have h3 : 2 ^ (blen E - 1) < 2 ^ (8 * K) := by
        refine Nat.lt_of_le_of_lt h2 ?_
        rw [show (256 : Nat) = 2 ^ 8 by decide, ← Nat.pow_mul] at h1
        exact h1
      have := (Nat.pow_lt_pow_iff_right (by omega : 1 < 2)).1 h3
      omega
  obtain ⟨T, hT⟩ : ∃ T, T = blen E := ⟨_, rfl⟩
  rw [← hT] at hbl
  rw [← hT]
  have HT : Hid (E / 2 ^ T = 0) := by show _ = _; rw [hT]; exact Nat.div_eq_of_lt (blen_lt E)
  have ew : IntKind.i64.wrap ((T : Int) - 1) = (T : Int) - 1 := IntWalk.i64_in _ (by omega)
  clear hw9 C5 hT
  go_wp2_with fail
  have hord := HMM8.out.ord
  have hD1 := HMM8.out.big
  go_loopw [14] (fun i wr => ∃ (k : Nat) (ps : List Nat), k ≤ T ∧ i = .int .i64 ((k : Int) - 1) ∧ Hid (ps.length = n) ∧ Hid (Ds 18446744073709551616 ps) ∧ Hid (dv 18446744073709551616 ps % m = a ^ (E / 2 ^ k) % m) ∧ Hid (dv 18446744073709551616 ps < m * 2 ^ s) ∧ Hid (Row .u64 wr Ga 68 ps) ∧ Hid (Row .u64 wr Gf 68 fs) ∧ Hid (MM wr Bp Bq Bm Gp Gq Gm n P (m * 2 ^ s)) ∧ Hid (Below w.heap.size w wr))
    (fun i _ => (intOf i + 1).toNat)
  case atStart =>
    refine ⟨T, ps0, Nat.le_refl _, rfl, HPL, HPD, ?_, ?_, HP8, HF8, HMM8, HB8⟩
    · show _ = _; rw [HPV.out, HT.out, Nat.pow_zero]
    · show _ < _; rw [HPV.out]; omega
  case round =>
    clear HP8 HF8 HMM8 HB8 HPL HPD HPV
    obtain ⟨k, ps, hk, rfl, hpl, hpd, hpv, hplt, hrp, hrf, hmm, hbel⟩ := hrel
    by_cases h0 : (0 : Int) ≤ (k : Int) - 1
    · obtain ⟨j, rfl⟩ : ∃ j, k = j + 1 := ⟨k - 1, by omega⟩
      have hp : (((j + 1 : Nat) : Int) - 1) = (j : Int) := by omega
      rw [hp]
      have C1 := Lib.hid (closure_c wr hmm.out hrp.out hrp.out (by omega) (by omega) hpd.out hpd.out hpl.out hpl.out hplt.out)
      have hj0 : (0 : Int) ≤ (j : Int) := by omega
      clear h0 hp
      go_wp2_with fail
      (with_reducible refine C1.out.mono ?_)
      rintro e w10 ⟨zs, rfl, r1, d1, v1, l1, mm1, ch1⟩
      have hrf1 := Lib.hid (ch1.row hrf.out (by rintro (h | h | h) <;> omega))
      have hbel1 := Lib.hid (ch1.below hbel.out (by rintro i (h | h | h) <;> omega))
      have q1 : dv 18446744073709551616 zs % m = a ^ (2 * (E / 2 ^ (j + 1))) % m := by rw [v1]; exact pow_sq rfl hpv.out
      have q2 : dv 18446744073709551616 zs < m * 2 ^ s := by rw [v1]; exact Nat.mod_lt _ (by omega)
      have C2 := Lib.hid (bit_n w10 (RE.out.below hbel1.out) DE.out (by rw [← HK.out]; omega) j (by omega))
      rw [← HK.out, ← HE.out] at C2
      have H1 := Lib.hid r1
      have H2 := Lib.hid d1
      have H3 := Lib.hid l1
      have H4 := Lib.hid mm1
      have Q1 := Lib.hid q1
      have Q2 := Lib.hid q2
      clear C1 hpv hplt hrp hrf hmm hbel r1 d1 v1 l1 mm1 ch1 q1 q2 hpd hpl
      go_wp2_with fail
      (with_reducible refine C2.out.mono ?_)
      rintro e w11 ⟨rfl, hw11⟩
      rw [hw11]
      obtain ⟨t, ht⟩ : ∃ t, t = E / 2 ^ j % 2 := ⟨_, rfl⟩
      rw [← ht]
      have ht2 : t < 2 := by omega
      clear hw11 C2
      rcases (show t = 0 ∨ t = 1 by omega) with h | h
      · subst h
        have hbf : (((0 : Nat) : Int) == 1) = false := rfl
        have hq := exp_bit0 (b := E) (k := j + 1) (by omega) (by rw [Nat.add_sub_cancel]; exact ht.symm)
        rw [Nat.add_sub_cancel] at hq
        have HQ := Lib.hid hq
        clear hq ht
        go_wp2_with fail
        go_roundw
        case rel => exact ⟨j, zs, by omega, by go_num, H3, H2, by show _ = _; rw [Q1.out, HQ.out], Q2, H1, hrf1, H4, hbel1⟩
        case measure => simp [intOf]
      · subst h
        have hbf : (((1 : Nat) : Int) == 1) = true := rfl
        have hq := exp_bit1 (b := E) (k := j + 1) (by omega) (by rw [Nat.add_sub_cancel]; exact ht.symm)
        rw [Nat.add_sub_cancel] at hq
        have HQ := Lib.hid hq
        have C3 := Lib.hid (closure_c w10 H4.out H1.out hrf1.out (by omega) (by omega) H2.out HFD.out H3.out HFL.out Q2.out)
        clear hq ht
        go_wp2_with fail
        (with_reducible refine C3.out.mono ?_)
        rintro e w12 ⟨us, rfl, r1, d1, v1, l1, mm1, ch1⟩
        have hrf2 := Lib.hid (ch1.row hrf1.out (by rintro (h | h | h) <;> omega))
        have hbel2 := Lib.hid (ch1.below hbel1.out (by rintro i (h | h | h) <;> omega))
        have q1 : dv 18446744073709551616 us % m = a ^ (E / 2 ^ j) % m := by rw [v1, HFV.out, ← HQ.out]; exact pow_mul rfl Q1.out
        have q2 : dv 18446744073709551616 us < m * 2 ^ s := by rw [v1]; exact Nat.mod_lt _ (by omega)
        have J1 := Lib.hid r1
        have J2 := Lib.hid d1
        have J3 := Lib.hid l1
        have J4 := Lib.hid mm1
        have J5 := Lib.hid q1
        have J6 := Lib.hid q2
        clear C3 r1 d1 v1 l1 mm1 ch1 q1 q2 HQ
        go_wp2_with fail
        go_roundw
        case rel => exact ⟨j, us, by omega, by go_num, J3, J2, J5, J6, J1, hrf2, J4, hbel2⟩
        case measure => simp [intOf]
    · obtain rfl : k = 0 := by omega
      have hv := hpv.out
      rw [Nat.pow_zero, Nat.div_one] at hv
      have hv' : ((0 : Nat) : Int) - 1 = -1 := by omega
      have C4 := Lib.hid (toBytes_c wr hrp.out.rd0 hpd.out (by rw [hpl.out]; omega))
      rw [hpl.out] at C4
      have HV := Lib.hid hv
      have RM2 := Lib.hid (RM.out.below hbel.out)
      clear hv hpv
      go_wp2_with fail
      (with_reducible refine C4.out.mono ?_)
      rintro e w10 ⟨u2, rfl, ⟨bs2, ⟨A2, c2, rfl, hr2, hd2⟩, hcan2⟩, hb10⟩
      have hbl2 : bs2.length ≤ 8 * n := by
        have h1 := hcan2.len_le (m := 8 * n) (by omega) (by
          have h2 := dv_lt ps hpd.out
          rw [hpl.out] at h2
          rw [Nat.pow_mul]
          exact h2)
        rw [List.length_reverse] at h1
        exact h1
      have C5 := Lib.hid (divmod_o w10 hr2 (RM2.out.below hb10) hd2 DY.out (by omega) (by rw [← HM.out]; exact hlm) (by rw [← HMv.out]; exact HM0.out))
      rw [hcan2.2.1, ← HM.out, ← HMv.out] at C5
      have HB10 := Lib.hid (hbel.out.trans (hb10.mono hbel.out.size))
      clear C4 hr2 hd2 hcan2 hb10
      go_wp2_with fail
      (with_reducible refine C5.out.mono ?_)
      rintro e w11 ⟨u3, v3, rfl, _, hv3, _, hb11⟩
      have HV3 := Lib.hid (hv3.mono HB10.out.size)
      have HB11 := Lib.hid (HB10.out.trans (hb11.mono HB10.out.size))
      clear C5 hv3 hb11
      go_wp2_with fail
      go_ret
      refine ⟨v3, rfl, ?_, HB11.out⟩
      have h := HV3.out
      rw [HV.out] at h
      exact h
theorem modexp_n {A B C : Option Addr} {c d f : Nat} {xs es ys : List Nat} (w : World) (hb : Rd .u8 w A c xs) (he : Rd .u8 w B d es) (hm : Rd .u8 w C f ys) (hx : Ds 256 xs) (hee : Ds 256 es) (hy : Ds 256 ys) (hl : xs.length ≤ 2097152) (hle : es.length ≤ 2097152) (hlm : ys.length ≤ 2097152) (hm0 : 0 < dv 256 ys.reverse) :
    Calls Try.prog 15 #[.slice A xs.length c, .slice B es.length d, .slice C ys.length f] w (RetR (fun w' v => NB w' v (dv 256 xs.reverse ^ dv 256 es.reverse % dv 256 ys.reverse)) w) := (modexp_o w hb he hm hx hee hy hl hle hlm hm0).mono fun _ _ ⟨v, e, h, hb⟩ => ⟨v, e, h.byt, hb⟩
end Go.Proofs.Ytakojlgoelbjmaa
