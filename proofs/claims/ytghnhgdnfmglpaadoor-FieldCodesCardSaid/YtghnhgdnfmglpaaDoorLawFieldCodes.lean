/- The law FieldCodes. -/
import Derived.Test.YtghnhgdnfmglpaaDoorFlOps
import Derived.Test.YtghnhgdnfmglpaaDoorFrNum
import Derived.Test.YtghnhgdnfmglpaaDoorTwin
import Derived.Test.YtghnhgdnfmglpaaDoorRCmp
import Derived.Test.YtghnhgdnfmglpaaDoorOpsS
namespace Go.Proofs.YtghnhgdnfmglpaaDoor
open Go.RowKit

/-- Kind and first number of an Ask. -/
theorem askCells {w X : World} {K : Int} {a0 a1 a2 a3 a4 a5 : Nat} {b0 b1 b2 b3 b4 b5 c0 c1 c2 c3 c4 c5 e : Value} (hX : X = w.alloc (.cells #[.int .i64 K, .int .u64 (a0 : Nat), .int .u64 (a1 : Nat), .int .u64 (a2 : Nat), .int .u64 (a3 : Nat), .int .u64 (a4 : Nat), .int .u64 (a5 : Nat), b0, b1, b2, b3, b4, b5, c0, c1, c2, c3, c4, c5, e] 27)) :
    X.cell? ⟨w.heap.size, 0, none⟩ = some (.int .i64 K) ∧ L6 X w.heap.size 1 a0 a1 a2 a3 a4 a5 ∧ Below w.heap.size w X ∧ X.heap.size = w.heap.size + 1 := by
  subst hX
  have h := heap_alloc_new w (.cells #[.int .i64 K, .int .u64 (a0 : Nat), .int .u64 (a1 : Nat), .int .u64 (a2 : Nat), .int .u64 (a3 : Nat), .int .u64 (a4 : Nat), .int .u64 (a5 : Nat), b0, b1, b2, b3, b4, b5, c0, c1, c2, c3, c4, c5, e] 27)
  have c := fun j => cell_of_row _ w.heap.size j _ _ _ h
  exact ⟨c 0, ⟨c 1, c 2, c 3, c 4, c 5, c 6⟩, (Below.refl _ _).alloc (Nat.le_refl _) _, by simp⟩

theorem acc_empty0 (w : World) : (w.alloc (.cells #[] 5)).ownsRow w.heap.size 5 1 (.slice (some ⟨w.heap.size, 0, none⟩) 0 0) 0 [] :=
  ⟨rfl, .inr ⟨w.heap.size, 0, #[], rfl, Nat.le_refl _, heap_alloc_new w _, Nat.le_refl _, by unfold maxLen; omega, rfl, rfl⟩⟩

set_option maxRecDepth 100000 in
set_option maxHeartbeats 6400000 in
theorem fieldCodes_no {K : Int} {a0 a1 a2 a3 a4 a5 : Nat} {b0 b1 b2 b3 b4 b5 c0 c1 c2 c3 c4 c5 ve vr : Value} (w : World) (hK : K < 1 ∨ 6 < K) (hG : PrimesAt w) :
    Calls Tryd.prog 5 #[.agg #[.int .i64 K, .int .u64 (a0 : Nat), .int .u64 (a1 : Nat), .int .u64 (a2 : Nat), .int .u64 (a3 : Nat), .int .u64 (a4 : Nat), .int .u64 (a5 : Nat), b0, b1, b2, b3, b4, b5, c0, c1, c2, c3, c4, c5, ve], vr] w (RetV (.bool true) w) := by
  obtain ⟨X, hX⟩ : ∃ X, X = w.alloc (.cells #[.int .i64 K, .int .u64 (a0 : Nat), .int .u64 (a1 : Nat), .int .u64 (a2 : Nat), .int .u64 (a3 : Nat), .int .u64 (a4 : Nat), .int .u64 (a5 : Nat), b0, b1, b2, b3, b4, b5, c0, c1, c2, c3, c4, c5, ve] 27) := ⟨_, rfl⟩
  obtain ⟨q0, -, hb, hs⟩ := askCells hX
  have CB := Lib.hid (fboth_no (K := K) X hK (hG.below hb hG.lt))
  have HX := Lib.hid hX
  have HB := Lib.hid hb
  clear hX hb hs hG hK
  go_enter Tryd.func5, Tryd.ntmps5
  go_upto_region 1 with (fail)
  rw [← HX.out]
  clear HX
  go_wp2_with fail
  (with_reducible refine (CB.out).mono ?_)
  rintro e w1 ⟨r, rfl, rfl, hb1⟩
  have HB1 := Lib.hid (HB.out.trans (hb1.mono HB.out.size))
  clear hb1 CB
  go_wp2_with fail
  go_ret
  exact ⟨rfl, HB1.out.alloc HB1.out.size _⟩

set_option maxRecDepth 100000 in
set_option maxHeartbeats 6400000 in
theorem fieldCodes_k {k a0 a1 a2 a3 a4 a5 c : Nat} {A : Option Addr} {raw : List Nat} {b0 b1 b2 b3 b4 b5 c0 c1 c2 c3 c4 c5 ve : Value} (w : World) (h1 : 1 ≤ k) (h6 : k ≤ 6) (hG : PrimesAt w) (la : Lim6 a0 a1 a2 a3 a4 a5) (hrd : Rd .u8 w A c raw) (hds : Ds 256 raw) :
    Calls Tryd.prog 5 #[.agg #[.int .i64 (k : Nat), .int .u64 (a0 : Nat), .int .u64 (a1 : Nat), .int .u64 (a2 : Nat), .int .u64 (a3 : Nat), .int .u64 (a4 : Nat), .int .u64 (a5 : Nat), b0, b1, b2, b3, b4, b5, c0, c1, c2, c3, c4, c5, ve], .slice A raw.length c] w (RetV (.bool true) w) := by
  obtain ⟨X, hX⟩ : ∃ X, X = w.alloc (.cells #[.int .i64 (k : Nat), .int .u64 (a0 : Nat), .int .u64 (a1 : Nat), .int .u64 (a2 : Nat), .int .u64 (a3 : Nat), .int .u64 (a4 : Nat), .int .u64 (a5 : Nat), b0, b1, b2, b3, b4, b5, c0, c1, c2, c3, c4, c5, ve] 27) := ⟨_, rfl⟩
  obtain ⟨q0, hA, hb, hs⟩ := askCells hX
  have CB := Lib.hid (fboth_c (k := k) X h1 h6 (hG.below hb hG.lt))
  obtain ⟨bs, ebs⟩ : ∃ bs, bs = raw.take 100 := ⟨_, rfl⟩
  have hbl : bs.length ≤ 100 := by rw [ebs, List.length_take]; omega
  have hbd : Ds 256 bs := by rw [ebs]; exact hds.take 100
  have CT : Hid (∀ W, Rd .u8 W A c raw → Calls Tryd.prog 19 #[.slice A raw.length c, .int .i64 100] W (RetR (fun w' v => Byt w' v bs) W)) := fun W h => by rw [ebs]; exact twin_c W h hds 100 (by omega) (by omega)
  have CT2 : Hid (∀ W v, Byt W v bs → Calls Tryd.prog 19 #[v, .int .i64 100] W (RetR (fun w' v => Byt w' v bs) W)) := fun W v ⟨A', c', e, hr, hd⟩ => by
    have k := twin_c W hr hd 100 (by omega) (by omega)
    rw [List.take_of_length_le hbl] at k
    rw [e]
    exact k
  obtain ⟨L, hL⟩ : ∃ L, L = raw.length := ⟨_, rfl⟩
  rw [← hL] at CT ⊢
  have HR := Lib.hid (hrd.below hb)
  have HK := Lib.hid (fnum h1 h6)
  have HX := Lib.hid hX
  have HB := Lib.hid hb
  have HS := Lib.hid hs
  have HA := Lib.hid hA
  have HLA := Lib.hid la
  have HBS := Lib.hid (And.intro hbl hbd)
  clear hX hb hs hA hG h1 h6 la hrd hds hbl hbd ebs hL
  go_enter Tryd.func5, Tryd.ntmps5
  go_upto_region 1 with (fail)
  rw [← HX.out]
  clear HX
  go_wp2_with fail
  (with_reducible refine (CB.out).mono ?_)
  rintro e w1 ⟨F, A1, n1, c1, rfl, hN, hF, hFl, hb1⟩
  obtain ⟨S, hS⟩ : ∃ S : Nat, S = 8 * plim k := ⟨_, rfl⟩
  rw [← hS]
  obtain ⟨X1, hX1⟩ : ∃ X, X = w1.alloc (.cells #[.slice A1 n1 c1, .int .i64 (S : Nat)] 32) := ⟨_, rfl⟩
  obtain ⟨⟨r0, r1, -, -⟩, -, hbx, hsx⟩ := cellF hX1
  have HX1 := Lib.hid hX1
  have HN := Lib.hid (hN.below hbx)
  have HF := Lib.hid (hF.below hbx hF.lt)
  have HSS := Lib.hid hS
  have HR0 := Lib.hid (And.intro r0 r1)
  have hxx : Below X.heap.size X X1 := hb1.trans (hbx.mono hb1.size)
  have HXX := Lib.hid hxx
  have HBX := Lib.hid (HB.out.trans (hxx.mono HB.out.size))
  have HS1 : Hid (X1.heap.size = w1.heap.size + 1) := hsx
  have HW1 : Hid (w.heap.size + 1 ≤ w1.heap.size) := by have := hb1.size; have := HS.out; show _ ≤ _; omega
  have CT1 := Lib.hid (CT.out X1 (HR.out.below hxx))
  clear hN hF hFl hb1 hX1 hbx hsx hxx hS r0 r1 CB CT
  go_upto_region 4 with (fail)
  rw [← HX1.out]
  clear HX1
  go_wp2_with fail
  (with_reducible refine (CT1.out).mono ?_)
  rintro e w2 ⟨v2, rfl, hv2, hb2⟩
  have CT3 := Lib.hid (CT2.out w2 v2 hv2)
  have HV2 := Lib.hid hv2
  have HB2 := Lib.hid hb2
  clear hv2 hb2 CT1 CT2
  go_wp2_with fail
  (with_reducible refine (CT3.out).mono ?_)
  rintro e w3 ⟨v3, rfl, hv3, hb3⟩
  obtain ⟨A3, c3, rfl, hr3, hd3⟩ := hv3
  have hb23 : Below X1.heap.size X1 w3 := HB2.out.trans (hb3.mono HB2.out.size)
  have CD := Lib.hid (fdecode_c w3 HK.out (HF.out.below hb23 HF.out.lt) hr3 hd3)
  have HV3 := Lib.hid (HV2.out.below hb3)
  have HB3 := Lib.hid hb23
  clear hr3 hd3 hb3 hb23 CT3 HV2 HB2
  go_wp2_with fail
  (with_reducible refine (CD.out).mono ?_)
  rintro e w4 ⟨x0, x1, x2, x3, x4, x5, cc, rfl, lx, hcase, hb4⟩
  obtain ⟨A2, c2, rfl, hr2, hd2⟩ := HV3.out
  obtain ⟨X4, hX4⟩ : ∃ X, X = w4.alloc (.cells #[.int .u64 (x0 : Nat), .int .u64 (x1 : Nat), .int .u64 (x2 : Nat), .int .u64 (x3 : Nat), .int .u64 (x4 : Nat), .int .u64 (x5 : Nat)] 24) := ⟨_, rfl⟩
  obtain ⟨gx, -, gb, gs⟩ := box6 w4 x0 x1 x2 x3 x4 x5
  rw [show Box6 w4 x0 x1 x2 x3 x4 x5 = X4 from hX4.symm] at gx gb gs
  have hb34 : Below w3.heap.size w3 X4 := hb4.trans (gb.mono hb4.size)
  have hb14 : Below X1.heap.size X1 X4 := HB3.out.trans (hb34.mono HB3.out.size)
  have hbXX : Below X.heap.size X X4 := HXX.out.trans (hb14.mono HXX.out.size)
  have HR4 : Hid (X4.cell? ⟨w1.heap.size, 0, none⟩ = some (.slice A1 n1 c1) ∧ X4.cell? ⟨w1.heap.size, 1, none⟩ = some (.int .i64 (S : Nat))) := ⟨(hb14.cell (p := ⟨w1.heap.size, 0, none⟩) (by show w1.heap.size < _; rw [HS1.out]; omega)).trans HR0.out.1, (hb14.cell (p := ⟨w1.heap.size, 1, none⟩) (by show w1.heap.size < _; rw [HS1.out]; omega)).trans HR0.out.2⟩
  have HA4 : Hid (L6 X4 w.heap.size 1 a0 a1 a2 a3 a4 a5) := HA.out.keepB (hbXX.block w.heap.size (by rw [HS.out]; omega))
  have HN4 := Lib.hid (HN.out.below hb14)
  have HF4 := Lib.hid (HF.out.below hb14 HF.out.lt)
  have HBY4 : Hid (Byt X4 (.slice A2 bs.length c2) bs) := ⟨A2, c2, rfl, hr2.below hb34, hd2⟩
  have HW4 := Lib.hid (HBX.out.trans (hb14.mono (by have := HS1.out; have := HW1.out; omega)))
  have HC4 : Hid (L6 X4 w4.heap.size 0 x0 x1 x2 x3 x4 x5) := gx
  have HSZ4 : Hid (w1.heap.size < X4.heap.size ∧ w.heap.size < X4.heap.size ∧ w4.heap.size < X4.heap.size) := ⟨by have := hb14.size; have := HS1.out; omega, by have := hb14.size; have := HS1.out; have := HW1.out; omega, by omega⟩
  have HX4 := Lib.hid hX4
  have HLX := Lib.hid lx
  have HN := HN4
  have HF := HF4
  clear hr2 hd2 gx gb gs hb34 hb14 hbXX hX4 lx hb4 HN4 HF4 HV3 HB3 HA HR0 HBX HXX CD HR HB
  go_upto_region 8 with (fail)
  rw [← HX4.out]
  clear HX4
  obtain ⟨r0, r1⟩ := HR4.out
  have q0 := eq0
  obtain ⟨i0, hi, hz0, hz1, hz2⟩ := info_parts info8
  have HPS : Hid (prm k < 256 ^ S) := by
    show _ < _
    rw [HSS.out, Nat.pow_mul, show (256 : Nat) ^ 8 = 18446744073709551616 by decide]
    exact HK.out.fit
  have HS48 : Hid (S ≤ 48) := by
    show _ ≤ _
    rw [HSS.out]
    rcases HK.out.limbs with e | e <;> omega
  rw [← HSS.out] at hcase
  rcases hcase with ⟨hl, rfl, hn0⟩ | ⟨hl, hge, rfl, hn0⟩ | ⟨hl, hlt, rfl, hn0⟩
  · have e1 : ((bs.length : Int) != (S : Int)) = true := by simp; omega
    obtain ⟨rfl, rfl, rfl, rfl, rfl, rfl⟩ := n6_small (n := 0) HLX.out (by omega) hn0
    obtain ⟨z0, z1, z2, z3, z4, z5⟩ := HC4.out
    obtain ⟨k1, k2, k3, k4, k5, k6⟩ := HA4.out
    simp only [Nat.reduceAdd, Nat.zero_add] at z1 z2 z3 z4 z5 k1 k2 k3 k4 k5 k6
    clear hn0
    have CE := fencode_c X4 HK.out HF.out HLA.out
    rw [← HSS.out] at CE
    have CE := Lib.hid CE
    go_wp2_with fail
    (with_reducible refine (CE.out).mono ?_)
    rintro e w5 ⟨g, zs, rfl, hzl, hzd, hzv, hzr, hb5⟩
    have HZV := Lib.hid (dv_told hzl hzv (Nat.lt_trans (Nat.mod_lt _ (by have := HK.out.pos; omega)) HPS.out))
    have HZL := Lib.hid hzl
    have HZD := Lib.hid hzd
    have HZR := Lib.hid hzr
    have HB5 := Lib.hid hb5
    clear hzl hzd hzv hzr hb5 CE z0 z1 z2 z3 z4 z5 k1 k2 k3 k4 k5 k6 r0 r1
    have hrdz : Rd .u8 w5 (some ⟨g, 0, none⟩) S zs := by have h := HZR.out.rd0; rwa [HZL.out] at h
    have HAC := Lib.hid (acc_empty0 w5)
    have HBE : Hid (Below w5.heap.size w5 (w5.alloc (.cells #[] 5))) := (Below.refl _ _).alloc (Nat.le_refl _) _
    have HSE : Hid ((w5.alloc (.cells #[] 5)).heap.size = w5.heap.size + 1) := by show _ = _; simp
    have HNW := Lib.hid (hrdz.below HBE.out).news
    have HS48I := HS48.out
    clear hrdz
    go_wp2_with (at_builtin; refine wpList_append_own _ rfl (.tmp 86) (.tmp 87) 25 rfl w5.heap.size 5 i0 (.int .u8 0) 1 1 Tryd.underlying25 hi hz0 hz1 hz2 rfl (by decide) (.slice (some ⟨w5.heap.size, 0, none⟩) 0 0) 0 [] rfl HAC.out ⟨g, 0, none⟩ S S (bv zs) rfl (by rw [bv_length, HZL.out]; omega) HNW.out (by intro u hu; simp [bv] at hu; obtain ⟨x, _, rfl⟩ := hu; rfl) (by unfold maxLen; omega) (by omega) (by rw [HSE.out]; omega) ?_)
    intro v' w6 hown hg _
    have hacc : Acc w6 w5.heap.size v' zs := by
      unfold Acc
      have h := hown
      rw [← HZL.out] at h
      simpa using h
    have hb6 : Below w5.heap.size w5 w6 := HBE.out.grown hg (by rw [HSE.out]; omega) (fun k hk => by simp [Value.ownBlock] at hk; omega)
    obtain ⟨A9, c9, rfl⟩ := hacc.form
    have hb46 : Below X4.heap.size X4 w6 := HB5.out.trans (hb6.mono HB5.out.size)
    have CD := fdecode_c w6 HK.out (HF.out.below hb46 HF.out.lt) hacc.rd HZD.out
    have CD := Lib.hid CD
    have HB6 := Lib.hid hb6
    have HB46 := Lib.hid hb46
    have HZR6 : Hid (Row .u8 w6 g 5 zs) := (hb6.block g HZR.out.lt).trans HZR.out
    clear hacc hown hg hb6 hb46 HAC HBE HSE HNW HZR
    go_wp2_with fail
    (with_reducible refine (CD.out).mono ?_)
    rintro e w7 ⟨m0, m1, m2, m3, m4, m5, cg, rfl, lm, hcm, hb7⟩
    obtain ⟨rfl, hm⟩ : cg = 0 ∧ n6 m0 m1 m2 m3 m4 m5 = n6 a0 a1 a2 a3 a4 a5 % prm k := by
      have hz := HZV.out
      have hP := HK.out.pos
      have hlt : n6 a0 a1 a2 a3 a4 a5 % prm k < prm k := Nat.mod_lt _ (by omega)
      rcases hcm with ⟨h1, -, -⟩ | ⟨-, h1, -, -⟩ | ⟨-, -, h1, h2⟩
      · exact absurd (HZL.out.trans HSS.out) h1
      · rw [hz] at h1; omega
      · exact ⟨h1, h2.trans hz⟩
    obtain ⟨X8, hX8⟩ : ∃ X, X = w7.alloc (.cells #[.int .u64 (m0 : Nat), .int .u64 (m1 : Nat), .int .u64 (m2 : Nat), .int .u64 (m3 : Nat), .int .u64 (m4 : Nat), .int .u64 (m5 : Nat)] 24) := ⟨_, rfl⟩
    obtain ⟨gx, -, gb, gs⟩ := box6 w7 m0 m1 m2 m3 m4 m5
    rw [show Box6 w7 m0 m1 m2 m3 m4 m5 = X8 from hX8.symm] at gx gb gs
    have hb68 : Below w6.heap.size w6 X8 := hb7.trans (gb.mono hb7.size)
    have hb48 : Below X4.heap.size X4 X8 := HB46.out.trans (hb68.mono HB46.out.size)
    have HZR8 : Hid (Row .u8 X8 g 5 zs) := (hb68.block g HZR6.out.lt).trans HZR6.out
    have HR8 : Hid (X8.cell? ⟨w1.heap.size, 0, none⟩ = some (.slice A1 n1 c1) ∧ X8.cell? ⟨w1.heap.size, 1, none⟩ = some (.int .i64 (S : Nat))) := ⟨(hb48.cell (p := ⟨w1.heap.size, 0, none⟩) HSZ4.out.1).trans HR4.out.1, (hb48.cell (p := ⟨w1.heap.size, 1, none⟩) HSZ4.out.1).trans HR4.out.2⟩
    have HA8 : Hid (L6 X8 w.heap.size 1 a0 a1 a2 a3 a4 a5) := HA4.out.keepB (hb48.block w.heap.size HSZ4.out.2.1)
    have HN8 := Lib.hid (HN.out.below hb48)
    have HF8 := Lib.hid (HF.out.below hb48 HF.out.lt)
    have HW8 := Lib.hid (HW4.out.trans (hb48.mono (Nat.le_of_lt HSZ4.out.2.1)))
    have HM8 : Hid (L6 X8 w7.heap.size 0 m0 m1 m2 m3 m4 m5) := gx
    have HLM := Lib.hid lm
    have HMV := Lib.hid hm
    have HX8 := Lib.hid hX8
    have HG8 : Hid (X4.heap.size ≤ X8.heap.size ∧ w7.heap.size < X8.heap.size) := ⟨hb48.size, by omega⟩
    clear lm hcm hb7 hm gx gb gs hb68 hb48 hX8 CD HB6 HB46 HZR6 HB5 HA4 HR4 HC4 HW4
    go_upto_region 16 with (fail)
    rw [← HX8.out]
    clear HX8
    have HSZ8 : Hid (w1.heap.size < X8.heap.size ∧ w.heap.size < X8.heap.size ∧ w7.heap.size < X8.heap.size) := ⟨Nat.lt_of_lt_of_le HSZ4.out.1 HG8.out.1, Nat.lt_of_lt_of_le HSZ4.out.2.1 HG8.out.1, HG8.out.2⟩
    have HZB8 : Hid (Byt X8 (.slice (some ⟨g, 0, none⟩) S S) zs) := by
      have h := HZR8.out.rd0
      rw [HZL.out] at h
      exact ⟨_, _, by rw [HZL.out], h, HZD.out⟩
    have HFI : Hid (∀ W v, Num W v (n6 a0 a1 a2 a3 a4 a5 % prm k) 12 → Calls Tryd.prog 24 #[v, .int .i64 (S : Nat)] W (RetR (fun w' v => Byt w' v zs) W)) := fun W v h => by
      have hS := HS48.out
      refine (rfill_n W h (by omega) S (by omega) (Nat.lt_trans (Nat.mod_lt _ (by have := HK.out.pos; omega)) HPS.out)).mono ?_
      rintro e w' ⟨u, he, ⟨l, hl1, hl2, hl3⟩, hb⟩
      have hll : l = zs := by
        obtain ⟨_, _, _, _, hd⟩ := hl1
        have h1 := dv_inj hd.reverse HZD.out.reverse (by rw [List.length_reverse, List.length_reverse, hl2, HZL.out]) (by rw [hl3, HZV.out])
        have := congrArg List.reverse h1
        simpa using this
      subst hll
      exact ⟨u, he, hl1, hb⟩
    have HRE : Hid (∀ W, FldAt (prm k) (plim k) W F → Calls Tryd.prog 17 #[.pointer (some ⟨F, 0, none⟩), W6 a0 a1 a2 a3 a4 a5] W (RetR (fun _ v => v = W6 m0 m1 m2 m3 m4 m5) W)) := fun W h => by
      refine (fReduce_c W HK.out h HLA.out).mono ?_
      rintro e w' ⟨s0, s1, s2, s3, s4, s5, he, ls, es, hb⟩
      obtain ⟨rfl, rfl, rfl, rfl, rfl, rfl⟩ := n6_parts ls HLM.out (es.trans HMV.out.symm)
      exact ⟨_, he, rfl, hb⟩
    refine wp_region_see 32 [92, 93, 94, 95, 96, 97, 98, 99, 100, 101, 102, 103, 104, 105, 106, 107, 108, 109, 110, 111, 112, 113, 114, 115, 116, 117, 118, 119, 120, 121, 122, 4] [(92, .is (.slice (some ⟨g, 0, none⟩) S S)), (93, .is (.int .i64 (S : Nat))), (94, .is (.pointer (some ⟨w1.heap.size, 1, none⟩))), (95, .is (.int .i64 (S : Nat))), (96, .is (.bool true)), (97, .is (.bool true)), (98, .is (.slice (some ⟨g, 0, none⟩) S S)), (99, .is (.string (sOf zs))), (100, .is (.agg #[.slice A1 n1 c1, .int .i64 (S : Nat)])), (101, .is (.pointer (some ⟨w.heap.size, 1, none⟩))), (102, .is (W6 a0 a1 a2 a3 a4 a5)), (103, .num (n6 a0 a1 a2 a3 a4 a5) 12), (104, .num (n6 a0 a1 a2 a3 a4 a5 % prm k) 12), (105, .is (.pointer (some ⟨w1.heap.size, 1, none⟩))), (106, .is (.int .i64 (S : Nat))), (107, .byt zs), (108, .is (.string (sOf zs))), (109, .is (.bool true)), (110, .is (.bool true)), (111, .is (.bool true)), (112, .is (.int .i64 0)), (113, .is (.bool true)), (114, .is (.bool true)), (115, .is (.bool true)), (116, .is (W6 m0 m1 m2 m3 m4 m5)), (117, .is (.pointer (some ⟨F, 0, none⟩))), (118, .is (.pointer (some ⟨w.heap.size, 1, none⟩))), (119, .is (W6 a0 a1 a2 a3 a4 a5)), (120, .is (W6 m0 m1 m2 m3 m4 m5)), (121, .is (.bool true)), (122, .is (.bool true)), (4, .is (.bool true))] (by kernel_rfl) (by kernel_rfl) (by rfl) ?_ ?_
    · refine seeOps_cons ?_ (seeOps_cons ?_ (seeOps_cons ?_ (seeOps_cons ?_ (seeOps_cons ?_ (seeOps_cons ?_ (seeOps_cons ?_ (seeOps_cons ?_ (seeOps_cons ?_ (seeOps_cons ?_ (seeOps_cons ?_ (seeOps_cons ?_ (seeOps_cons ?_ (seeOps_cons ?_ (seeOps_cons ?_ (seeOps_cons ?_ (seeOps_cons ?_ (seeOps_cons ?_ (seeOps_cons ?_ (seeOps_cons ?_ (seeOps_cons ?_ (seeOps_cons ?_ (seeOps_cons ?_ (seeOps_cons ?_ (seeOps_cons ?_ (seeOps_cons ?_ (seeOps_cons ?_ (seeOps_cons ?_ (seeOps_cons ?_ (seeOps_cons ?_ (seeOps_cons ?_ (seeOps_cons ?_ seeOps_nil)))))))))))))))))))))))))))))))
      · intro w9 hb9 fr hout hin
        have h12 : fr.tmps.getD 12 undef = .slice (some ⟨g, 0, none⟩) S S := hout 12 (by decide)
        clear hout hin
        exact relStep_move (.tmp 12) rfl (wanted_none rfl) (by show fr.tmps.getD 12 undef = _; rw [h12])
      · intro w9 hb9 fr hout hin
        have h92 : fr.tmps.getD 92 undef = .slice (some ⟨g, 0, none⟩) S S := hin 92 (by decide) (by decide)
        clear hout hin
        exact op_lenS (.tmp 92) rfl h92 (wanted_none rfl) rfl
      · intro w9 hb9 fr hout hin
        have h6 : fr.tmps.getD 6 undef = .pointer (some ⟨w1.heap.size, 0, none⟩) := hout 6 (by decide)
        clear hout hin
        exact op_faF (.tmp 6) rfl h6 (wanted_none rfl) rfl
      · intro w9 hb9 fr hout hin
        have h94 : fr.tmps.getD 94 undef = .pointer (some ⟨w1.heap.size, 1, none⟩) := hin 94 (by decide) (by decide)
        clear hout hin
        exact op_loadI1 (.tmp 94) rfl h94 ((hb9.cell (p := ⟨w1.heap.size, 1, none⟩) HSZ8.out.1).trans HR8.out.2) (wanted_none rfl) rfl
      · intro w9 hb9 fr hout hin
        have h93 : fr.tmps.getD 93 undef = .int .i64 (S : Nat) := hin 93 (by decide) (by decide)
        have h95 : fr.tmps.getD 95 undef = .int .i64 (S : Nat) := hin 95 (by decide) (by decide)
        clear hout hin
        exact op_eqI (.tmp 93) (.tmp 95) _ rfl h93 h95 (wanted_none rfl) rfl
      · intro w9 hb9 fr hout hin
        have h96 : fr.tmps.getD 96 undef = .bool true := hin 96 (by decide) (by decide)
        clear hout hin
        exact relStep_move (.tmp 96) rfl (wanted_none rfl) (by show fr.tmps.getD 96 undef = _; rw [h96])
      · intro w9 hb9 fr hout hin
        have h12 : fr.tmps.getD 12 undef = .slice (some ⟨g, 0, none⟩) S S := hout 12 (by decide)
        have h97 : fr.tmps.getD 97 undef = .bool true := hin 97 (by decide) (by decide)
        clear hout hin
        exact relStep_move (.tmp 12) rfl (wanted_some (g := 5) (t := 97) (b := true) rfl rfl h97) (by show fr.tmps.getD 12 undef = _; rw [h12])
      · intro w9 hb9 fr hout hin
        have h98 : fr.tmps.getD 98 undef = .slice (some ⟨g, 0, none⟩) S S := hin 98 (by decide) (by decide)
        have h97 : fr.tmps.getD 97 undef = .bool true := hin 97 (by decide) (by decide)
        clear hout hin
        exact op_str (bs := zs) (.tmp 98) rfl (by rw [show fr.eval (.tmp 98) = _ from h98]; exact HZB8.out.below hb9) (wanted_some (g := 5) (t := 97) (b := true) rfl rfl h97) rfl
      · intro w9 hb9 fr hout hin
        have h6 : fr.tmps.getD 6 undef = .pointer (some ⟨w1.heap.size, 0, none⟩) := hout 6 (by decide)
        have h97 : fr.tmps.getD 97 undef = .bool true := hin 97 (by decide) (by decide)
        clear hout hin
        exact op_loadF (.tmp 6) rfl h6 ⟨(hb9.cell (p := ⟨w1.heap.size, 0, none⟩) HSZ8.out.1).trans HR8.out.1, (hb9.cell (p := ⟨w1.heap.size, 1, none⟩) HSZ8.out.1).trans HR8.out.2⟩ (wanted_some (g := 5) (t := 97) (b := true) rfl rfl h97) rfl
      · intro w9 hb9 fr hout hin
        have h2 : fr.tmps.getD 2 undef = .pointer (some ⟨w.heap.size, 0, none⟩) := hout 2 (by decide)
        have h97 : fr.tmps.getD 97 undef = .bool true := hin 97 (by decide) (by decide)
        clear hout hin
        exact op_faA (.tmp 2) rfl h2 (wanted_some (g := 5) (t := 97) (b := true) rfl rfl h97) rfl
      · intro w9 hb9 fr hout hin
        have h101 : fr.tmps.getD 101 undef = .pointer (some ⟨w.heap.size, 1, none⟩) := hin 101 (by decide) (by decide)
        have h97 : fr.tmps.getD 97 undef = .bool true := hin 97 (by decide) (by decide)
        clear hout hin
        exact op_load6 (.tmp 101) rfl h101 (HA8.out.keepB (hb9.block w.heap.size HSZ8.out.2.1)) (wanted_some (g := 5) (t := 97) (b := true) rfl rfl h97) rfl
      · intro w9 hb9 fr hout hin
        have h102 : fr.tmps.getD 102 undef = W6 a0 a1 a2 a3 a4 a5 := hin 102 (by decide) (by decide)
        have h97 : fr.tmps.getD 97 undef = .bool true := hin 97 (by decide) (by decide)
        clear hout hin
        exact op_call1 (.tmp 102) rfl en_rN (wanted_some (g := 5) (t := 97) (b := true) rfl rfl h97) (by rw [show fr.eval (.tmp 102) = _ from h102]; exact rN_c w9 HLA.out) (fun _ _ h => h)
      · intro w9 hb9 fr hout hin
        have h100 : fr.tmps.getD 100 undef = .agg #[.slice A1 n1 c1, .int .i64 (S : Nat)] := hin 100 (by decide) (by decide)
        have h103 : Num w9 (fr.tmps.getD 103 undef) (n6 a0 a1 a2 a3 a4 a5) 12 := hin 103 (by decide) (by decide)
        have h97 : fr.tmps.getD 97 undef = .bool true := hin 97 (by decide) (by decide)
        clear hout hin
        exact op_callB (.tmp 100) (.tmp 103) rfl en_rRed (wanted_some (g := 5) (t := 97) (b := true) rfl rfl h97) (by rw [show fr.eval (.tmp 100) = _ from h100]; exact rRed_c w9 (S : Nat) h103 (HN8.out.below hb9) (by omega) (by omega) (by have := HK.out.pos; omega)) (fun _ _ h => h)
      · intro w9 hb9 fr hout hin
        have h6 : fr.tmps.getD 6 undef = .pointer (some ⟨w1.heap.size, 0, none⟩) := hout 6 (by decide)
        have h97 : fr.tmps.getD 97 undef = .bool true := hin 97 (by decide) (by decide)
        clear hout hin
        exact op_faF (.tmp 6) rfl h6 (wanted_some (g := 5) (t := 97) (b := true) rfl rfl h97) rfl
      · intro w9 hb9 fr hout hin
        have h105 : fr.tmps.getD 105 undef = .pointer (some ⟨w1.heap.size, 1, none⟩) := hin 105 (by decide) (by decide)
        have h97 : fr.tmps.getD 97 undef = .bool true := hin 97 (by decide) (by decide)
        clear hout hin
        exact op_loadI1 (.tmp 105) rfl h105 ((hb9.cell (p := ⟨w1.heap.size, 1, none⟩) HSZ8.out.1).trans HR8.out.2) (wanted_some (g := 5) (t := 97) (b := true) rfl rfl h97) rfl
      · intro w9 hb9 fr hout hin
        have h104 : Num w9 (fr.tmps.getD 104 undef) (n6 a0 a1 a2 a3 a4 a5 % prm k) 12 := hin 104 (by decide) (by decide)
        have h106 : fr.tmps.getD 106 undef = .int .i64 (S : Nat) := hin 106 (by decide) (by decide)
        have h97 : fr.tmps.getD 97 undef = .bool true := hin 97 (by decide) (by decide)
        clear hout hin
        exact op_callB (.tmp 104) (.tmp 106) rfl en_rFill (wanted_some (g := 5) (t := 97) (b := true) rfl rfl h97) (by rw [show fr.eval (.tmp 106) = _ from h106]; exact HFI.out w9 _ h104) (fun _ _ h => h)
      · intro w9 hb9 fr hout hin
        have h107 : Byt w9 (fr.tmps.getD 107 undef) zs := hin 107 (by decide) (by decide)
        have h97 : fr.tmps.getD 97 undef = .bool true := hin 97 (by decide) (by decide)
        clear hout hin
        exact op_str (bs := zs) (.tmp 107) rfl h107 (wanted_some (g := 5) (t := 97) (b := true) rfl rfl h97) rfl
      · intro w9 hb9 fr hout hin
        have h99 : fr.tmps.getD 99 undef = .string (sOf zs) := hin 99 (by decide) (by decide)
        have h108 : fr.tmps.getD 108 undef = .string (sOf zs) := hin 108 (by decide) (by decide)
        have h97 : fr.tmps.getD 97 undef = .bool true := hin 97 (by decide) (by decide)
        clear hout hin
        exact op_eqS (.tmp 99) (.tmp 108) _ rfl h99 h108 (wanted_some (g := 5) (t := 97) (b := true) rfl rfl h97) rfl
      · intro w9 hb9 fr hout hin
        have h97 : fr.tmps.getD 97 undef = .bool true := hin 97 (by decide) (by decide)
        have h109 : fr.tmps.getD 109 undef = .bool true := hin 109 (by decide) (by decide)
        clear hout hin
        exact relStep_pick (.tmp 97) (.tmp 109) (.const (.bool false)) rfl h97 (wanted_none rfl) (by show fr.tmps.getD 109 undef = _; rw [h109])
      · intro w9 hb9 fr hout hin
        have h110 : fr.tmps.getD 110 undef = .bool true := hin 110 (by decide) (by decide)
        clear hout hin
        exact relStep_move (.tmp 110) rfl (wanted_none rfl) (by show fr.tmps.getD 110 undef = _; rw [h110])
      · intro w9 hb9 fr hout hin
        have h14 : fr.tmps.getD 14 undef = .int .i64 0 := hout 14 (by decide)
        have h111 : fr.tmps.getD 111 undef = .bool true := hin 111 (by decide) (by decide)
        clear hout hin
        exact relStep_move (.tmp 14) rfl (wanted_some (g := 19) (t := 111) (b := true) rfl rfl h111) (by show fr.tmps.getD 14 undef = _; rw [h14])
      · intro w9 hb9 fr hout hin
        have h112 : fr.tmps.getD 112 undef = .int .i64 0 := hin 112 (by decide) (by decide)
        have h111 : fr.tmps.getD 111 undef = .bool true := hin 111 (by decide) (by decide)
        clear hout hin
        exact op_eqE (.tmp 112) (.const (.int .i64 0)) _ rfl h112 rfl (wanted_some (g := 19) (t := 111) (b := true) rfl rfl h111) rfl
      · intro w9 hb9 fr hout hin
        have h111 : fr.tmps.getD 111 undef = .bool true := hin 111 (by decide) (by decide)
        have h113 : fr.tmps.getD 113 undef = .bool true := hin 113 (by decide) (by decide)
        clear hout hin
        exact relStep_pick (.tmp 111) (.tmp 113) (.const (.bool false)) rfl h111 (wanted_none rfl) (by show fr.tmps.getD 113 undef = _; rw [h113])
      · intro w9 hb9 fr hout hin
        have h114 : fr.tmps.getD 114 undef = .bool true := hin 114 (by decide) (by decide)
        clear hout hin
        exact relStep_move (.tmp 114) rfl (wanted_none rfl) (by show fr.tmps.getD 114 undef = _; rw [h114])
      · intro w9 hb9 fr hout hin
        have h13 : fr.tmps.getD 13 undef = .pointer (some ⟨w7.heap.size, 0, none⟩) := hout 13 (by decide)
        have h115 : fr.tmps.getD 115 undef = .bool true := hin 115 (by decide) (by decide)
        clear hout hin
        exact op_load6 (.tmp 13) rfl h13 (HM8.out.keepB (hb9.block w7.heap.size HSZ8.out.2.2)) (wanted_some (g := 23) (t := 115) (b := true) rfl rfl h115) rfl
      · intro w9 hb9 fr hout hin
        have h5 : fr.tmps.getD 5 undef = .pointer (some ⟨F, 0, none⟩) := hout 5 (by decide)
        have h115 : fr.tmps.getD 115 undef = .bool true := hin 115 (by decide) (by decide)
        clear hout hin
        exact relStep_move (.tmp 5) rfl (wanted_some (g := 23) (t := 115) (b := true) rfl rfl h115) (by show fr.tmps.getD 5 undef = _; rw [h5])
      · intro w9 hb9 fr hout hin
        have h2 : fr.tmps.getD 2 undef = .pointer (some ⟨w.heap.size, 0, none⟩) := hout 2 (by decide)
        have h115 : fr.tmps.getD 115 undef = .bool true := hin 115 (by decide) (by decide)
        clear hout hin
        exact op_faA (.tmp 2) rfl h2 (wanted_some (g := 23) (t := 115) (b := true) rfl rfl h115) rfl
      · intro w9 hb9 fr hout hin
        have h118 : fr.tmps.getD 118 undef = .pointer (some ⟨w.heap.size, 1, none⟩) := hin 118 (by decide) (by decide)
        have h115 : fr.tmps.getD 115 undef = .bool true := hin 115 (by decide) (by decide)
        clear hout hin
        exact op_load6 (.tmp 118) rfl h118 (HA8.out.keepB (hb9.block w.heap.size HSZ8.out.2.1)) (wanted_some (g := 23) (t := 115) (b := true) rfl rfl h115) rfl
      · intro w9 hb9 fr hout hin
        have h117 : fr.tmps.getD 117 undef = .pointer (some ⟨F, 0, none⟩) := hin 117 (by decide) (by decide)
        have h119 : fr.tmps.getD 119 undef = W6 a0 a1 a2 a3 a4 a5 := hin 119 (by decide) (by decide)
        have h115 : fr.tmps.getD 115 undef = .bool true := hin 115 (by decide) (by decide)
        clear hout hin
        exact op_callB (.tmp 117) (.tmp 119) rfl en_fReduce (wanted_some (g := 23) (t := 115) (b := true) rfl rfl h115) (by rw [show fr.eval (.tmp 117) = _ from h117, show fr.eval (.tmp 119) = _ from h119]; exact HRE.out w9 (HF8.out.below hb9 HF8.out.lt)) (fun _ _ h => h)
      · intro w9 hb9 fr hout hin
        have h116 : fr.tmps.getD 116 undef = W6 m0 m1 m2 m3 m4 m5 := hin 116 (by decide) (by decide)
        have h120 : fr.tmps.getD 120 undef = W6 m0 m1 m2 m3 m4 m5 := hin 120 (by decide) (by decide)
        have h115 : fr.tmps.getD 115 undef = .bool true := hin 115 (by decide) (by decide)
        clear hout hin
        exact op_eqN6 (.tmp 116) (.tmp 120) _ rfl h116 h120 (wanted_some (g := 23) (t := 115) (b := true) rfl rfl h115) rfl
      · intro w9 hb9 fr hout hin
        have h115 : fr.tmps.getD 115 undef = .bool true := hin 115 (by decide) (by decide)
        have h121 : fr.tmps.getD 121 undef = .bool true := hin 121 (by decide) (by decide)
        clear hout hin
        exact relStep_pick (.tmp 115) (.tmp 121) (.const (.bool false)) rfl h115 (wanted_none rfl) (by show fr.tmps.getD 121 undef = _; rw [h121])
      · intro w9 hb9 fr hout hin
        have h122 : fr.tmps.getD 122 undef = .bool true := hin 122 (by decide) (by decide)
        clear hout hin
        exact relStep_assign (.tmp 122) rfl (wanted_none rfl) (by show fr.tmps.getD 122 undef = _; rw [h122])
    intro w9 hb9
    have HB9 := Lib.hid (HW8.out.trans (hb9.mono HW8.out.size))
    refine relAsk_in (by rfl) ?_
    intro v92 h92
    obtain rfl : v92 = .slice (some ⟨g, 0, none⟩) S S := h92
    refine relAsk_in (by rfl) ?_
    intro v93 h93
    obtain rfl : v93 = .int .i64 (S : Nat) := h93
    refine relAsk_in (by rfl) ?_
    intro v94 h94
    obtain rfl : v94 = .pointer (some ⟨w1.heap.size, 1, none⟩) := h94
    refine relAsk_in (by rfl) ?_
    intro v95 h95
    obtain rfl : v95 = .int .i64 (S : Nat) := h95
    refine relAsk_in (by rfl) ?_
    intro v96 h96
    obtain rfl : v96 = .bool true := h96
    refine relAsk_in (by rfl) ?_
    intro v97 h97
    obtain rfl : v97 = .bool true := h97
    refine relAsk_in (by rfl) ?_
    intro v98 h98
    obtain rfl : v98 = .slice (some ⟨g, 0, none⟩) S S := h98
    refine relAsk_in (by rfl) ?_
    intro v99 h99
    obtain rfl : v99 = .string (sOf zs) := h99
    refine relAsk_in (by rfl) ?_
    intro v100 h100
    obtain rfl : v100 = .agg #[.slice A1 n1 c1, .int .i64 (S : Nat)] := h100
    refine relAsk_in (by rfl) ?_
    intro v101 h101
    obtain rfl : v101 = .pointer (some ⟨w.heap.size, 1, none⟩) := h101
    refine relAsk_in (by rfl) ?_
    intro v102 h102
    obtain rfl : v102 = W6 a0 a1 a2 a3 a4 a5 := h102
    refine relAsk_in (by rfl) ?_
    intro v103 h103
    refine relAsk_in (by rfl) ?_
    intro v104 h104
    refine relAsk_in (by rfl) ?_
    intro v105 h105
    obtain rfl : v105 = .pointer (some ⟨w1.heap.size, 1, none⟩) := h105
    refine relAsk_in (by rfl) ?_
    intro v106 h106
    obtain rfl : v106 = .int .i64 (S : Nat) := h106
    refine relAsk_in (by rfl) ?_
    intro v107 h107
    refine relAsk_in (by rfl) ?_
    intro v108 h108
    obtain rfl : v108 = .string (sOf zs) := h108
    refine relAsk_in (by rfl) ?_
    intro v109 h109
    obtain rfl : v109 = .bool true := h109
    refine relAsk_in (by rfl) ?_
    intro v110 h110
    obtain rfl : v110 = .bool true := h110
    refine relAsk_in (by rfl) ?_
    intro v111 h111
    obtain rfl : v111 = .bool true := h111
    refine relAsk_in (by rfl) ?_
    intro v112 h112
    obtain rfl : v112 = .int .i64 0 := h112
    refine relAsk_in (by rfl) ?_
    intro v113 h113
    obtain rfl : v113 = .bool true := h113
    refine relAsk_in (by rfl) ?_
    intro v114 h114
    obtain rfl : v114 = .bool true := h114
    refine relAsk_in (by rfl) ?_
    intro v115 h115
    obtain rfl : v115 = .bool true := h115
    refine relAsk_in (by rfl) ?_
    intro v116 h116
    obtain rfl : v116 = W6 m0 m1 m2 m3 m4 m5 := h116
    refine relAsk_in (by rfl) ?_
    intro v117 h117
    obtain rfl : v117 = .pointer (some ⟨F, 0, none⟩) := h117
    refine relAsk_in (by rfl) ?_
    intro v118 h118
    obtain rfl : v118 = .pointer (some ⟨w.heap.size, 1, none⟩) := h118
    refine relAsk_in (by rfl) ?_
    intro v119 h119
    obtain rfl : v119 = W6 a0 a1 a2 a3 a4 a5 := h119
    refine relAsk_in (by rfl) ?_
    intro v120 h120
    obtain rfl : v120 = W6 m0 m1 m2 m3 m4 m5 := h120
    refine relAsk_in (by rfl) ?_
    intro v121 h121
    obtain rfl : v121 = .bool true := h121
    refine relAsk_in (by rfl) ?_
    intro v122 h122
    obtain rfl : v122 = .bool true := h122
    refine relAsk_in (by rfl) ?_
    intro v4 h4
    obtain rfl : v4 = .bool true := h4
    refine relAsk_nil ?_
    refine wpList_nil ?_
    go_simp
    go_wp2_with fail
    go_ret
    exact ⟨rfl, HB9.out⟩
  · have e1 : ((bs.length : Int) != (S : Int)) = false := by simp; omega
    obtain ⟨rfl, rfl, rfl, rfl, rfl, rfl⟩ := n6_small (n := 0) HLX.out (by omega) hn0
    have HCMP : Hid (decide (0 ≤ ordI (dv 256 bs.reverse) (prm k)) = true) := by
      show _ = _
      unfold ordI
      rw [if_neg (by omega)]
      by_cases h : prm k < dv 256 bs.reverse
      · rw [if_pos h]; decide
      · rw [if_neg h]; decide
    clear hn0
    go_upto_region 11 with (fail)
    refine wp_region_see 7 [67, 68, 69, 70, 71, 72, 66] [(67, .is (.slice A2 bs.length c2)), (68, .num (dv 256 bs.reverse) ((bs.length + 3) / 4)), (69, .is (.pointer (some ⟨w1.heap.size, 0, none⟩))), (70, .is (.slice A1 n1 c1)), (71, .is (.int .i64 (ordI (dv 256 bs.reverse) (prm k)))), (72, .is (.bool true)), (66, .is (.bool true))] (by kernel_rfl) (by kernel_rfl) (by rfl) ?_ ?_
    · refine seeOps_cons ?_ (seeOps_cons ?_ (seeOps_cons ?_ (seeOps_cons ?_ (seeOps_cons ?_ (seeOps_cons ?_ (seeOps_cons ?_ seeOps_nil))))))
      · intro w9 hb9 fr hout hin
        have h9 : fr.tmps.getD 9 undef = .slice A2 bs.length c2 := hout 9 (by decide)
        clear hout hin
        exact relStep_move (.tmp 9) rfl (wanted_none rfl) (by show fr.tmps.getD 9 undef = _; rw [h9])
      · intro w9 hb9 fr hout hin
        have h67 : fr.tmps.getD 67 undef = .slice A2 bs.length c2 := hin 67 (by decide) (by decide)
        clear hout hin
        exact op_call1 (.tmp 67) rfl en_rFrom (wanted_none rfl) (by rw [show fr.eval (.tmp 67) = _ from h67]; exact rfrom_n w9 (HBY4.out.below hb9) (by have := HBS.out.1; omega)) (fun _ _ h => h)
      · intro w9 hb9 fr hout hin
        have h6 : fr.tmps.getD 6 undef = .pointer (some ⟨w1.heap.size, 0, none⟩) := hout 6 (by decide)
        clear hout hin
        exact op_faF0 (.tmp 6) rfl h6 (wanted_none rfl) rfl
      · intro w9 hb9 fr hout hin
        have h69 : fr.tmps.getD 69 undef = .pointer (some ⟨w1.heap.size, 0, none⟩) := hin 69 (by decide) (by decide)
        clear hout hin
        exact op_loadN1 (.tmp 69) rfl h69 ((hb9.cell (p := ⟨w1.heap.size, 0, none⟩) HSZ4.out.1).trans HR4.out.1) (wanted_none rfl) rfl
      · intro w9 hb9 fr hout hin
        have h68 : Num w9 (fr.tmps.getD 68 undef) (dv 256 bs.reverse) ((bs.length + 3) / 4) := hin 68 (by decide) (by decide)
        have h70 : fr.tmps.getD 70 undef = .slice A1 n1 c1 := hin 70 (by decide) (by decide)
        clear hout hin
        exact op_callB (.tmp 68) (.tmp 70) rfl en_rCmp (wanted_none rfl) (by rw [show fr.eval (.tmp 70) = _ from h70]; exact (rcmp_n w9 h68 (HN.out.below hb9) (by have := HBS.out.1; omega)).mono fun e w' hk => (⟨_, hk.below.1, rfl, hk.below.2⟩ : RetR (fun _ v => v = .int .i64 (ordI (dv 256 bs.reverse) (prm k))) w9 e w')) (fun _ _ h => h)
      · intro w9 hb9 fr hout hin
        have h71 : fr.tmps.getD 71 undef = .int .i64 (ordI (dv 256 bs.reverse) (prm k)) := hin 71 (by decide) (by decide)
        clear hout hin
        exact op_geI0 (.tmp 71) (.const (.int .i64 0)) _ rfl h71 rfl (wanted_none rfl) (by show Value.bool _ = Value.bool true; rw [HCMP.out])
      · intro w9 hb9 fr hout hin
        have h72 : fr.tmps.getD 72 undef = .bool true := hin 72 (by decide) (by decide)
        clear hout hin
        exact relStep_assign (.tmp 72) rfl (wanted_none rfl) (by show fr.tmps.getD 72 undef = _; rw [h72])
    intro Y1 hbn
    refine relAsk_in (by rfl) ?_
    intro v67 h67
    obtain rfl : v67 = .slice A2 bs.length c2 := h67
    refine relAsk_in (by rfl) ?_
    intro v68 h68
    refine relAsk_in (by rfl) ?_
    intro v69 h69
    obtain rfl : v69 = .pointer (some ⟨w1.heap.size, 0, none⟩) := h69
    refine relAsk_in (by rfl) ?_
    intro v70 h70
    obtain rfl : v70 = .slice A1 n1 c1 := h70
    refine relAsk_in (by rfl) ?_
    intro v71 h71
    obtain rfl : v71 = .int .i64 (ordI (dv 256 bs.reverse) (prm k)) := h71
    refine relAsk_in (by rfl) ?_
    intro v72 h72
    obtain rfl : v72 = .bool true := h72
    refine relAsk_in (by rfl) ?_
    intro v66 h66
    obtain rfl : v66 = .bool true := h66
    refine relAsk_nil ?_
    refine wpList_nil ?_
    clear h68
    go_simp
    have HR4 : Hid (Y1.cell? ⟨w1.heap.size, 0, none⟩ = some (.slice A1 n1 c1) ∧ Y1.cell? ⟨w1.heap.size, 1, none⟩ = some (.int .i64 (S : Nat))) := ⟨(hbn.cell (p := ⟨w1.heap.size, 0, none⟩) HSZ4.out.1).trans HR4.out.1, (hbn.cell (p := ⟨w1.heap.size, 1, none⟩) HSZ4.out.1).trans HR4.out.2⟩
    have HA4 : Hid (L6 Y1 w.heap.size 1 a0 a1 a2 a3 a4 a5) := HA4.out.keepB (hbn.block w.heap.size HSZ4.out.2.1)
    have HC4 : Hid (L6 Y1 w4.heap.size 0 0 0 0 0 0 0) := HC4.out.keepB (hbn.block w4.heap.size HSZ4.out.2.2)
    have HN := Lib.hid (HN.out.below hbn)
    have HF := Lib.hid (HF.out.below hbn HF.out.lt)
    have HBY4 := Lib.hid (HBY4.out.below hbn)
    have HW4 := Lib.hid (HW4.out.trans (hbn.mono (Nat.le_of_lt HSZ4.out.2.1)))
    have HSZ4 : Hid (w1.heap.size < Y1.heap.size ∧ w.heap.size < Y1.heap.size ∧ w4.heap.size < Y1.heap.size) := ⟨Nat.lt_of_lt_of_le HSZ4.out.1 hbn.size, Nat.lt_of_lt_of_le HSZ4.out.2.1 hbn.size, Nat.lt_of_lt_of_le HSZ4.out.2.2 hbn.size⟩
    clear hbn
    obtain ⟨z0, z1, z2, z3, z4, z5⟩ := HC4.out
    obtain ⟨k1, k2, k3, k4, k5, k6⟩ := HA4.out
    simp only [Nat.reduceAdd, Nat.zero_add] at z1 z2 z3 z4 z5 k1 k2 k3 k4 k5 k6
    have CE := fencode_c Y1 HK.out HF.out HLA.out
    rw [← HSS.out] at CE
    have CE := Lib.hid CE
    clear r0 r1
    obtain ⟨r0, r1⟩ := HR4.out
    go_wp2_with fail
    (with_reducible refine (CE.out).mono ?_)
    rintro e w5 ⟨g, zs, rfl, hzl, hzd, hzv, hzr, hb5⟩
    have HZV := Lib.hid (dv_told hzl hzv (Nat.lt_trans (Nat.mod_lt _ (by have := HK.out.pos; omega)) HPS.out))
    have HZL := Lib.hid hzl
    have HZD := Lib.hid hzd
    have HZR := Lib.hid hzr
    have HB5 := Lib.hid hb5
    clear hzl hzd hzv hzr hb5 CE z0 z1 z2 z3 z4 z5 k1 k2 k3 k4 k5 k6 r0 r1
    have hrdz : Rd .u8 w5 (some ⟨g, 0, none⟩) S zs := by have h := HZR.out.rd0; rwa [HZL.out] at h
    have HAC := Lib.hid (acc_empty0 w5)
    have HBE : Hid (Below w5.heap.size w5 (w5.alloc (.cells #[] 5))) := (Below.refl _ _).alloc (Nat.le_refl _) _
    have HSE : Hid ((w5.alloc (.cells #[] 5)).heap.size = w5.heap.size + 1) := by show _ = _; simp
    have HNW := Lib.hid (hrdz.below HBE.out).news
    have HS48I := HS48.out
    clear hrdz
    go_wp2_with (at_builtin; refine wpList_append_own _ rfl (.tmp 86) (.tmp 87) 25 rfl w5.heap.size 5 i0 (.int .u8 0) 1 1 Tryd.underlying25 hi hz0 hz1 hz2 rfl (by decide) (.slice (some ⟨w5.heap.size, 0, none⟩) 0 0) 0 [] rfl HAC.out ⟨g, 0, none⟩ S S (bv zs) rfl (by rw [bv_length, HZL.out]; omega) HNW.out (by intro u hu; simp [bv] at hu; obtain ⟨x, _, rfl⟩ := hu; rfl) (by unfold maxLen; omega) (by omega) (by rw [HSE.out]; omega) ?_)
    intro v' w6 hown hg _
    have hacc : Acc w6 w5.heap.size v' zs := by
      unfold Acc
      have h := hown
      rw [← HZL.out] at h
      simpa using h
    have hb6 : Below w5.heap.size w5 w6 := HBE.out.grown hg (by rw [HSE.out]; omega) (fun k hk => by simp [Value.ownBlock] at hk; omega)
    obtain ⟨A9, c9, rfl⟩ := hacc.form
    have hb46 : Below Y1.heap.size Y1 w6 := HB5.out.trans (hb6.mono HB5.out.size)
    have CD := fdecode_c w6 HK.out (HF.out.below hb46 HF.out.lt) hacc.rd HZD.out
    have CD := Lib.hid CD
    have HB6 := Lib.hid hb6
    have HB46 := Lib.hid hb46
    have HZR6 : Hid (Row .u8 w6 g 5 zs) := (hb6.block g HZR.out.lt).trans HZR.out
    clear hacc hown hg hb6 hb46 HAC HBE HSE HNW HZR
    go_wp2_with fail
    (with_reducible refine (CD.out).mono ?_)
    rintro e w7 ⟨m0, m1, m2, m3, m4, m5, cg, rfl, lm, hcm, hb7⟩
    obtain ⟨rfl, hm⟩ : cg = 0 ∧ n6 m0 m1 m2 m3 m4 m5 = n6 a0 a1 a2 a3 a4 a5 % prm k := by
      have hz := HZV.out
      have hP := HK.out.pos
      have hlt : n6 a0 a1 a2 a3 a4 a5 % prm k < prm k := Nat.mod_lt _ (by omega)
      rcases hcm with ⟨h1, -, -⟩ | ⟨-, h1, -, -⟩ | ⟨-, -, h1, h2⟩
      · exact absurd (HZL.out.trans HSS.out) h1
      · rw [hz] at h1; omega
      · exact ⟨h1, h2.trans hz⟩
    obtain ⟨X8, hX8⟩ : ∃ X, X = w7.alloc (.cells #[.int .u64 (m0 : Nat), .int .u64 (m1 : Nat), .int .u64 (m2 : Nat), .int .u64 (m3 : Nat), .int .u64 (m4 : Nat), .int .u64 (m5 : Nat)] 24) := ⟨_, rfl⟩
    obtain ⟨gx, -, gb, gs⟩ := box6 w7 m0 m1 m2 m3 m4 m5
    rw [show Box6 w7 m0 m1 m2 m3 m4 m5 = X8 from hX8.symm] at gx gb gs
    have hb68 : Below w6.heap.size w6 X8 := hb7.trans (gb.mono hb7.size)
    have hb48 : Below Y1.heap.size Y1 X8 := HB46.out.trans (hb68.mono HB46.out.size)
    have HZR8 : Hid (Row .u8 X8 g 5 zs) := (hb68.block g HZR6.out.lt).trans HZR6.out
    have HR8 : Hid (X8.cell? ⟨w1.heap.size, 0, none⟩ = some (.slice A1 n1 c1) ∧ X8.cell? ⟨w1.heap.size, 1, none⟩ = some (.int .i64 (S : Nat))) := ⟨(hb48.cell (p := ⟨w1.heap.size, 0, none⟩) HSZ4.out.1).trans HR4.out.1, (hb48.cell (p := ⟨w1.heap.size, 1, none⟩) HSZ4.out.1).trans HR4.out.2⟩
    have HA8 : Hid (L6 X8 w.heap.size 1 a0 a1 a2 a3 a4 a5) := HA4.out.keepB (hb48.block w.heap.size HSZ4.out.2.1)
    have HN8 := Lib.hid (HN.out.below hb48)
    have HF8 := Lib.hid (HF.out.below hb48 HF.out.lt)
    have HW8 := Lib.hid (HW4.out.trans (hb48.mono (Nat.le_of_lt HSZ4.out.2.1)))
    have HM8 : Hid (L6 X8 w7.heap.size 0 m0 m1 m2 m3 m4 m5) := gx
    have HLM := Lib.hid lm
    have HMV := Lib.hid hm
    have HX8 := Lib.hid hX8
    have HG8 : Hid (Y1.heap.size ≤ X8.heap.size ∧ w7.heap.size < X8.heap.size) := ⟨hb48.size, by omega⟩
    clear lm hcm hb7 hm gx gb gs hb68 hb48 hX8 CD HB6 HB46 HZR6 HB5 HA4 HR4 HC4 HW4
    go_upto_region 16 with (fail)
    rw [← HX8.out]
    clear HX8
    have HSZ8 : Hid (w1.heap.size < X8.heap.size ∧ w.heap.size < X8.heap.size ∧ w7.heap.size < X8.heap.size) := ⟨Nat.lt_of_lt_of_le HSZ4.out.1 HG8.out.1, Nat.lt_of_lt_of_le HSZ4.out.2.1 HG8.out.1, HG8.out.2⟩
    have HZB8 : Hid (Byt X8 (.slice (some ⟨g, 0, none⟩) S S) zs) := by
      have h := HZR8.out.rd0
      rw [HZL.out] at h
      exact ⟨_, _, by rw [HZL.out], h, HZD.out⟩
    have HFI : Hid (∀ W v, Num W v (n6 a0 a1 a2 a3 a4 a5 % prm k) 12 → Calls Tryd.prog 24 #[v, .int .i64 (S : Nat)] W (RetR (fun w' v => Byt w' v zs) W)) := fun W v h => by
      have hS := HS48.out
      refine (rfill_n W h (by omega) S (by omega) (Nat.lt_trans (Nat.mod_lt _ (by have := HK.out.pos; omega)) HPS.out)).mono ?_
      rintro e w' ⟨u, he, ⟨l, hl1, hl2, hl3⟩, hb⟩
      have hll : l = zs := by
        obtain ⟨_, _, _, _, hd⟩ := hl1
        have h1 := dv_inj hd.reverse HZD.out.reverse (by rw [List.length_reverse, List.length_reverse, hl2, HZL.out]) (by rw [hl3, HZV.out])
        have := congrArg List.reverse h1
        simpa using this
      subst hll
      exact ⟨u, he, hl1, hb⟩
    have HRE : Hid (∀ W, FldAt (prm k) (plim k) W F → Calls Tryd.prog 17 #[.pointer (some ⟨F, 0, none⟩), W6 a0 a1 a2 a3 a4 a5] W (RetR (fun _ v => v = W6 m0 m1 m2 m3 m4 m5) W)) := fun W h => by
      refine (fReduce_c W HK.out h HLA.out).mono ?_
      rintro e w' ⟨s0, s1, s2, s3, s4, s5, he, ls, es, hb⟩
      obtain ⟨rfl, rfl, rfl, rfl, rfl, rfl⟩ := n6_parts ls HLM.out (es.trans HMV.out.symm)
      exact ⟨_, he, rfl, hb⟩
    refine wp_region_see 32 [92, 93, 94, 95, 96, 97, 98, 99, 100, 101, 102, 103, 104, 105, 106, 107, 108, 109, 110, 111, 112, 113, 114, 115, 116, 117, 118, 119, 120, 121, 122, 4] [(92, .is (.slice (some ⟨g, 0, none⟩) S S)), (93, .is (.int .i64 (S : Nat))), (94, .is (.pointer (some ⟨w1.heap.size, 1, none⟩))), (95, .is (.int .i64 (S : Nat))), (96, .is (.bool true)), (97, .is (.bool true)), (98, .is (.slice (some ⟨g, 0, none⟩) S S)), (99, .is (.string (sOf zs))), (100, .is (.agg #[.slice A1 n1 c1, .int .i64 (S : Nat)])), (101, .is (.pointer (some ⟨w.heap.size, 1, none⟩))), (102, .is (W6 a0 a1 a2 a3 a4 a5)), (103, .num (n6 a0 a1 a2 a3 a4 a5) 12), (104, .num (n6 a0 a1 a2 a3 a4 a5 % prm k) 12), (105, .is (.pointer (some ⟨w1.heap.size, 1, none⟩))), (106, .is (.int .i64 (S : Nat))), (107, .byt zs), (108, .is (.string (sOf zs))), (109, .is (.bool true)), (110, .is (.bool true)), (111, .is (.bool true)), (112, .is (.int .i64 0)), (113, .is (.bool true)), (114, .is (.bool true)), (115, .is (.bool true)), (116, .is (W6 m0 m1 m2 m3 m4 m5)), (117, .is (.pointer (some ⟨F, 0, none⟩))), (118, .is (.pointer (some ⟨w.heap.size, 1, none⟩))), (119, .is (W6 a0 a1 a2 a3 a4 a5)), (120, .is (W6 m0 m1 m2 m3 m4 m5)), (121, .is (.bool true)), (122, .is (.bool true)), (4, .is (.bool true))] (by kernel_rfl) (by kernel_rfl) (by rfl) ?_ ?_
    · refine seeOps_cons ?_ (seeOps_cons ?_ (seeOps_cons ?_ (seeOps_cons ?_ (seeOps_cons ?_ (seeOps_cons ?_ (seeOps_cons ?_ (seeOps_cons ?_ (seeOps_cons ?_ (seeOps_cons ?_ (seeOps_cons ?_ (seeOps_cons ?_ (seeOps_cons ?_ (seeOps_cons ?_ (seeOps_cons ?_ (seeOps_cons ?_ (seeOps_cons ?_ (seeOps_cons ?_ (seeOps_cons ?_ (seeOps_cons ?_ (seeOps_cons ?_ (seeOps_cons ?_ (seeOps_cons ?_ (seeOps_cons ?_ (seeOps_cons ?_ (seeOps_cons ?_ (seeOps_cons ?_ (seeOps_cons ?_ (seeOps_cons ?_ (seeOps_cons ?_ (seeOps_cons ?_ (seeOps_cons ?_ seeOps_nil)))))))))))))))))))))))))))))))
      · intro w9 hb9 fr hout hin
        have h12 : fr.tmps.getD 12 undef = .slice (some ⟨g, 0, none⟩) S S := hout 12 (by decide)
        clear hout hin
        exact relStep_move (.tmp 12) rfl (wanted_none rfl) (by show fr.tmps.getD 12 undef = _; rw [h12])
      · intro w9 hb9 fr hout hin
        have h92 : fr.tmps.getD 92 undef = .slice (some ⟨g, 0, none⟩) S S := hin 92 (by decide) (by decide)
        clear hout hin
        exact op_lenS (.tmp 92) rfl h92 (wanted_none rfl) rfl
      · intro w9 hb9 fr hout hin
        have h6 : fr.tmps.getD 6 undef = .pointer (some ⟨w1.heap.size, 0, none⟩) := hout 6 (by decide)
        clear hout hin
        exact op_faF (.tmp 6) rfl h6 (wanted_none rfl) rfl
      · intro w9 hb9 fr hout hin
        have h94 : fr.tmps.getD 94 undef = .pointer (some ⟨w1.heap.size, 1, none⟩) := hin 94 (by decide) (by decide)
        clear hout hin
        exact op_loadI1 (.tmp 94) rfl h94 ((hb9.cell (p := ⟨w1.heap.size, 1, none⟩) HSZ8.out.1).trans HR8.out.2) (wanted_none rfl) rfl
      · intro w9 hb9 fr hout hin
        have h93 : fr.tmps.getD 93 undef = .int .i64 (S : Nat) := hin 93 (by decide) (by decide)
        have h95 : fr.tmps.getD 95 undef = .int .i64 (S : Nat) := hin 95 (by decide) (by decide)
        clear hout hin
        exact op_eqI (.tmp 93) (.tmp 95) _ rfl h93 h95 (wanted_none rfl) rfl
      · intro w9 hb9 fr hout hin
        have h96 : fr.tmps.getD 96 undef = .bool true := hin 96 (by decide) (by decide)
        clear hout hin
        exact relStep_move (.tmp 96) rfl (wanted_none rfl) (by show fr.tmps.getD 96 undef = _; rw [h96])
      · intro w9 hb9 fr hout hin
        have h12 : fr.tmps.getD 12 undef = .slice (some ⟨g, 0, none⟩) S S := hout 12 (by decide)
        have h97 : fr.tmps.getD 97 undef = .bool true := hin 97 (by decide) (by decide)
        clear hout hin
        exact relStep_move (.tmp 12) rfl (wanted_some (g := 5) (t := 97) (b := true) rfl rfl h97) (by show fr.tmps.getD 12 undef = _; rw [h12])
      · intro w9 hb9 fr hout hin
        have h98 : fr.tmps.getD 98 undef = .slice (some ⟨g, 0, none⟩) S S := hin 98 (by decide) (by decide)
        have h97 : fr.tmps.getD 97 undef = .bool true := hin 97 (by decide) (by decide)
        clear hout hin
        exact op_str (bs := zs) (.tmp 98) rfl (by rw [show fr.eval (.tmp 98) = _ from h98]; exact HZB8.out.below hb9) (wanted_some (g := 5) (t := 97) (b := true) rfl rfl h97) rfl
      · intro w9 hb9 fr hout hin
        have h6 : fr.tmps.getD 6 undef = .pointer (some ⟨w1.heap.size, 0, none⟩) := hout 6 (by decide)
        have h97 : fr.tmps.getD 97 undef = .bool true := hin 97 (by decide) (by decide)
        clear hout hin
        exact op_loadF (.tmp 6) rfl h6 ⟨(hb9.cell (p := ⟨w1.heap.size, 0, none⟩) HSZ8.out.1).trans HR8.out.1, (hb9.cell (p := ⟨w1.heap.size, 1, none⟩) HSZ8.out.1).trans HR8.out.2⟩ (wanted_some (g := 5) (t := 97) (b := true) rfl rfl h97) rfl
      · intro w9 hb9 fr hout hin
        have h2 : fr.tmps.getD 2 undef = .pointer (some ⟨w.heap.size, 0, none⟩) := hout 2 (by decide)
        have h97 : fr.tmps.getD 97 undef = .bool true := hin 97 (by decide) (by decide)
        clear hout hin
        exact op_faA (.tmp 2) rfl h2 (wanted_some (g := 5) (t := 97) (b := true) rfl rfl h97) rfl
      · intro w9 hb9 fr hout hin
        have h101 : fr.tmps.getD 101 undef = .pointer (some ⟨w.heap.size, 1, none⟩) := hin 101 (by decide) (by decide)
        have h97 : fr.tmps.getD 97 undef = .bool true := hin 97 (by decide) (by decide)
        clear hout hin
        exact op_load6 (.tmp 101) rfl h101 (HA8.out.keepB (hb9.block w.heap.size HSZ8.out.2.1)) (wanted_some (g := 5) (t := 97) (b := true) rfl rfl h97) rfl
      · intro w9 hb9 fr hout hin
        have h102 : fr.tmps.getD 102 undef = W6 a0 a1 a2 a3 a4 a5 := hin 102 (by decide) (by decide)
        have h97 : fr.tmps.getD 97 undef = .bool true := hin 97 (by decide) (by decide)
        clear hout hin
        exact op_call1 (.tmp 102) rfl en_rN (wanted_some (g := 5) (t := 97) (b := true) rfl rfl h97) (by rw [show fr.eval (.tmp 102) = _ from h102]; exact rN_c w9 HLA.out) (fun _ _ h => h)
      · intro w9 hb9 fr hout hin
        have h100 : fr.tmps.getD 100 undef = .agg #[.slice A1 n1 c1, .int .i64 (S : Nat)] := hin 100 (by decide) (by decide)
        have h103 : Num w9 (fr.tmps.getD 103 undef) (n6 a0 a1 a2 a3 a4 a5) 12 := hin 103 (by decide) (by decide)
        have h97 : fr.tmps.getD 97 undef = .bool true := hin 97 (by decide) (by decide)
        clear hout hin
        exact op_callB (.tmp 100) (.tmp 103) rfl en_rRed (wanted_some (g := 5) (t := 97) (b := true) rfl rfl h97) (by rw [show fr.eval (.tmp 100) = _ from h100]; exact rRed_c w9 (S : Nat) h103 (HN8.out.below hb9) (by omega) (by omega) (by have := HK.out.pos; omega)) (fun _ _ h => h)
      · intro w9 hb9 fr hout hin
        have h6 : fr.tmps.getD 6 undef = .pointer (some ⟨w1.heap.size, 0, none⟩) := hout 6 (by decide)
        have h97 : fr.tmps.getD 97 undef = .bool true := hin 97 (by decide) (by decide)
        clear hout hin
        exact op_faF (.tmp 6) rfl h6 (wanted_some (g := 5) (t := 97) (b := true) rfl rfl h97) rfl
      · intro w9 hb9 fr hout hin
        have h105 : fr.tmps.getD 105 undef = .pointer (some ⟨w1.heap.size, 1, none⟩) := hin 105 (by decide) (by decide)
        have h97 : fr.tmps.getD 97 undef = .bool true := hin 97 (by decide) (by decide)
        clear hout hin
        exact op_loadI1 (.tmp 105) rfl h105 ((hb9.cell (p := ⟨w1.heap.size, 1, none⟩) HSZ8.out.1).trans HR8.out.2) (wanted_some (g := 5) (t := 97) (b := true) rfl rfl h97) rfl
      · intro w9 hb9 fr hout hin
        have h104 : Num w9 (fr.tmps.getD 104 undef) (n6 a0 a1 a2 a3 a4 a5 % prm k) 12 := hin 104 (by decide) (by decide)
        have h106 : fr.tmps.getD 106 undef = .int .i64 (S : Nat) := hin 106 (by decide) (by decide)
        have h97 : fr.tmps.getD 97 undef = .bool true := hin 97 (by decide) (by decide)
        clear hout hin
        exact op_callB (.tmp 104) (.tmp 106) rfl en_rFill (wanted_some (g := 5) (t := 97) (b := true) rfl rfl h97) (by rw [show fr.eval (.tmp 106) = _ from h106]; exact HFI.out w9 _ h104) (fun _ _ h => h)
      · intro w9 hb9 fr hout hin
        have h107 : Byt w9 (fr.tmps.getD 107 undef) zs := hin 107 (by decide) (by decide)
        have h97 : fr.tmps.getD 97 undef = .bool true := hin 97 (by decide) (by decide)
        clear hout hin
        exact op_str (bs := zs) (.tmp 107) rfl h107 (wanted_some (g := 5) (t := 97) (b := true) rfl rfl h97) rfl
      · intro w9 hb9 fr hout hin
        have h99 : fr.tmps.getD 99 undef = .string (sOf zs) := hin 99 (by decide) (by decide)
        have h108 : fr.tmps.getD 108 undef = .string (sOf zs) := hin 108 (by decide) (by decide)
        have h97 : fr.tmps.getD 97 undef = .bool true := hin 97 (by decide) (by decide)
        clear hout hin
        exact op_eqS (.tmp 99) (.tmp 108) _ rfl h99 h108 (wanted_some (g := 5) (t := 97) (b := true) rfl rfl h97) rfl
      · intro w9 hb9 fr hout hin
        have h97 : fr.tmps.getD 97 undef = .bool true := hin 97 (by decide) (by decide)
        have h109 : fr.tmps.getD 109 undef = .bool true := hin 109 (by decide) (by decide)
        clear hout hin
        exact relStep_pick (.tmp 97) (.tmp 109) (.const (.bool false)) rfl h97 (wanted_none rfl) (by show fr.tmps.getD 109 undef = _; rw [h109])
      · intro w9 hb9 fr hout hin
        have h110 : fr.tmps.getD 110 undef = .bool true := hin 110 (by decide) (by decide)
        clear hout hin
        exact relStep_move (.tmp 110) rfl (wanted_none rfl) (by show fr.tmps.getD 110 undef = _; rw [h110])
      · intro w9 hb9 fr hout hin
        have h14 : fr.tmps.getD 14 undef = .int .i64 0 := hout 14 (by decide)
        have h111 : fr.tmps.getD 111 undef = .bool true := hin 111 (by decide) (by decide)
        clear hout hin
        exact relStep_move (.tmp 14) rfl (wanted_some (g := 19) (t := 111) (b := true) rfl rfl h111) (by show fr.tmps.getD 14 undef = _; rw [h14])
      · intro w9 hb9 fr hout hin
        have h112 : fr.tmps.getD 112 undef = .int .i64 0 := hin 112 (by decide) (by decide)
        have h111 : fr.tmps.getD 111 undef = .bool true := hin 111 (by decide) (by decide)
        clear hout hin
        exact op_eqE (.tmp 112) (.const (.int .i64 0)) _ rfl h112 rfl (wanted_some (g := 19) (t := 111) (b := true) rfl rfl h111) rfl
      · intro w9 hb9 fr hout hin
        have h111 : fr.tmps.getD 111 undef = .bool true := hin 111 (by decide) (by decide)
        have h113 : fr.tmps.getD 113 undef = .bool true := hin 113 (by decide) (by decide)
        clear hout hin
        exact relStep_pick (.tmp 111) (.tmp 113) (.const (.bool false)) rfl h111 (wanted_none rfl) (by show fr.tmps.getD 113 undef = _; rw [h113])
      · intro w9 hb9 fr hout hin
        have h114 : fr.tmps.getD 114 undef = .bool true := hin 114 (by decide) (by decide)
        clear hout hin
        exact relStep_move (.tmp 114) rfl (wanted_none rfl) (by show fr.tmps.getD 114 undef = _; rw [h114])
      · intro w9 hb9 fr hout hin
        have h13 : fr.tmps.getD 13 undef = .pointer (some ⟨w7.heap.size, 0, none⟩) := hout 13 (by decide)
        have h115 : fr.tmps.getD 115 undef = .bool true := hin 115 (by decide) (by decide)
        clear hout hin
        exact op_load6 (.tmp 13) rfl h13 (HM8.out.keepB (hb9.block w7.heap.size HSZ8.out.2.2)) (wanted_some (g := 23) (t := 115) (b := true) rfl rfl h115) rfl
      · intro w9 hb9 fr hout hin
        have h5 : fr.tmps.getD 5 undef = .pointer (some ⟨F, 0, none⟩) := hout 5 (by decide)
        have h115 : fr.tmps.getD 115 undef = .bool true := hin 115 (by decide) (by decide)
        clear hout hin
        exact relStep_move (.tmp 5) rfl (wanted_some (g := 23) (t := 115) (b := true) rfl rfl h115) (by show fr.tmps.getD 5 undef = _; rw [h5])
      · intro w9 hb9 fr hout hin
        have h2 : fr.tmps.getD 2 undef = .pointer (some ⟨w.heap.size, 0, none⟩) := hout 2 (by decide)
        have h115 : fr.tmps.getD 115 undef = .bool true := hin 115 (by decide) (by decide)
        clear hout hin
        exact op_faA (.tmp 2) rfl h2 (wanted_some (g := 23) (t := 115) (b := true) rfl rfl h115) rfl
      · intro w9 hb9 fr hout hin
        have h118 : fr.tmps.getD 118 undef = .pointer (some ⟨w.heap.size, 1, none⟩) := hin 118 (by decide) (by decide)
        have h115 : fr.tmps.getD 115 undef = .bool true := hin 115 (by decide) (by decide)
        clear hout hin
        exact op_load6 (.tmp 118) rfl h118 (HA8.out.keepB (hb9.block w.heap.size HSZ8.out.2.1)) (wanted_some (g := 23) (t := 115) (b := true) rfl rfl h115) rfl
      · intro w9 hb9 fr hout hin
        have h117 : fr.tmps.getD 117 undef = .pointer (some ⟨F, 0, none⟩) := hin 117 (by decide) (by decide)
        have h119 : fr.tmps.getD 119 undef = W6 a0 a1 a2 a3 a4 a5 := hin 119 (by decide) (by decide)
        have h115 : fr.tmps.getD 115 undef = .bool true := hin 115 (by decide) (by decide)
        clear hout hin
        exact op_callB (.tmp 117) (.tmp 119) rfl en_fReduce (wanted_some (g := 23) (t := 115) (b := true) rfl rfl h115) (by rw [show fr.eval (.tmp 117) = _ from h117, show fr.eval (.tmp 119) = _ from h119]; exact HRE.out w9 (HF8.out.below hb9 HF8.out.lt)) (fun _ _ h => h)
      · intro w9 hb9 fr hout hin
        have h116 : fr.tmps.getD 116 undef = W6 m0 m1 m2 m3 m4 m5 := hin 116 (by decide) (by decide)
        have h120 : fr.tmps.getD 120 undef = W6 m0 m1 m2 m3 m4 m5 := hin 120 (by decide) (by decide)
        have h115 : fr.tmps.getD 115 undef = .bool true := hin 115 (by decide) (by decide)
        clear hout hin
        exact op_eqN6 (.tmp 116) (.tmp 120) _ rfl h116 h120 (wanted_some (g := 23) (t := 115) (b := true) rfl rfl h115) rfl
      · intro w9 hb9 fr hout hin
        have h115 : fr.tmps.getD 115 undef = .bool true := hin 115 (by decide) (by decide)
        have h121 : fr.tmps.getD 121 undef = .bool true := hin 121 (by decide) (by decide)
        clear hout hin
        exact relStep_pick (.tmp 115) (.tmp 121) (.const (.bool false)) rfl h115 (wanted_none rfl) (by show fr.tmps.getD 121 undef = _; rw [h121])
      · intro w9 hb9 fr hout hin
        have h122 : fr.tmps.getD 122 undef = .bool true := hin 122 (by decide) (by decide)
        clear hout hin
        exact relStep_assign (.tmp 122) rfl (wanted_none rfl) (by show fr.tmps.getD 122 undef = _; rw [h122])
    intro w9 hb9
    have HB9 := Lib.hid (HW8.out.trans (hb9.mono HW8.out.size))
    refine relAsk_in (by rfl) ?_
    intro v92 h92
    obtain rfl : v92 = .slice (some ⟨g, 0, none⟩) S S := h92
    refine relAsk_in (by rfl) ?_
    intro v93 h93
    obtain rfl : v93 = .int .i64 (S : Nat) := h93
    refine relAsk_in (by rfl) ?_
    intro v94 h94
    obtain rfl : v94 = .pointer (some ⟨w1.heap.size, 1, none⟩) := h94
    refine relAsk_in (by rfl) ?_
    intro v95 h95
    obtain rfl : v95 = .int .i64 (S : Nat) := h95
    refine relAsk_in (by rfl) ?_
    intro v96 h96
    obtain rfl : v96 = .bool true := h96
    refine relAsk_in (by rfl) ?_
    intro v97 h97
    obtain rfl : v97 = .bool true := h97
    refine relAsk_in (by rfl) ?_
    intro v98 h98
    obtain rfl : v98 = .slice (some ⟨g, 0, none⟩) S S := h98
    refine relAsk_in (by rfl) ?_
    intro v99 h99
    obtain rfl : v99 = .string (sOf zs) := h99
    refine relAsk_in (by rfl) ?_
    intro v100 h100
    obtain rfl : v100 = .agg #[.slice A1 n1 c1, .int .i64 (S : Nat)] := h100
    refine relAsk_in (by rfl) ?_
    intro v101 h101
    obtain rfl : v101 = .pointer (some ⟨w.heap.size, 1, none⟩) := h101
    refine relAsk_in (by rfl) ?_
    intro v102 h102
    obtain rfl : v102 = W6 a0 a1 a2 a3 a4 a5 := h102
    refine relAsk_in (by rfl) ?_
    intro v103 h103
    refine relAsk_in (by rfl) ?_
    intro v104 h104
    refine relAsk_in (by rfl) ?_
    intro v105 h105
    obtain rfl : v105 = .pointer (some ⟨w1.heap.size, 1, none⟩) := h105
    refine relAsk_in (by rfl) ?_
    intro v106 h106
    obtain rfl : v106 = .int .i64 (S : Nat) := h106
    refine relAsk_in (by rfl) ?_
    intro v107 h107
    refine relAsk_in (by rfl) ?_
    intro v108 h108
    obtain rfl : v108 = .string (sOf zs) := h108
    refine relAsk_in (by rfl) ?_
    intro v109 h109
    obtain rfl : v109 = .bool true := h109
    refine relAsk_in (by rfl) ?_
    intro v110 h110
    obtain rfl : v110 = .bool true := h110
    refine relAsk_in (by rfl) ?_
    intro v111 h111
    obtain rfl : v111 = .bool true := h111
    refine relAsk_in (by rfl) ?_
    intro v112 h112
    obtain rfl : v112 = .int .i64 0 := h112
    refine relAsk_in (by rfl) ?_
    intro v113 h113
    obtain rfl : v113 = .bool true := h113
    refine relAsk_in (by rfl) ?_
    intro v114 h114
    obtain rfl : v114 = .bool true := h114
    refine relAsk_in (by rfl) ?_
    intro v115 h115
    obtain rfl : v115 = .bool true := h115
    refine relAsk_in (by rfl) ?_
    intro v116 h116
    obtain rfl : v116 = W6 m0 m1 m2 m3 m4 m5 := h116
    refine relAsk_in (by rfl) ?_
    intro v117 h117
    obtain rfl : v117 = .pointer (some ⟨F, 0, none⟩) := h117
    refine relAsk_in (by rfl) ?_
    intro v118 h118
    obtain rfl : v118 = .pointer (some ⟨w.heap.size, 1, none⟩) := h118
    refine relAsk_in (by rfl) ?_
    intro v119 h119
    obtain rfl : v119 = W6 a0 a1 a2 a3 a4 a5 := h119
    refine relAsk_in (by rfl) ?_
    intro v120 h120
    obtain rfl : v120 = W6 m0 m1 m2 m3 m4 m5 := h120
    refine relAsk_in (by rfl) ?_
    intro v121 h121
    obtain rfl : v121 = .bool true := h121
    refine relAsk_in (by rfl) ?_
    intro v122 h122
    obtain rfl : v122 = .bool true := h122
    refine relAsk_in (by rfl) ?_
    intro v4 h4
    obtain rfl : v4 = .bool true := h4
    refine relAsk_nil ?_
    refine wpList_nil ?_
    go_simp
    go_wp2_with fail
    go_ret
    exact ⟨rfl, HB9.out⟩
  · have e1 : ((bs.length : Int) != (S : Int)) = false := by simp; omega
    have HCMP : Hid (decide (0 ≤ ordI (dv 256 bs.reverse) (prm k)) = false) := by
      show _ = _
      unfold ordI
      rw [if_pos hlt]
      decide
    have HLT := Lib.hid hlt
    have HN0 := Lib.hid hn0
    have HLB := Lib.hid hl
    have HNU : Hid (∀ W v, Num W v (dv 256 bs.reverse) ((bs.length + 3) / 4) → Calls Tryd.prog 22 #[v] W (RetR (fun _ v => v = W6 x0 x1 x2 x3 x4 x5) W)) := fun W v ⟨A', c', ys, e', h1', h2', h3'⟩ => by
      rw [e']
      refine (rnum_c W h1' h2' (by have := HS48.out; have := HLB.out; omega)).mono ?_
      rintro e w' ⟨s0, s1, s2, s3, s4, s5, he, ls, es, hb⟩
      obtain ⟨rfl, rfl, rfl, rfl, rfl, rfl⟩ := n6_parts ls HLX.out (es.trans HN0.out.symm)
      exact ⟨_, he, rfl, hb⟩
    have HEN : Hid (∀ W, FldAt (prm k) (plim k) W F → Calls Tryd.prog 23 #[.pointer (some ⟨F, 0, none⟩), W6 x0 x1 x2 x3 x4 x5] W (RetR (fun w' v => Byt w' v bs) W)) := fun W h => by
      refine (fencode_c W HK.out h HLX.out).mono ?_
      rintro e w' ⟨g, zs, he, hzl, hzd, hzv, hzr, hb⟩
      have hv := dv_told hzl hzv (by rw [← HSS.out]; exact Nat.lt_trans (Nat.mod_lt _ (by have := HK.out.pos; omega)) HPS.out)
      rw [HN0.out, Nat.mod_eq_of_lt HLT.out] at hv
      have h1 := dv_inj hzd.reverse HBS.out.2.reverse (by rw [List.length_reverse, List.length_reverse, hzl, HLB.out, HSS.out]) hv
      have h2 := congrArg List.reverse h1
      simp only [List.reverse_reverse] at h2
      subst h2
      refine ⟨_, he, ⟨some ⟨g, 0, none⟩, 8 * plim k, by rw [hzl], ?_, hzd⟩, hb⟩
      have h := hzr.rd0
      rwa [hzl] at h
    clear hn0 hlt hl
    go_upto_region 11 with (fail)
    refine wp_region_see 7 [67, 68, 69, 70, 71, 72, 66] [(67, .is (.slice A2 bs.length c2)), (68, .num (dv 256 bs.reverse) ((bs.length + 3) / 4)), (69, .is (.pointer (some ⟨w1.heap.size, 0, none⟩))), (70, .is (.slice A1 n1 c1)), (71, .is (.int .i64 (ordI (dv 256 bs.reverse) (prm k)))), (72, .is (.bool false)), (66, .is (.bool false))] (by kernel_rfl) (by kernel_rfl) (by rfl) ?_ ?_
    · refine seeOps_cons ?_ (seeOps_cons ?_ (seeOps_cons ?_ (seeOps_cons ?_ (seeOps_cons ?_ (seeOps_cons ?_ (seeOps_cons ?_ seeOps_nil))))))
      · intro w9 hb9 fr hout hin
        have h9 : fr.tmps.getD 9 undef = .slice A2 bs.length c2 := hout 9 (by decide)
        clear hout hin
        exact relStep_move (.tmp 9) rfl (wanted_none rfl) (by show fr.tmps.getD 9 undef = _; rw [h9])
      · intro w9 hb9 fr hout hin
        have h67 : fr.tmps.getD 67 undef = .slice A2 bs.length c2 := hin 67 (by decide) (by decide)
        clear hout hin
        exact op_call1 (.tmp 67) rfl en_rFrom (wanted_none rfl) (by rw [show fr.eval (.tmp 67) = _ from h67]; exact rfrom_n w9 (HBY4.out.below hb9) (by have := HBS.out.1; omega)) (fun _ _ h => h)
      · intro w9 hb9 fr hout hin
        have h6 : fr.tmps.getD 6 undef = .pointer (some ⟨w1.heap.size, 0, none⟩) := hout 6 (by decide)
        clear hout hin
        exact op_faF0 (.tmp 6) rfl h6 (wanted_none rfl) rfl
      · intro w9 hb9 fr hout hin
        have h69 : fr.tmps.getD 69 undef = .pointer (some ⟨w1.heap.size, 0, none⟩) := hin 69 (by decide) (by decide)
        clear hout hin
        exact op_loadN1 (.tmp 69) rfl h69 ((hb9.cell (p := ⟨w1.heap.size, 0, none⟩) HSZ4.out.1).trans HR4.out.1) (wanted_none rfl) rfl
      · intro w9 hb9 fr hout hin
        have h68 : Num w9 (fr.tmps.getD 68 undef) (dv 256 bs.reverse) ((bs.length + 3) / 4) := hin 68 (by decide) (by decide)
        have h70 : fr.tmps.getD 70 undef = .slice A1 n1 c1 := hin 70 (by decide) (by decide)
        clear hout hin
        exact op_callB (.tmp 68) (.tmp 70) rfl en_rCmp (wanted_none rfl) (by rw [show fr.eval (.tmp 70) = _ from h70]; exact (rcmp_n w9 h68 (HN.out.below hb9) (by have := HBS.out.1; omega)).mono fun e w' hk => (⟨_, hk.below.1, rfl, hk.below.2⟩ : RetR (fun _ v => v = .int .i64 (ordI (dv 256 bs.reverse) (prm k))) w9 e w')) (fun _ _ h => h)
      · intro w9 hb9 fr hout hin
        have h71 : fr.tmps.getD 71 undef = .int .i64 (ordI (dv 256 bs.reverse) (prm k)) := hin 71 (by decide) (by decide)
        clear hout hin
        exact op_geI0 (.tmp 71) (.const (.int .i64 0)) _ rfl h71 rfl (wanted_none rfl) (by show Value.bool _ = Value.bool false; rw [HCMP.out])
      · intro w9 hb9 fr hout hin
        have h72 : fr.tmps.getD 72 undef = .bool false := hin 72 (by decide) (by decide)
        clear hout hin
        exact relStep_assign (.tmp 72) rfl (wanted_none rfl) (by show fr.tmps.getD 72 undef = _; rw [h72])
    intro Y1 hbn
    refine relAsk_in (by rfl) ?_
    intro v67 h67
    obtain rfl : v67 = .slice A2 bs.length c2 := h67
    refine relAsk_in (by rfl) ?_
    intro v68 h68
    refine relAsk_in (by rfl) ?_
    intro v69 h69
    obtain rfl : v69 = .pointer (some ⟨w1.heap.size, 0, none⟩) := h69
    refine relAsk_in (by rfl) ?_
    intro v70 h70
    obtain rfl : v70 = .slice A1 n1 c1 := h70
    refine relAsk_in (by rfl) ?_
    intro v71 h71
    obtain rfl : v71 = .int .i64 (ordI (dv 256 bs.reverse) (prm k)) := h71
    refine relAsk_in (by rfl) ?_
    intro v72 h72
    obtain rfl : v72 = .bool false := h72
    refine relAsk_in (by rfl) ?_
    intro v66 h66
    obtain rfl : v66 = .bool false := h66
    refine relAsk_nil ?_
    refine wpList_nil ?_
    clear h68
    go_simp
    have HR4 : Hid (Y1.cell? ⟨w1.heap.size, 0, none⟩ = some (.slice A1 n1 c1) ∧ Y1.cell? ⟨w1.heap.size, 1, none⟩ = some (.int .i64 (S : Nat))) := ⟨(hbn.cell (p := ⟨w1.heap.size, 0, none⟩) HSZ4.out.1).trans HR4.out.1, (hbn.cell (p := ⟨w1.heap.size, 1, none⟩) HSZ4.out.1).trans HR4.out.2⟩
    have HA4 : Hid (L6 Y1 w.heap.size 1 a0 a1 a2 a3 a4 a5) := HA4.out.keepB (hbn.block w.heap.size HSZ4.out.2.1)
    have HC4 : Hid (L6 Y1 w4.heap.size 0 x0 x1 x2 x3 x4 x5) := HC4.out.keepB (hbn.block w4.heap.size HSZ4.out.2.2)
    have HN := Lib.hid (HN.out.below hbn)
    have HF := Lib.hid (HF.out.below hbn HF.out.lt)
    have HBY4 := Lib.hid (HBY4.out.below hbn)
    have HW4 := Lib.hid (HW4.out.trans (hbn.mono (Nat.le_of_lt HSZ4.out.2.1)))
    have HSZ4 : Hid (w1.heap.size < Y1.heap.size ∧ w.heap.size < Y1.heap.size ∧ w4.heap.size < Y1.heap.size) := ⟨Nat.lt_of_lt_of_le HSZ4.out.1 hbn.size, Nat.lt_of_lt_of_le HSZ4.out.2.1 hbn.size, Nat.lt_of_lt_of_le HSZ4.out.2.2 hbn.size⟩
    clear hbn
    go_upto_region 6 with (fail)
    refine wp_region_see 18 [35, 36, 37, 38, 39, 40, 41, 42, 43, 44, 45, 46, 47, 48, 49, 50, 51, 52] [(35, .is (.int .i64 0)), (36, .is (.bool false)), (37, .is (.bool false)), (38, .is (W6 x0 x1 x2 x3 x4 x5)), (39, .is (.slice A2 bs.length c2)), (40, .num (dv 256 bs.reverse) ((bs.length + 3) / 4)), (41, .is (W6 x0 x1 x2 x3 x4 x5)), (42, .is (.bool false)), (43, .is (.bool false)), (44, .is (.bool false)), (45, .is (.pointer (some ⟨F, 0, none⟩))), (46, .is (W6 x0 x1 x2 x3 x4 x5)), (47, .byt bs), (48, .is (.string (sOf bs))), (49, .is (.slice A2 bs.length c2)), (50, .is (.string (sOf bs))), (51, .is (.bool false)), (52, .is (.bool false))] (by kernel_rfl) (by kernel_rfl) (by rfl) ?_ ?_
    · refine seeOps_cons ?_ (seeOps_cons ?_ (seeOps_cons ?_ (seeOps_cons ?_ (seeOps_cons ?_ (seeOps_cons ?_ (seeOps_cons ?_ (seeOps_cons ?_ (seeOps_cons ?_ (seeOps_cons ?_ (seeOps_cons ?_ (seeOps_cons ?_ (seeOps_cons ?_ (seeOps_cons ?_ (seeOps_cons ?_ (seeOps_cons ?_ (seeOps_cons ?_ (seeOps_cons ?_ seeOps_nil)))))))))))))))))
      · intro w9 hb9 fr hout hin
        have h11 : fr.tmps.getD 11 undef = .int .i64 0 := hout 11 (by decide)
        clear hout hin
        exact relStep_move (.tmp 11) rfl (wanted_none rfl) (by show fr.tmps.getD 11 undef = _; rw [h11])
      · intro w9 hb9 fr hout hin
        have h35 : fr.tmps.getD 35 undef = .int .i64 0 := hin 35 (by decide) (by decide)
        clear hout hin
        exact op_neE (.tmp 35) (.const (.int .i64 0)) _ rfl h35 rfl (wanted_none rfl) rfl
      · intro w9 hb9 fr hout hin
        have h36 : fr.tmps.getD 36 undef = .bool false := hin 36 (by decide) (by decide)
        clear hout hin
        exact relStep_move (.tmp 36) rfl (wanted_none rfl) (by show fr.tmps.getD 36 undef = _; rw [h36])
      · intro w9 hb9 fr hout hin
        have h10 : fr.tmps.getD 10 undef = .pointer (some ⟨w4.heap.size, 0, none⟩) := hout 10 (by decide)
        have h37 : fr.tmps.getD 37 undef = .bool false := hin 37 (by decide) (by decide)
        clear hout hin
        exact op_load6 (.tmp 10) rfl h10 (HC4.out.keepB (hb9.block w4.heap.size HSZ4.out.2.2)) (wanted_some (g := 2) (t := 37) (b := false) rfl rfl h37) rfl
      · intro w9 hb9 fr hout hin
        have h9 : fr.tmps.getD 9 undef = .slice A2 bs.length c2 := hout 9 (by decide)
        have h37 : fr.tmps.getD 37 undef = .bool false := hin 37 (by decide) (by decide)
        clear hout hin
        exact relStep_move (.tmp 9) rfl (wanted_some (g := 2) (t := 37) (b := false) rfl rfl h37) (by show fr.tmps.getD 9 undef = _; rw [h9])
      · intro w9 hb9 fr hout hin
        have h39 : fr.tmps.getD 39 undef = .slice A2 bs.length c2 := hin 39 (by decide) (by decide)
        have h37 : fr.tmps.getD 37 undef = .bool false := hin 37 (by decide) (by decide)
        clear hout hin
        exact op_call1 (.tmp 39) rfl en_rFrom (wanted_some (g := 2) (t := 37) (b := false) rfl rfl h37) (by rw [show fr.eval (.tmp 39) = _ from h39]; exact rfrom_n w9 (HBY4.out.below hb9) (by have := HBS.out.1; omega)) (fun _ _ h => h)
      · intro w9 hb9 fr hout hin
        have h40 : Num w9 (fr.tmps.getD 40 undef) (dv 256 bs.reverse) ((bs.length + 3) / 4) := hin 40 (by decide) (by decide)
        have h37 : fr.tmps.getD 37 undef = .bool false := hin 37 (by decide) (by decide)
        clear hout hin
        exact op_call1 (.tmp 40) rfl en_rNum (wanted_some (g := 2) (t := 37) (b := false) rfl rfl h37) (HNU.out w9 _ h40) (fun _ _ h => h)
      · intro w9 hb9 fr hout hin
        have h38 : fr.tmps.getD 38 undef = W6 x0 x1 x2 x3 x4 x5 := hin 38 (by decide) (by decide)
        have h41 : fr.tmps.getD 41 undef = W6 x0 x1 x2 x3 x4 x5 := hin 41 (by decide) (by decide)
        have h37 : fr.tmps.getD 37 undef = .bool false := hin 37 (by decide) (by decide)
        clear hout hin
        exact op_neN6 (.tmp 38) (.tmp 41) _ rfl h38 h41 (wanted_some (g := 2) (t := 37) (b := false) rfl rfl h37) rfl
      · intro w9 hb9 fr hout hin
        have h37 : fr.tmps.getD 37 undef = .bool false := hin 37 (by decide) (by decide)
        have h42 : fr.tmps.getD 42 undef = .bool false := hin 42 (by decide) (by decide)
        clear hout hin
        exact relStep_pickF (.tmp 37) (.const (.bool true)) (.tmp 42) rfl h37 (wanted_none rfl) (by show fr.tmps.getD 42 undef = _; rw [h42])
      · intro w9 hb9 fr hout hin
        have h43 : fr.tmps.getD 43 undef = .bool false := hin 43 (by decide) (by decide)
        clear hout hin
        exact relStep_move (.tmp 43) rfl (wanted_none rfl) (by show fr.tmps.getD 43 undef = _; rw [h43])
      · intro w9 hb9 fr hout hin
        have h5 : fr.tmps.getD 5 undef = .pointer (some ⟨F, 0, none⟩) := hout 5 (by decide)
        have h44 : fr.tmps.getD 44 undef = .bool false := hin 44 (by decide) (by decide)
        clear hout hin
        exact relStep_move (.tmp 5) rfl (wanted_some (g := 9) (t := 44) (b := false) rfl rfl h44) (by show fr.tmps.getD 5 undef = _; rw [h5])
      · intro w9 hb9 fr hout hin
        have h10 : fr.tmps.getD 10 undef = .pointer (some ⟨w4.heap.size, 0, none⟩) := hout 10 (by decide)
        have h44 : fr.tmps.getD 44 undef = .bool false := hin 44 (by decide) (by decide)
        clear hout hin
        exact op_load6 (.tmp 10) rfl h10 (HC4.out.keepB (hb9.block w4.heap.size HSZ4.out.2.2)) (wanted_some (g := 9) (t := 44) (b := false) rfl rfl h44) rfl
      · intro w9 hb9 fr hout hin
        have h45 : fr.tmps.getD 45 undef = .pointer (some ⟨F, 0, none⟩) := hin 45 (by decide) (by decide)
        have h46 : fr.tmps.getD 46 undef = W6 x0 x1 x2 x3 x4 x5 := hin 46 (by decide) (by decide)
        have h44 : fr.tmps.getD 44 undef = .bool false := hin 44 (by decide) (by decide)
        clear hout hin
        exact op_callB (.tmp 45) (.tmp 46) rfl en_fEncode (wanted_some (g := 9) (t := 44) (b := false) rfl rfl h44) (by rw [show fr.eval (.tmp 45) = _ from h45, show fr.eval (.tmp 46) = _ from h46]; exact HEN.out w9 (HF.out.below hb9 HF.out.lt)) (fun _ _ h => h)
      · intro w9 hb9 fr hout hin
        have h47 : Byt w9 (fr.tmps.getD 47 undef) bs := hin 47 (by decide) (by decide)
        have h44 : fr.tmps.getD 44 undef = .bool false := hin 44 (by decide) (by decide)
        clear hout hin
        exact op_str (bs := bs) (.tmp 47) rfl h47 (wanted_some (g := 9) (t := 44) (b := false) rfl rfl h44) rfl
      · intro w9 hb9 fr hout hin
        have h9 : fr.tmps.getD 9 undef = .slice A2 bs.length c2 := hout 9 (by decide)
        have h44 : fr.tmps.getD 44 undef = .bool false := hin 44 (by decide) (by decide)
        clear hout hin
        exact relStep_move (.tmp 9) rfl (wanted_some (g := 9) (t := 44) (b := false) rfl rfl h44) (by show fr.tmps.getD 9 undef = _; rw [h9])
      · intro w9 hb9 fr hout hin
        have h49 : fr.tmps.getD 49 undef = .slice A2 bs.length c2 := hin 49 (by decide) (by decide)
        have h44 : fr.tmps.getD 44 undef = .bool false := hin 44 (by decide) (by decide)
        clear hout hin
        exact op_str (bs := bs) (.tmp 49) rfl (by rw [show fr.eval (.tmp 49) = _ from h49]; exact HBY4.out.below hb9) (wanted_some (g := 9) (t := 44) (b := false) rfl rfl h44) rfl
      · intro w9 hb9 fr hout hin
        have h48 : fr.tmps.getD 48 undef = .string (sOf bs) := hin 48 (by decide) (by decide)
        have h50 : fr.tmps.getD 50 undef = .string (sOf bs) := hin 50 (by decide) (by decide)
        have h44 : fr.tmps.getD 44 undef = .bool false := hin 44 (by decide) (by decide)
        clear hout hin
        exact op_neS (.tmp 48) (.tmp 50) _ rfl h48 h50 (wanted_some (g := 9) (t := 44) (b := false) rfl rfl h44) rfl
      · intro w9 hb9 fr hout hin
        have h44 : fr.tmps.getD 44 undef = .bool false := hin 44 (by decide) (by decide)
        have h51 : fr.tmps.getD 51 undef = .bool false := hin 51 (by decide) (by decide)
        clear hout hin
        exact relStep_pickF (.tmp 44) (.const (.bool true)) (.tmp 51) rfl h44 (wanted_none rfl) (by show fr.tmps.getD 51 undef = _; rw [h51])
    intro Y2 hbn
    refine relAsk_in (by rfl) ?_
    intro v35 h35
    obtain rfl : v35 = .int .i64 0 := h35
    refine relAsk_in (by rfl) ?_
    intro v36 h36
    obtain rfl : v36 = .bool false := h36
    refine relAsk_in (by rfl) ?_
    intro v37 h37
    obtain rfl : v37 = .bool false := h37
    refine relAsk_in (by rfl) ?_
    intro v38 h38
    obtain rfl : v38 = W6 x0 x1 x2 x3 x4 x5 := h38
    refine relAsk_in (by rfl) ?_
    intro v39 h39
    obtain rfl : v39 = .slice A2 bs.length c2 := h39
    refine relAsk_in (by rfl) ?_
    intro v40 h40
    refine relAsk_in (by rfl) ?_
    intro v41 h41
    obtain rfl : v41 = W6 x0 x1 x2 x3 x4 x5 := h41
    refine relAsk_in (by rfl) ?_
    intro v42 h42
    obtain rfl : v42 = .bool false := h42
    refine relAsk_in (by rfl) ?_
    intro v43 h43
    obtain rfl : v43 = .bool false := h43
    refine relAsk_in (by rfl) ?_
    intro v44 h44
    obtain rfl : v44 = .bool false := h44
    refine relAsk_in (by rfl) ?_
    intro v45 h45
    obtain rfl : v45 = .pointer (some ⟨F, 0, none⟩) := h45
    refine relAsk_in (by rfl) ?_
    intro v46 h46
    obtain rfl : v46 = W6 x0 x1 x2 x3 x4 x5 := h46
    refine relAsk_in (by rfl) ?_
    intro v47 h47
    refine relAsk_in (by rfl) ?_
    intro v48 h48
    obtain rfl : v48 = .string (sOf bs) := h48
    refine relAsk_in (by rfl) ?_
    intro v49 h49
    obtain rfl : v49 = .slice A2 bs.length c2 := h49
    refine relAsk_in (by rfl) ?_
    intro v50 h50
    obtain rfl : v50 = .string (sOf bs) := h50
    refine relAsk_in (by rfl) ?_
    intro v51 h51
    obtain rfl : v51 = .bool false := h51
    refine relAsk_in (by rfl) ?_
    intro v52 h52
    obtain rfl : v52 = .bool false := h52
    refine relAsk_nil ?_
    refine wpList_nil ?_
    clear h40 h47
    go_simp
    have HR4 : Hid (Y2.cell? ⟨w1.heap.size, 0, none⟩ = some (.slice A1 n1 c1) ∧ Y2.cell? ⟨w1.heap.size, 1, none⟩ = some (.int .i64 (S : Nat))) := ⟨(hbn.cell (p := ⟨w1.heap.size, 0, none⟩) HSZ4.out.1).trans HR4.out.1, (hbn.cell (p := ⟨w1.heap.size, 1, none⟩) HSZ4.out.1).trans HR4.out.2⟩
    have HA4 : Hid (L6 Y2 w.heap.size 1 a0 a1 a2 a3 a4 a5) := HA4.out.keepB (hbn.block w.heap.size HSZ4.out.2.1)
    have HC4 : Hid (L6 Y2 w4.heap.size 0 x0 x1 x2 x3 x4 x5) := HC4.out.keepB (hbn.block w4.heap.size HSZ4.out.2.2)
    have HN := Lib.hid (HN.out.below hbn)
    have HF := Lib.hid (HF.out.below hbn HF.out.lt)
    have HBY4 := Lib.hid (HBY4.out.below hbn)
    have HW4 := Lib.hid (HW4.out.trans (hbn.mono (Nat.le_of_lt HSZ4.out.2.1)))
    have HSZ4 : Hid (w1.heap.size < Y2.heap.size ∧ w.heap.size < Y2.heap.size ∧ w4.heap.size < Y2.heap.size) := ⟨Nat.lt_of_lt_of_le HSZ4.out.1 hbn.size, Nat.lt_of_lt_of_le HSZ4.out.2.1 hbn.size, Nat.lt_of_lt_of_le HSZ4.out.2.2 hbn.size⟩
    clear hbn
    obtain ⟨z0, z1, z2, z3, z4, z5⟩ := HC4.out
    obtain ⟨k1, k2, k3, k4, k5, k6⟩ := HA4.out
    simp only [Nat.reduceAdd, Nat.zero_add] at z1 z2 z3 z4 z5 k1 k2 k3 k4 k5 k6
    have CE := fencode_c Y2 HK.out HF.out HLA.out
    rw [← HSS.out] at CE
    have CE := Lib.hid CE
    clear r0 r1
    obtain ⟨r0, r1⟩ := HR4.out
    go_wp2_with fail
    (with_reducible refine (CE.out).mono ?_)
    rintro e w5 ⟨g, zs, rfl, hzl, hzd, hzv, hzr, hb5⟩
    have HZV := Lib.hid (dv_told hzl hzv (Nat.lt_trans (Nat.mod_lt _ (by have := HK.out.pos; omega)) HPS.out))
    have HZL := Lib.hid hzl
    have HZD := Lib.hid hzd
    have HZR := Lib.hid hzr
    have HB5 := Lib.hid hb5
    clear hzl hzd hzv hzr hb5 CE z0 z1 z2 z3 z4 z5 k1 k2 k3 k4 k5 k6 r0 r1
    have hrdz : Rd .u8 w5 (some ⟨g, 0, none⟩) S zs := by have h := HZR.out.rd0; rwa [HZL.out] at h
    have HAC := Lib.hid (acc_empty0 w5)
    have HBE : Hid (Below w5.heap.size w5 (w5.alloc (.cells #[] 5))) := (Below.refl _ _).alloc (Nat.le_refl _) _
    have HSE : Hid ((w5.alloc (.cells #[] 5)).heap.size = w5.heap.size + 1) := by show _ = _; simp
    have HNW := Lib.hid (hrdz.below HBE.out).news
    have HS48I := HS48.out
    clear hrdz
    go_wp2_with (at_builtin; refine wpList_append_own _ rfl (.tmp 86) (.tmp 87) 25 rfl w5.heap.size 5 i0 (.int .u8 0) 1 1 Tryd.underlying25 hi hz0 hz1 hz2 rfl (by decide) (.slice (some ⟨w5.heap.size, 0, none⟩) 0 0) 0 [] rfl HAC.out ⟨g, 0, none⟩ S S (bv zs) rfl (by rw [bv_length, HZL.out]; omega) HNW.out (by intro u hu; simp [bv] at hu; obtain ⟨x, _, rfl⟩ := hu; rfl) (by unfold maxLen; omega) (by omega) (by rw [HSE.out]; omega) ?_)
    intro v' w6 hown hg _
    have hacc : Acc w6 w5.heap.size v' zs := by
      unfold Acc
      have h := hown
      rw [← HZL.out] at h
      simpa using h
    have hb6 : Below w5.heap.size w5 w6 := HBE.out.grown hg (by rw [HSE.out]; omega) (fun k hk => by simp [Value.ownBlock] at hk; omega)
    obtain ⟨A9, c9, rfl⟩ := hacc.form
    have hb46 : Below Y2.heap.size Y2 w6 := HB5.out.trans (hb6.mono HB5.out.size)
    have CD := fdecode_c w6 HK.out (HF.out.below hb46 HF.out.lt) hacc.rd HZD.out
    have CD := Lib.hid CD
    have HB6 := Lib.hid hb6
    have HB46 := Lib.hid hb46
    have HZR6 : Hid (Row .u8 w6 g 5 zs) := (hb6.block g HZR.out.lt).trans HZR.out
    clear hacc hown hg hb6 hb46 HAC HBE HSE HNW HZR
    go_wp2_with fail
    (with_reducible refine (CD.out).mono ?_)
    rintro e w7 ⟨m0, m1, m2, m3, m4, m5, cg, rfl, lm, hcm, hb7⟩
    obtain ⟨rfl, hm⟩ : cg = 0 ∧ n6 m0 m1 m2 m3 m4 m5 = n6 a0 a1 a2 a3 a4 a5 % prm k := by
      have hz := HZV.out
      have hP := HK.out.pos
      have hlt : n6 a0 a1 a2 a3 a4 a5 % prm k < prm k := Nat.mod_lt _ (by omega)
      rcases hcm with ⟨h1, -, -⟩ | ⟨-, h1, -, -⟩ | ⟨-, -, h1, h2⟩
      · exact absurd (HZL.out.trans HSS.out) h1
      · rw [hz] at h1; omega
      · exact ⟨h1, h2.trans hz⟩
    obtain ⟨X8, hX8⟩ : ∃ X, X = w7.alloc (.cells #[.int .u64 (m0 : Nat), .int .u64 (m1 : Nat), .int .u64 (m2 : Nat), .int .u64 (m3 : Nat), .int .u64 (m4 : Nat), .int .u64 (m5 : Nat)] 24) := ⟨_, rfl⟩
    obtain ⟨gx, -, gb, gs⟩ := box6 w7 m0 m1 m2 m3 m4 m5
    rw [show Box6 w7 m0 m1 m2 m3 m4 m5 = X8 from hX8.symm] at gx gb gs
    have hb68 : Below w6.heap.size w6 X8 := hb7.trans (gb.mono hb7.size)
    have hb48 : Below Y2.heap.size Y2 X8 := HB46.out.trans (hb68.mono HB46.out.size)
    have HZR8 : Hid (Row .u8 X8 g 5 zs) := (hb68.block g HZR6.out.lt).trans HZR6.out
    have HR8 : Hid (X8.cell? ⟨w1.heap.size, 0, none⟩ = some (.slice A1 n1 c1) ∧ X8.cell? ⟨w1.heap.size, 1, none⟩ = some (.int .i64 (S : Nat))) := ⟨(hb48.cell (p := ⟨w1.heap.size, 0, none⟩) HSZ4.out.1).trans HR4.out.1, (hb48.cell (p := ⟨w1.heap.size, 1, none⟩) HSZ4.out.1).trans HR4.out.2⟩
    have HA8 : Hid (L6 X8 w.heap.size 1 a0 a1 a2 a3 a4 a5) := HA4.out.keepB (hb48.block w.heap.size HSZ4.out.2.1)
    have HN8 := Lib.hid (HN.out.below hb48)
    have HF8 := Lib.hid (HF.out.below hb48 HF.out.lt)
    have HW8 := Lib.hid (HW4.out.trans (hb48.mono (Nat.le_of_lt HSZ4.out.2.1)))
    have HM8 : Hid (L6 X8 w7.heap.size 0 m0 m1 m2 m3 m4 m5) := gx
    have HLM := Lib.hid lm
    have HMV := Lib.hid hm
    have HX8 := Lib.hid hX8
    have HG8 : Hid (Y2.heap.size ≤ X8.heap.size ∧ w7.heap.size < X8.heap.size) := ⟨hb48.size, by omega⟩
    clear lm hcm hb7 hm gx gb gs hb68 hb48 hX8 CD HB6 HB46 HZR6 HB5 HA4 HR4 HC4 HW4
    go_upto_region 16 with (fail)
    rw [← HX8.out]
    clear HX8
    have HSZ8 : Hid (w1.heap.size < X8.heap.size ∧ w.heap.size < X8.heap.size ∧ w7.heap.size < X8.heap.size) := ⟨Nat.lt_of_lt_of_le HSZ4.out.1 HG8.out.1, Nat.lt_of_lt_of_le HSZ4.out.2.1 HG8.out.1, HG8.out.2⟩
    have HZB8 : Hid (Byt X8 (.slice (some ⟨g, 0, none⟩) S S) zs) := by
      have h := HZR8.out.rd0
      rw [HZL.out] at h
      exact ⟨_, _, by rw [HZL.out], h, HZD.out⟩
    have HFI : Hid (∀ W v, Num W v (n6 a0 a1 a2 a3 a4 a5 % prm k) 12 → Calls Tryd.prog 24 #[v, .int .i64 (S : Nat)] W (RetR (fun w' v => Byt w' v zs) W)) := fun W v h => by
      have hS := HS48.out
      refine (rfill_n W h (by omega) S (by omega) (Nat.lt_trans (Nat.mod_lt _ (by have := HK.out.pos; omega)) HPS.out)).mono ?_
      rintro e w' ⟨u, he, ⟨l, hl1, hl2, hl3⟩, hb⟩
      have hll : l = zs := by
        obtain ⟨_, _, _, _, hd⟩ := hl1
        have h1 := dv_inj hd.reverse HZD.out.reverse (by rw [List.length_reverse, List.length_reverse, hl2, HZL.out]) (by rw [hl3, HZV.out])
        have := congrArg List.reverse h1
        simpa using this
      subst hll
      exact ⟨u, he, hl1, hb⟩
    have HRE : Hid (∀ W, FldAt (prm k) (plim k) W F → Calls Tryd.prog 17 #[.pointer (some ⟨F, 0, none⟩), W6 a0 a1 a2 a3 a4 a5] W (RetR (fun _ v => v = W6 m0 m1 m2 m3 m4 m5) W)) := fun W h => by
      refine (fReduce_c W HK.out h HLA.out).mono ?_
      rintro e w' ⟨s0, s1, s2, s3, s4, s5, he, ls, es, hb⟩
      obtain ⟨rfl, rfl, rfl, rfl, rfl, rfl⟩ := n6_parts ls HLM.out (es.trans HMV.out.symm)
      exact ⟨_, he, rfl, hb⟩
    refine wp_region_see 32 [92, 93, 94, 95, 96, 97, 98, 99, 100, 101, 102, 103, 104, 105, 106, 107, 108, 109, 110, 111, 112, 113, 114, 115, 116, 117, 118, 119, 120, 121, 122, 4] [(92, .is (.slice (some ⟨g, 0, none⟩) S S)), (93, .is (.int .i64 (S : Nat))), (94, .is (.pointer (some ⟨w1.heap.size, 1, none⟩))), (95, .is (.int .i64 (S : Nat))), (96, .is (.bool true)), (97, .is (.bool true)), (98, .is (.slice (some ⟨g, 0, none⟩) S S)), (99, .is (.string (sOf zs))), (100, .is (.agg #[.slice A1 n1 c1, .int .i64 (S : Nat)])), (101, .is (.pointer (some ⟨w.heap.size, 1, none⟩))), (102, .is (W6 a0 a1 a2 a3 a4 a5)), (103, .num (n6 a0 a1 a2 a3 a4 a5) 12), (104, .num (n6 a0 a1 a2 a3 a4 a5 % prm k) 12), (105, .is (.pointer (some ⟨w1.heap.size, 1, none⟩))), (106, .is (.int .i64 (S : Nat))), (107, .byt zs), (108, .is (.string (sOf zs))), (109, .is (.bool true)), (110, .is (.bool true)), (111, .is (.bool true)), (112, .is (.int .i64 0)), (113, .is (.bool true)), (114, .is (.bool true)), (115, .is (.bool true)), (116, .is (W6 m0 m1 m2 m3 m4 m5)), (117, .is (.pointer (some ⟨F, 0, none⟩))), (118, .is (.pointer (some ⟨w.heap.size, 1, none⟩))), (119, .is (W6 a0 a1 a2 a3 a4 a5)), (120, .is (W6 m0 m1 m2 m3 m4 m5)), (121, .is (.bool true)), (122, .is (.bool true)), (4, .is (.bool true))] (by kernel_rfl) (by kernel_rfl) (by rfl) ?_ ?_
    · refine seeOps_cons ?_ (seeOps_cons ?_ (seeOps_cons ?_ (seeOps_cons ?_ (seeOps_cons ?_ (seeOps_cons ?_ (seeOps_cons ?_ (seeOps_cons ?_ (seeOps_cons ?_ (seeOps_cons ?_ (seeOps_cons ?_ (seeOps_cons ?_ (seeOps_cons ?_ (seeOps_cons ?_ (seeOps_cons ?_ (seeOps_cons ?_ (seeOps_cons ?_ (seeOps_cons ?_ (seeOps_cons ?_ (seeOps_cons ?_ (seeOps_cons ?_ (seeOps_cons ?_ (seeOps_cons ?_ (seeOps_cons ?_ (seeOps_cons ?_ (seeOps_cons ?_ (seeOps_cons ?_ (seeOps_cons ?_ (seeOps_cons ?_ (seeOps_cons ?_ (seeOps_cons ?_ (seeOps_cons ?_ seeOps_nil)))))))))))))))))))))))))))))))
      · intro w9 hb9 fr hout hin
        have h12 : fr.tmps.getD 12 undef = .slice (some ⟨g, 0, none⟩) S S := hout 12 (by decide)
        clear hout hin
        exact relStep_move (.tmp 12) rfl (wanted_none rfl) (by show fr.tmps.getD 12 undef = _; rw [h12])
      · intro w9 hb9 fr hout hin
        have h92 : fr.tmps.getD 92 undef = .slice (some ⟨g, 0, none⟩) S S := hin 92 (by decide) (by decide)
        clear hout hin
        exact op_lenS (.tmp 92) rfl h92 (wanted_none rfl) rfl
      · intro w9 hb9 fr hout hin
        have h6 : fr.tmps.getD 6 undef = .pointer (some ⟨w1.heap.size, 0, none⟩) := hout 6 (by decide)
        clear hout hin
        exact op_faF (.tmp 6) rfl h6 (wanted_none rfl) rfl
      · intro w9 hb9 fr hout hin
        have h94 : fr.tmps.getD 94 undef = .pointer (some ⟨w1.heap.size, 1, none⟩) := hin 94 (by decide) (by decide)
        clear hout hin
        exact op_loadI1 (.tmp 94) rfl h94 ((hb9.cell (p := ⟨w1.heap.size, 1, none⟩) HSZ8.out.1).trans HR8.out.2) (wanted_none rfl) rfl
      · intro w9 hb9 fr hout hin
        have h93 : fr.tmps.getD 93 undef = .int .i64 (S : Nat) := hin 93 (by decide) (by decide)
        have h95 : fr.tmps.getD 95 undef = .int .i64 (S : Nat) := hin 95 (by decide) (by decide)
        clear hout hin
        exact op_eqI (.tmp 93) (.tmp 95) _ rfl h93 h95 (wanted_none rfl) rfl
      · intro w9 hb9 fr hout hin
        have h96 : fr.tmps.getD 96 undef = .bool true := hin 96 (by decide) (by decide)
        clear hout hin
        exact relStep_move (.tmp 96) rfl (wanted_none rfl) (by show fr.tmps.getD 96 undef = _; rw [h96])
      · intro w9 hb9 fr hout hin
        have h12 : fr.tmps.getD 12 undef = .slice (some ⟨g, 0, none⟩) S S := hout 12 (by decide)
        have h97 : fr.tmps.getD 97 undef = .bool true := hin 97 (by decide) (by decide)
        clear hout hin
        exact relStep_move (.tmp 12) rfl (wanted_some (g := 5) (t := 97) (b := true) rfl rfl h97) (by show fr.tmps.getD 12 undef = _; rw [h12])
      · intro w9 hb9 fr hout hin
        have h98 : fr.tmps.getD 98 undef = .slice (some ⟨g, 0, none⟩) S S := hin 98 (by decide) (by decide)
        have h97 : fr.tmps.getD 97 undef = .bool true := hin 97 (by decide) (by decide)
        clear hout hin
        exact op_str (bs := zs) (.tmp 98) rfl (by rw [show fr.eval (.tmp 98) = _ from h98]; exact HZB8.out.below hb9) (wanted_some (g := 5) (t := 97) (b := true) rfl rfl h97) rfl
      · intro w9 hb9 fr hout hin
        have h6 : fr.tmps.getD 6 undef = .pointer (some ⟨w1.heap.size, 0, none⟩) := hout 6 (by decide)
        have h97 : fr.tmps.getD 97 undef = .bool true := hin 97 (by decide) (by decide)
        clear hout hin
        exact op_loadF (.tmp 6) rfl h6 ⟨(hb9.cell (p := ⟨w1.heap.size, 0, none⟩) HSZ8.out.1).trans HR8.out.1, (hb9.cell (p := ⟨w1.heap.size, 1, none⟩) HSZ8.out.1).trans HR8.out.2⟩ (wanted_some (g := 5) (t := 97) (b := true) rfl rfl h97) rfl
      · intro w9 hb9 fr hout hin
        have h2 : fr.tmps.getD 2 undef = .pointer (some ⟨w.heap.size, 0, none⟩) := hout 2 (by decide)
        have h97 : fr.tmps.getD 97 undef = .bool true := hin 97 (by decide) (by decide)
        clear hout hin
        exact op_faA (.tmp 2) rfl h2 (wanted_some (g := 5) (t := 97) (b := true) rfl rfl h97) rfl
      · intro w9 hb9 fr hout hin
        have h101 : fr.tmps.getD 101 undef = .pointer (some ⟨w.heap.size, 1, none⟩) := hin 101 (by decide) (by decide)
        have h97 : fr.tmps.getD 97 undef = .bool true := hin 97 (by decide) (by decide)
        clear hout hin
        exact op_load6 (.tmp 101) rfl h101 (HA8.out.keepB (hb9.block w.heap.size HSZ8.out.2.1)) (wanted_some (g := 5) (t := 97) (b := true) rfl rfl h97) rfl
      · intro w9 hb9 fr hout hin
        have h102 : fr.tmps.getD 102 undef = W6 a0 a1 a2 a3 a4 a5 := hin 102 (by decide) (by decide)
        have h97 : fr.tmps.getD 97 undef = .bool true := hin 97 (by decide) (by decide)
        clear hout hin
        exact op_call1 (.tmp 102) rfl en_rN (wanted_some (g := 5) (t := 97) (b := true) rfl rfl h97) (by rw [show fr.eval (.tmp 102) = _ from h102]; exact rN_c w9 HLA.out) (fun _ _ h => h)
      · intro w9 hb9 fr hout hin
        have h100 : fr.tmps.getD 100 undef = .agg #[.slice A1 n1 c1, .int .i64 (S : Nat)] := hin 100 (by decide) (by decide)
        have h103 : Num w9 (fr.tmps.getD 103 undef) (n6 a0 a1 a2 a3 a4 a5) 12 := hin 103 (by decide) (by decide)
        have h97 : fr.tmps.getD 97 undef = .bool true := hin 97 (by decide) (by decide)
        clear hout hin
        exact op_callB (.tmp 100) (.tmp 103) rfl en_rRed (wanted_some (g := 5) (t := 97) (b := true) rfl rfl h97) (by rw [show fr.eval (.tmp 100) = _ from h100]; exact rRed_c w9 (S : Nat) h103 (HN8.out.below hb9) (by omega) (by omega) (by have := HK.out.pos; omega)) (fun _ _ h => h)
      · intro w9 hb9 fr hout hin
        have h6 : fr.tmps.getD 6 undef = .pointer (some ⟨w1.heap.size, 0, none⟩) := hout 6 (by decide)
        have h97 : fr.tmps.getD 97 undef = .bool true := hin 97 (by decide) (by decide)
        clear hout hin
        exact op_faF (.tmp 6) rfl h6 (wanted_some (g := 5) (t := 97) (b := true) rfl rfl h97) rfl
      · intro w9 hb9 fr hout hin
        have h105 : fr.tmps.getD 105 undef = .pointer (some ⟨w1.heap.size, 1, none⟩) := hin 105 (by decide) (by decide)
        have h97 : fr.tmps.getD 97 undef = .bool true := hin 97 (by decide) (by decide)
        clear hout hin
        exact op_loadI1 (.tmp 105) rfl h105 ((hb9.cell (p := ⟨w1.heap.size, 1, none⟩) HSZ8.out.1).trans HR8.out.2) (wanted_some (g := 5) (t := 97) (b := true) rfl rfl h97) rfl
      · intro w9 hb9 fr hout hin
        have h104 : Num w9 (fr.tmps.getD 104 undef) (n6 a0 a1 a2 a3 a4 a5 % prm k) 12 := hin 104 (by decide) (by decide)
        have h106 : fr.tmps.getD 106 undef = .int .i64 (S : Nat) := hin 106 (by decide) (by decide)
        have h97 : fr.tmps.getD 97 undef = .bool true := hin 97 (by decide) (by decide)
        clear hout hin
        exact op_callB (.tmp 104) (.tmp 106) rfl en_rFill (wanted_some (g := 5) (t := 97) (b := true) rfl rfl h97) (by rw [show fr.eval (.tmp 106) = _ from h106]; exact HFI.out w9 _ h104) (fun _ _ h => h)
      · intro w9 hb9 fr hout hin
        have h107 : Byt w9 (fr.tmps.getD 107 undef) zs := hin 107 (by decide) (by decide)
        have h97 : fr.tmps.getD 97 undef = .bool true := hin 97 (by decide) (by decide)
        clear hout hin
        exact op_str (bs := zs) (.tmp 107) rfl h107 (wanted_some (g := 5) (t := 97) (b := true) rfl rfl h97) rfl
      · intro w9 hb9 fr hout hin
        have h99 : fr.tmps.getD 99 undef = .string (sOf zs) := hin 99 (by decide) (by decide)
        have h108 : fr.tmps.getD 108 undef = .string (sOf zs) := hin 108 (by decide) (by decide)
        have h97 : fr.tmps.getD 97 undef = .bool true := hin 97 (by decide) (by decide)
        clear hout hin
        exact op_eqS (.tmp 99) (.tmp 108) _ rfl h99 h108 (wanted_some (g := 5) (t := 97) (b := true) rfl rfl h97) rfl
      · intro w9 hb9 fr hout hin
        have h97 : fr.tmps.getD 97 undef = .bool true := hin 97 (by decide) (by decide)
        have h109 : fr.tmps.getD 109 undef = .bool true := hin 109 (by decide) (by decide)
        clear hout hin
        exact relStep_pick (.tmp 97) (.tmp 109) (.const (.bool false)) rfl h97 (wanted_none rfl) (by show fr.tmps.getD 109 undef = _; rw [h109])
      · intro w9 hb9 fr hout hin
        have h110 : fr.tmps.getD 110 undef = .bool true := hin 110 (by decide) (by decide)
        clear hout hin
        exact relStep_move (.tmp 110) rfl (wanted_none rfl) (by show fr.tmps.getD 110 undef = _; rw [h110])
      · intro w9 hb9 fr hout hin
        have h14 : fr.tmps.getD 14 undef = .int .i64 0 := hout 14 (by decide)
        have h111 : fr.tmps.getD 111 undef = .bool true := hin 111 (by decide) (by decide)
        clear hout hin
        exact relStep_move (.tmp 14) rfl (wanted_some (g := 19) (t := 111) (b := true) rfl rfl h111) (by show fr.tmps.getD 14 undef = _; rw [h14])
      · intro w9 hb9 fr hout hin
        have h112 : fr.tmps.getD 112 undef = .int .i64 0 := hin 112 (by decide) (by decide)
        have h111 : fr.tmps.getD 111 undef = .bool true := hin 111 (by decide) (by decide)
        clear hout hin
        exact op_eqE (.tmp 112) (.const (.int .i64 0)) _ rfl h112 rfl (wanted_some (g := 19) (t := 111) (b := true) rfl rfl h111) rfl
      · intro w9 hb9 fr hout hin
        have h111 : fr.tmps.getD 111 undef = .bool true := hin 111 (by decide) (by decide)
        have h113 : fr.tmps.getD 113 undef = .bool true := hin 113 (by decide) (by decide)
        clear hout hin
        exact relStep_pick (.tmp 111) (.tmp 113) (.const (.bool false)) rfl h111 (wanted_none rfl) (by show fr.tmps.getD 113 undef = _; rw [h113])
      · intro w9 hb9 fr hout hin
        have h114 : fr.tmps.getD 114 undef = .bool true := hin 114 (by decide) (by decide)
        clear hout hin
        exact relStep_move (.tmp 114) rfl (wanted_none rfl) (by show fr.tmps.getD 114 undef = _; rw [h114])
      · intro w9 hb9 fr hout hin
        have h13 : fr.tmps.getD 13 undef = .pointer (some ⟨w7.heap.size, 0, none⟩) := hout 13 (by decide)
        have h115 : fr.tmps.getD 115 undef = .bool true := hin 115 (by decide) (by decide)
        clear hout hin
        exact op_load6 (.tmp 13) rfl h13 (HM8.out.keepB (hb9.block w7.heap.size HSZ8.out.2.2)) (wanted_some (g := 23) (t := 115) (b := true) rfl rfl h115) rfl
      · intro w9 hb9 fr hout hin
        have h5 : fr.tmps.getD 5 undef = .pointer (some ⟨F, 0, none⟩) := hout 5 (by decide)
        have h115 : fr.tmps.getD 115 undef = .bool true := hin 115 (by decide) (by decide)
        clear hout hin
        exact relStep_move (.tmp 5) rfl (wanted_some (g := 23) (t := 115) (b := true) rfl rfl h115) (by show fr.tmps.getD 5 undef = _; rw [h5])
      · intro w9 hb9 fr hout hin
        have h2 : fr.tmps.getD 2 undef = .pointer (some ⟨w.heap.size, 0, none⟩) := hout 2 (by decide)
        have h115 : fr.tmps.getD 115 undef = .bool true := hin 115 (by decide) (by decide)
        clear hout hin
        exact op_faA (.tmp 2) rfl h2 (wanted_some (g := 23) (t := 115) (b := true) rfl rfl h115) rfl
      · intro w9 hb9 fr hout hin
        have h118 : fr.tmps.getD 118 undef = .pointer (some ⟨w.heap.size, 1, none⟩) := hin 118 (by decide) (by decide)
        have h115 : fr.tmps.getD 115 undef = .bool true := hin 115 (by decide) (by decide)
        clear hout hin
        exact op_load6 (.tmp 118) rfl h118 (HA8.out.keepB (hb9.block w.heap.size HSZ8.out.2.1)) (wanted_some (g := 23) (t := 115) (b := true) rfl rfl h115) rfl
      · intro w9 hb9 fr hout hin
        have h117 : fr.tmps.getD 117 undef = .pointer (some ⟨F, 0, none⟩) := hin 117 (by decide) (by decide)
        have h119 : fr.tmps.getD 119 undef = W6 a0 a1 a2 a3 a4 a5 := hin 119 (by decide) (by decide)
        have h115 : fr.tmps.getD 115 undef = .bool true := hin 115 (by decide) (by decide)
        clear hout hin
        exact op_callB (.tmp 117) (.tmp 119) rfl en_fReduce (wanted_some (g := 23) (t := 115) (b := true) rfl rfl h115) (by rw [show fr.eval (.tmp 117) = _ from h117, show fr.eval (.tmp 119) = _ from h119]; exact HRE.out w9 (HF8.out.below hb9 HF8.out.lt)) (fun _ _ h => h)
      · intro w9 hb9 fr hout hin
        have h116 : fr.tmps.getD 116 undef = W6 m0 m1 m2 m3 m4 m5 := hin 116 (by decide) (by decide)
        have h120 : fr.tmps.getD 120 undef = W6 m0 m1 m2 m3 m4 m5 := hin 120 (by decide) (by decide)
        have h115 : fr.tmps.getD 115 undef = .bool true := hin 115 (by decide) (by decide)
        clear hout hin
        exact op_eqN6 (.tmp 116) (.tmp 120) _ rfl h116 h120 (wanted_some (g := 23) (t := 115) (b := true) rfl rfl h115) rfl
      · intro w9 hb9 fr hout hin
        have h115 : fr.tmps.getD 115 undef = .bool true := hin 115 (by decide) (by decide)
        have h121 : fr.tmps.getD 121 undef = .bool true := hin 121 (by decide) (by decide)
        clear hout hin
        exact relStep_pick (.tmp 115) (.tmp 121) (.const (.bool false)) rfl h115 (wanted_none rfl) (by show fr.tmps.getD 121 undef = _; rw [h121])
      · intro w9 hb9 fr hout hin
        have h122 : fr.tmps.getD 122 undef = .bool true := hin 122 (by decide) (by decide)
        clear hout hin
        exact relStep_assign (.tmp 122) rfl (wanted_none rfl) (by show fr.tmps.getD 122 undef = _; rw [h122])
    intro w9 hb9
    have HB9 := Lib.hid (HW8.out.trans (hb9.mono HW8.out.size))
    refine relAsk_in (by rfl) ?_
    intro v92 h92
    obtain rfl : v92 = .slice (some ⟨g, 0, none⟩) S S := h92
    refine relAsk_in (by rfl) ?_
    intro v93 h93
    obtain rfl : v93 = .int .i64 (S : Nat) := h93
    refine relAsk_in (by rfl) ?_
    intro v94 h94
    obtain rfl : v94 = .pointer (some ⟨w1.heap.size, 1, none⟩) := h94
    refine relAsk_in (by rfl) ?_
    intro v95 h95
    obtain rfl : v95 = .int .i64 (S : Nat) := h95
    refine relAsk_in (by rfl) ?_
    intro v96 h96
    obtain rfl : v96 = .bool true := h96
    refine relAsk_in (by rfl) ?_
    intro v97 h97
    obtain rfl : v97 = .bool true := h97
    refine relAsk_in (by rfl) ?_
    intro v98 h98
    obtain rfl : v98 = .slice (some ⟨g, 0, none⟩) S S := h98
    refine relAsk_in (by rfl) ?_
    intro v99 h99
    obtain rfl : v99 = .string (sOf zs) := h99
    refine relAsk_in (by rfl) ?_
    intro v100 h100
    obtain rfl : v100 = .agg #[.slice A1 n1 c1, .int .i64 (S : Nat)] := h100
    refine relAsk_in (by rfl) ?_
    intro v101 h101
    obtain rfl : v101 = .pointer (some ⟨w.heap.size, 1, none⟩) := h101
    refine relAsk_in (by rfl) ?_
    intro v102 h102
    obtain rfl : v102 = W6 a0 a1 a2 a3 a4 a5 := h102
    refine relAsk_in (by rfl) ?_
    intro v103 h103
    refine relAsk_in (by rfl) ?_
    intro v104 h104
    refine relAsk_in (by rfl) ?_
    intro v105 h105
    obtain rfl : v105 = .pointer (some ⟨w1.heap.size, 1, none⟩) := h105
    refine relAsk_in (by rfl) ?_
    intro v106 h106
    obtain rfl : v106 = .int .i64 (S : Nat) := h106
    refine relAsk_in (by rfl) ?_
    intro v107 h107
    refine relAsk_in (by rfl) ?_
    intro v108 h108
    obtain rfl : v108 = .string (sOf zs) := h108
    refine relAsk_in (by rfl) ?_
    intro v109 h109
    obtain rfl : v109 = .bool true := h109
    refine relAsk_in (by rfl) ?_
    intro v110 h110
    obtain rfl : v110 = .bool true := h110
    refine relAsk_in (by rfl) ?_
    intro v111 h111
    obtain rfl : v111 = .bool true := h111
    refine relAsk_in (by rfl) ?_
    intro v112 h112
    obtain rfl : v112 = .int .i64 0 := h112
    refine relAsk_in (by rfl) ?_
    intro v113 h113
    obtain rfl : v113 = .bool true := h113
    refine relAsk_in (by rfl) ?_
    intro v114 h114
    obtain rfl : v114 = .bool true := h114
    refine relAsk_in (by rfl) ?_
    intro v115 h115
    obtain rfl : v115 = .bool true := h115
    refine relAsk_in (by rfl) ?_
    intro v116 h116
    obtain rfl : v116 = W6 m0 m1 m2 m3 m4 m5 := h116
    refine relAsk_in (by rfl) ?_
    intro v117 h117
    obtain rfl : v117 = .pointer (some ⟨F, 0, none⟩) := h117
    refine relAsk_in (by rfl) ?_
    intro v118 h118
    obtain rfl : v118 = .pointer (some ⟨w.heap.size, 1, none⟩) := h118
    refine relAsk_in (by rfl) ?_
    intro v119 h119
    obtain rfl : v119 = W6 a0 a1 a2 a3 a4 a5 := h119
    refine relAsk_in (by rfl) ?_
    intro v120 h120
    obtain rfl : v120 = W6 m0 m1 m2 m3 m4 m5 := h120
    refine relAsk_in (by rfl) ?_
    intro v121 h121
    obtain rfl : v121 = .bool true := h121
    refine relAsk_in (by rfl) ?_
    intro v122 h122
    obtain rfl : v122 = .bool true := h122
    refine relAsk_in (by rfl) ?_
    intro v4 h4
    obtain rfl : v4 = .bool true := h4
    refine relAsk_nil ?_
    refine wpList_nil ?_
    go_simp
    go_wp2_with fail
    go_ret
    exact ⟨rfl, HB9.out⟩
end Go.Proofs.YtghnhgdnfmglpaaDoor
