/- Package field's times. -/
import Derived.Test.YteaafnjflghlhaaDoorFlTimesMath
namespace Go.Proofs.YteaafnjflghlhaaDoor
open Go.RowKit

/-- A sum's highest limb does not run over. -/
theorem mont_top {S d B P t0 t1 t2 t3 t4 t5 x : Nat} (hS : S < B + P) (hd : Lim d) (hb : B < P) (hp : 2 * P ≤ 39402006196394479212279040100143613805079739270465446667948293404245721771497210611414266254884915640806627990306816) (e : t0 + 18446744073709551616 * n6 t1 t2 t3 t4 t5 x = d * B + S) : Lim x := by
  unfold Lim at hd ⊢
  have h1 : d * B ≤ 18446744073709551615 * B := Nat.mul_le_mul_right B (by omega)
  generalize d * B = X at *
  unfold n6 at e
  omega
theorem n6_digit {a0 a1 a2 a3 a4 a5 : Nat} (h : Lim6 a0 a1 a2 a3 a4 a5) (k : Nat) (hk : k < 6) : [a0, a1, a2, a3, a4, a5].getD k 0 = n6 a0 a1 a2 a3 a4 a5 / 18446744073709551616 ^ k % 18446744073709551616 := by
  obtain ⟨h0, h1, h2, h3, h4, h5⟩ := h
  unfold Lim at h0 h1 h2 h3 h4 h5
  unfold n6
  rcases (show k = 0 ∨ k = 1 ∨ k = 2 ∨ k = 3 ∨ k = 4 ∨ k = 5 by omega) with rfl | rfl | rfl | rfl | rfl | rfl <;> simp <;> omega

theorem Turn.put0 {g q : Nat} {z : Value} {w : World} (h : w.cell? ⟨g, q, none⟩ = some z) (v : Value) : Turn g q v w (w.setCell ⟨g, q, none⟩ v) :=
  ⟨rfl, rfl, rfl, by simp [World.setCell], fun k hk => Below.heap_setCell w ⟨g, q, none⟩ v k hk, fun a ha => World.cell?_setCell_other w _ a v (fun e => ha (by rw [← e])), World.cell?_setCell_same w _ v h, fun r hr => World.cell?_setCell_other w _ _ v (fun e => hr (by simpa using e.symm)), fun r => World.frozen?_setCell w _ _ v⟩
/-- Six cells are put one after another. -/
theorem put_six {g o z0 z1 z2 z3 z4 z5 : Nat} {X : World} (hz : L6 X g o z0 z1 z2 z3 z4 z5) (s0 s1 s2 s3 s4 s5 : Nat) :
    Put6 g o X ((((((X.setCell ⟨g, o, none⟩ (.int .u64 (s0 : Nat))).setCell ⟨g, o + 1, none⟩ (.int .u64 (s1 : Nat))).setCell ⟨g, o + 2, none⟩ (.int .u64 (s2 : Nat))).setCell ⟨g, o + 3, none⟩ (.int .u64 (s3 : Nat))).setCell ⟨g, o + 4, none⟩ (.int .u64 (s4 : Nat))).setCell ⟨g, o + 5, none⟩ (.int .u64 (s5 : Nat))).drew ∧
    L6 ((((((X.setCell ⟨g, o, none⟩ (.int .u64 (s0 : Nat))).setCell ⟨g, o + 1, none⟩ (.int .u64 (s1 : Nat))).setCell ⟨g, o + 2, none⟩ (.int .u64 (s2 : Nat))).setCell ⟨g, o + 3, none⟩ (.int .u64 (s3 : Nat))).setCell ⟨g, o + 4, none⟩ (.int .u64 (s4 : Nat))).setCell ⟨g, o + 5, none⟩ (.int .u64 (s5 : Nat))).drew g o s0 s1 s2 s3 s4 s5 := by
  have T0 : Turn g (o + 0) _ _ _ := Turn.put0 (hz.c0) (.int .u64 (s0 : Nat))
  have T1 : Turn g (o + 1) _ _ _ := Turn.put0 ((T0.other (k := 1) (by omega)).trans (hz.c1)) (.int .u64 (s1 : Nat))
  have T2 : Turn g (o + 2) _ _ _ := Turn.put0 ((T1.other (k := 2) (by omega)).trans ((T0.other (k := 2) (by omega)).trans (hz.c2))) (.int .u64 (s2 : Nat))
  have T3 : Turn g (o + 3) _ _ _ := Turn.put0 ((T2.other (k := 3) (by omega)).trans ((T1.other (k := 3) (by omega)).trans ((T0.other (k := 3) (by omega)).trans (hz.c3)))) (.int .u64 (s3 : Nat))
  have T4 : Turn g (o + 4) _ _ _ := Turn.put0 ((T3.other (k := 4) (by omega)).trans ((T2.other (k := 4) (by omega)).trans ((T1.other (k := 4) (by omega)).trans ((T0.other (k := 4) (by omega)).trans (hz.c4))))) (.int .u64 (s4 : Nat))
  have T5 : Turn g (o + 5) _ _ _ := Turn.put ((T4.other (k := 5) (by omega)).trans ((T3.other (k := 5) (by omega)).trans ((T2.other (k := 5) (by omega)).trans ((T1.other (k := 5) (by omega)).trans ((T0.other (k := 5) (by omega)).trans (hz.c5)))))) (.int .u64 (s5 : Nat))
  exact ⟨((((((Put6.refl g o X).turn T0 (by omega)).turn T1 (by omega)).turn T2 (by omega)).turn T3 (by omega)).turn T4 (by omega)).turn T5 (by omega), ⟨(T5.other (k := 0) (by omega)).trans ((T4.other (k := 0) (by omega)).trans ((T3.other (k := 0) (by omega)).trans ((T2.other (k := 0) (by omega)).trans ((T1.other (k := 0) (by omega)).trans (T0.at_))))), (T5.other (k := 1) (by omega)).trans ((T4.other (k := 1) (by omega)).trans ((T3.other (k := 1) (by omega)).trans ((T2.other (k := 1) (by omega)).trans (T1.at_)))), (T5.other (k := 2) (by omega)).trans ((T4.other (k := 2) (by omega)).trans ((T3.other (k := 2) (by omega)).trans (T2.at_))), (T5.other (k := 3) (by omega)).trans ((T4.other (k := 3) (by omega)).trans (T3.at_)), (T5.other (k := 4) (by omega)).trans (T4.at_), T5.at_⟩⟩

set_option maxRecDepth 100000 in
set_option maxHeartbeats 6400000 in
theorem ftimes_c {B O g o f p h q L inv p0 p1 p2 p3 p4 p5 a0 a1 a2 a3 a4 a5 b0 b1 b2 b3 b4 b5 : Nat} (w : World) (hp : L6 w B O p0 p1 p2 p3 p4 p5) (lp : Lim6 p0 p1 p2 p3 p4 p5) (hL : w.cell? ⟨B, O + 6, none⟩ = some (.int .i64 (L : Nat))) (hv : w.cell? ⟨B, O + 7, none⟩ = some (.int .u64 (inv : Nat))) (hL6 : L ≤ 6)
    (ha : L6 w f p a0 a1 a2 a3 a4 a5) (la : Lim6 a0 a1 a2 a3 a4 a5) (hb : L6 w h q b0 b1 b2 b3 b4 b5) (lb : Lim6 b0 b1 b2 b3 b4 b5)
    (hz : ∃ z0 z1 z2 z3 z4 z5, L6 w g o z0 z1 z2 z3 z4 z5) (hf : ∀ k, w.frozen? ⟨g, k, none⟩ = false) (hn : g ≠ B)
    (bb : n6 b0 b1 b2 b3 b4 b5 < n6 p0 p1 p2 p3 p4 p5) (bp : 2 * n6 p0 p1 p2 p3 p4 p5 ≤ 39402006196394479212279040100143613805079739270465446667948293404245721771497210611414266254884915640806627990306816) (hi : (n6 p0 p1 p2 p3 p4 p5 * inv + 1) % 18446744073709551616 = 0) :
    Calls Tryd.prog 33 #[.pointer (some ⟨B, O, none⟩), .pointer (some ⟨g, o, none⟩), .pointer (some ⟨f, p, none⟩), .pointer (some ⟨h, q, none⟩)] w fun e w' => e = .returned (.tuple #[]) ∧ Put6 g o w w' ∧
      ∃ s0 s1 s2 s3 s4 s5 S, L6 w' g o s0 s1 s2 s3 s4 s5 ∧ Lim6 s0 s1 s2 s3 s4 s5 ∧ MontInv (n6 a0 a1 a2 a3 a4 a5) (n6 b0 b1 b2 b3 b4 b5) (n6 p0 p1 p2 p3 p4 p5) L S ∧ LowR S (n6 p0 p1 p2 p3 p4 p5) (n6 s0 s1 s2 s3 s4 s5) := by
  obtain ⟨P, hP⟩ : ∃ P, P = n6 p0 p1 p2 p3 p4 p5 := ⟨_, rfl⟩
  obtain ⟨A, hA⟩ : ∃ A, A = n6 a0 a1 a2 a3 a4 a5 := ⟨_, rfl⟩
  obtain ⟨Bn, hB⟩ : ∃ Bn, Bn = n6 b0 b1 b2 b3 b4 b5 := ⟨_, rfl⟩
  rw [← hP, ← hB] at bb
  rw [← hP] at bp hi
  rw [← hP, ← hA, ← hB]
  obtain ⟨xs, has⟩ : ∃ xs, xs = [a0, a1, a2, a3, a4, a5] := ⟨_, rfl⟩
  have HHP := Lib.hid hp
  have HLP := Lib.hid lp
  have HHA := Lib.hid ha
  have HLA := Lib.hid la
  have HHB := Lib.hid hb
  have HLB := Lib.hid lb
  have HZ := Lib.hid hz
  have HF := Lib.hid hf
  have HBB := Lib.hid bb
  have HBP := Lib.hid bp
  have HI := Lib.hid hi
  have HP := Lib.hid hP
  have HA := Lib.hid hA
  have HB := Lib.hid hB
  have HAS := Lib.hid has
  have CL1 : Hid (∀ (d n : Nat), Lim d → Calls Tryd.prog 58 #[.int .u64 (d : Nat), .pointer (some ⟨h, q, none⟩)] (w.drewN n) (LineR d Bn (w.drewN n))) := fun d n hd => by rw [HB.out]; exact line_c _ hd (HHB.out.drewN n) HLB.out
  have CL2 : Hid (∀ (d n : Nat), Lim d → Calls Tryd.prog 58 #[.int .u64 (d : Nat), .pointer (some ⟨B, O, none⟩)] (w.drewN n) (LineR d P (w.drewN n))) := fun d n hd => by rw [HP.out]; exact line_c _ hd (HHP.out.drewN n) HLP.out
  have hL6i : (L : Int) ≤ 6 := by omega
  have CL3 : Hid (∀ (d n : Nat), Lim d → Calls Tryd.prog 58 #[.int .u64 (d : Nat), .pointer (some ⟨B, O, none⟩)] (w.drewN n).drew (LineR d P (w.drewN n).drew)) := fun d n hd => by rw [HP.out]; exact line_c _ hd (HHP.out.keep (fun _ _ => rfl)) HLP.out
  have lz0 : Lim 0 := by unfold Lim; omega
  clear hp lp ha la hb lb hz hf bb bp hi hP hA hB has
  go_enter Tryd.func33, Tryd.ntmps33
  go_upto_region 1 with (fail)
  go_quiet (fail)
  go_simp
  go_upto_region 2 with (fail)
  go_loopw [39, 8, 9, 10, 11, 12, 13] (fun i v0 v1 v2 v3 v4 v5 wr => ∃ (m n s0 s1 s2 s3 s4 s5 : Nat), m ≤ L ∧ i = .int .i64 (m : Int) ∧ v0 = .int .u64 (s0 : Nat) ∧ v1 = .int .u64 (s1 : Nat) ∧ v2 = .int .u64 (s2 : Nat) ∧ v3 = .int .u64 (s3 : Nat) ∧ v4 = .int .u64 (s4 : Nat) ∧ v5 = .int .u64 (s5 : Nat) ∧ Hid (Lim6 s0 s1 s2 s3 s4 s5) ∧ Hid (MontInv A Bn P m (n6 s0 s1 s2 s3 s4 s5)) ∧ wr = w.drewN n)
    (fun i _ _ _ _ _ _ _ => (L - intOf i).toNat)
  case atStart =>
    refine ⟨0, _, 0, 0, 0, 0, 0, 0, by omega, rfl, rfl, rfl, rfl, rfl, rfl, rfl, (show Lim6 0 0 0 0 0 0 from ⟨lz0, lz0, lz0, lz0, lz0, lz0⟩), (show MontInv A Bn P 0 (n6 0 0 0 0 0 0) from MontInv.zero (by have := HBB.out; omega)), rfl⟩
  case round =>
    obtain ⟨m, n, s0, s1, s2, s3, s4, s5, hm, rfl, rfl, rfl, rfl, rfl, rfl, rfl, HLS, HIN, rfl⟩ := hrel
    by_cases hlt : (m : Int) < (L : Int)
    · have hm6 : m < 6 := by omega
      have hm6i : (m : Int) < 6 := by omega
      have hm0 : (0 : Int) ≤ (m : Int) := by omega
      obtain ⟨d, ed⟩ : ∃ d, d = xs.getD m 0 := ⟨_, rfl⟩
      have cx : w.cell? ⟨f, p + m, none⟩ = some (.int .u64 (d : Nat)) := by rw [ed, HAS.out]; exact HHA.out.at_ m hm6
      have ed2 : d = A / 18446744073709551616 ^ m % 18446744073709551616 := by rw [ed, HAS.out, HA.out]; exact n6_digit HLA.out m hm6
      have ld : Lim d := by rw [ed2]; exact Nat.mod_lt _ (by omega)
      have HED := Lib.hid ed2
      have HLD := Lib.hid ld
      have HM := Lib.hid hm6
      clear ed ed2 ld
      have em : IntKind.i64.wrap ((m : Int) + 1) = ((m + 1 : Nat) : Int) := by rw [IntWalk.i64_in _ (by omega)]; simp
      go_wp2_with fail
      (with_reducible refine (CL1.out d n HLD.out).mono ?_)
      rintro e w1 ⟨l0, l1, l2, l3, l4, l5, l6, rfl, ll0, ll1, ll2, ll3, ll4, ll5, ll6, hl, rfl⟩
      have HL1 := Lib.hid hl
      clear hl cx hm6 hm6i hm0
      go_wp2_with fail
      refine upon_add0 _ _ _ ll0 HLS.out.1 ?_
      intro t0 k0 T0 hk0 lt0
      have B0 := Lib.hid T0
      clear T0
      go_wp2_with fail
      refine upon_add _ _ _ hk0 _ ll1 HLS.out.2.1 ?_
      intro t1 k1 T1 hk1 lt1
      have B1 := Lib.hid T1
      clear T1
      go_wp2_with fail
      refine upon_add _ _ _ hk1 _ ll2 HLS.out.2.2.1 ?_
      intro t2 k2 T2 hk2 lt2
      have B2 := Lib.hid T2
      clear T2
      go_wp2_with fail
      refine upon_add _ _ _ hk2 _ ll3 HLS.out.2.2.2.1 ?_
      intro t3 k3 T3 hk3 lt3
      have B3 := Lib.hid T3
      clear T3
      go_wp2_with fail
      refine upon_add _ _ _ hk3 _ ll4 HLS.out.2.2.2.2.1 ?_
      intro t4 k4 T4 hk4 lt4
      have B4 := Lib.hid T4
      clear T4
      go_wp2_with fail
      refine upon_add _ _ _ hk4 _ ll5 HLS.out.2.2.2.2.2 ?_
      intro t5 k5 T5 hk5 lt5
      have B5 := Lib.hid T5
      clear T5
      have HT := Lib.hid (mont_row (l6 := l6) B0.out B1.out B2.out B3.out B4.out B5.out)
      rw [HL1.out] at HT
      obtain ⟨t6, et6⟩ : ∃ t6, t6 = l6 + k5 := ⟨_, rfl⟩
      have lt6 : Lim t6 := by rw [et6]; exact mont_top HIN.out.1 HLD.out HBB.out HBP.out HT.out
      have hw : IntKind.u64.wrap ((l6 : Int) + (k5 : Int)) = (t6 : Int) := by rw [addN, wrapN _ (by rw [← et6]; exact lt6), et6]
      obtain ⟨c, ec⟩ : ∃ c, c = t0 * inv % 18446744073709551616 := ⟨_, rfl⟩
      have lc : Lim c := by rw [ec]; exact Nat.mod_lt _ (by omega)
      have hc : IntKind.u64.wrap ((t0 : Int) * (inv : Int)) = (c : Int) := by
        have e : ((t0 : Int) * (inv : Int)) = ((t0 * inv : Nat) : Int) := by simp
        rw [e, wrapU, ec]
      have HEC := Lib.hid ec
      have HET := Lib.hid et6
      have HLT := Lib.hid lt6
      clear ec et6 lt6 ll0 ll1 ll2 ll3 ll4 ll5 lt1 lt2 lt3 lt4 lt5
      have lt1 := Lib.hid (show Lim t1 from B1.out.2.1)
      have lt2 := Lib.hid (show Lim t2 from B2.out.2.1)
      have lt3 := Lib.hid (show Lim t3 from B3.out.2.1)
      have lt4 := Lib.hid (show Lim t4 from B4.out.2.1)
      have lt5 := Lib.hid (show Lim t5 from B5.out.2.1)
      go_upto_region 12 with (fail)
      go_region_with (refine (CL3.out c n lc).mono ?_; rintro e w1 ⟨q0, q1, q2, q3, q4, q5, q6, rfl, lq0, lq1, lq2, lq3, lq4, lq5, lq6, hq, rfl⟩)
      go_simp
      have HQ := Lib.hid hq
      clear hq
      go_wp2_with fail
      refine upon_add0 _ _ _ lt0 lq0 ?_
      intro z h0 T0 hh0 lr0
      have D0 := Lib.hid T0
      clear T0
      go_wp2_with fail
      refine upon_add _ _ _ hh0 _ lt1.out lq1 ?_
      intro r0 h1 T1 hh1 lr1
      have D1 := Lib.hid T1
      clear T1
      go_wp2_with fail
      refine upon_add _ _ _ hh1 _ lt2.out lq2 ?_
      intro r1 h2 T2 hh2 lr2
      have D2 := Lib.hid T2
      clear T2
      go_wp2_with fail
      refine upon_add _ _ _ hh2 _ lt3.out lq3 ?_
      intro r2 h3 T3 hh3 lr3
      have D3 := Lib.hid T3
      clear T3
      go_wp2_with fail
      refine upon_add _ _ _ hh3 _ lt4.out lq4 ?_
      intro r3 h4 T4 hh4 lr4
      have D4 := Lib.hid T4
      clear T4
      go_wp2_with fail
      refine upon_add _ _ _ hh4 _ lt5.out lq5 ?_
      intro r4 h5 T5 hh5 lr5
      have D5 := Lib.hid T5
      clear T5
      have HQ2 := HQ
      rw [HEC.out] at HQ2
      have HN := Lib.hid (mont_round HIN.out HED.out HI.out rfl HL1.out B0.out B1.out B2.out B3.out B4.out B5.out HQ2.out D0.out D1.out D2.out D3.out D4.out D5.out)
      obtain ⟨r5, er5⟩ : ∃ r5, r5 = l6 + k5 + q6 + h5 := ⟨_, rfl⟩
      rw [← er5] at HN
      have lr : Lim r5 := mont_high HN.out.1 HBB.out HBP.out rfl
      have HLR : Hid (Lim6 r0 r1 r2 r3 r4 r5) := ⟨D1.out.2.1, D2.out.2.1, D3.out.2.1, D4.out.2.1, D5.out.2.1, lr⟩
      obtain ⟨u, eu⟩ : ∃ u, u = t6 + q6 := ⟨_, rfl⟩
      have e5 : r5 = u + h5 := by rw [er5, eu, HET.out]
      have hu : IntKind.u64.wrap ((t6 : Int) + (q6 : Int)) = (u : Int) := by rw [addN, wrapN _ (by rw [← eu]; unfold Lim at lr; omega), eu]
      have hr : IntKind.u64.wrap ((u : Int) + (h5 : Int)) = (r5 : Int) := by rw [addN, wrapN _ (by rw [← e5]; exact lr), e5]
      clear er5 eu e5 lr HQ2
      go_wp2_with fail
      exact ⟨⟨m + 1, _, r0, r1, r2, r3, r4, r5, by omega, rfl, rfl, rfl, rfl, rfl, rfl, rfl, HLR, HN, rfl⟩, by simp [intOf] <;> omega⟩
    · clear hL hv
      obtain rfl : m = L := by omega
      obtain ⟨z0, z1, z2, z3, z4, z5, hz⟩ := HZ.out
      have c0 : (w.drewN n).cell? ⟨g, o, none⟩ = some (.int .u64 (z0 : Nat)) := hz.c0
      have c1 : (w.drewN n).cell? ⟨g, o + 1, none⟩ = some (.int .u64 (z1 : Nat)) := hz.c1
      have c2 : (w.drewN n).cell? ⟨g, o + 2, none⟩ = some (.int .u64 (z2 : Nat)) := hz.c2
      have c3 : (w.drewN n).cell? ⟨g, o + 3, none⟩ = some (.int .u64 (z3 : Nat)) := hz.c3
      have c4 : (w.drewN n).cell? ⟨g, o + 4, none⟩ = some (.int .u64 (z4 : Nat)) := hz.c4
      have c5 : (w.drewN n).cell? ⟨g, o + 5, none⟩ = some (.int .u64 (z5 : Nat)) := hz.c5
      have f0 : (w.drewN n).frozen? ⟨g, o, none⟩ = false := HF.out _
      have f1 : (w.drewN n).frozen? ⟨g, o + 1, none⟩ = false := HF.out _
      have f2 : (w.drewN n).frozen? ⟨g, o + 2, none⟩ = false := HF.out _
      have f3 : (w.drewN n).frozen? ⟨g, o + 3, none⟩ = false := HF.out _
      have f4 : (w.drewN n).frozen? ⟨g, o + 4, none⟩ = false := HF.out _
      have f5 : (w.drewN n).frozen? ⟨g, o + 5, none⟩ = false := HF.out _
      have hW : Put6 g o w (w.drewN n) := (Put6.refl g o w).drewN n
      have HWW := Lib.hid hW
      have HZX := Lib.hid (hz.drewN n)
      clear hW hz
      generalize w.drewN n = X at *
      have HPS := put_six HZX.out s0 s1 s2 s3 s4 s5
      obtain ⟨Y, hY⟩ : ∃ Y, Y = ((((((X.setCell ⟨g, o, none⟩ (.int .u64 (s0 : Nat))).setCell ⟨g, o + 1, none⟩ (.int .u64 (s1 : Nat))).setCell ⟨g, o + 2, none⟩ (.int .u64 (s2 : Nat))).setCell ⟨g, o + 3, none⟩ (.int .u64 (s3 : Nat))).setCell ⟨g, o + 4, none⟩ (.int .u64 (s4 : Nat))).setCell ⟨g, o + 5, none⟩ (.int .u64 (s5 : Nat))).drew := ⟨_, rfl⟩
      rw [← hY] at HPS
      have HPW := Lib.hid (HWW.out.trans HPS.1)
      have C4 := Lib.hid (flower_c Y (HPW.out.apart HHP.out hn) HLP.out HPS.2 HLS.out (fun j => (HPW.out.frozen j).trans (HF.out j)) hn)
      clear HPS hn
      go_upto_region 21 with (fail)
      go_region
      rw [← hY]
      clear hY c0 c1 c2 c3 c4 c5 f0 f1 f2 f3 f4 f5
      go_wp2_with fail
      (with_reducible refine (C4.out).mono ?_)
      rintro e w2 ⟨rfl, hput, r0, r1, r2, r3, r4, r5, hs, ls, hr⟩
      have HP2 := Lib.hid hput
      have HR2 := Lib.hid hr
      have HS := Lib.hid hs
      have HLR := Lib.hid ls
      clear hs hput hr ls C4
      go_wp2_with fail
      go_end0
      exact ⟨rfl, HPW.out.trans HP2.out, r0, r1, r2, r3, r4, r5, _, HS.out, HLR.out, HIN.out, by rw [HP.out]; exact HR2.out⟩
end Go.Proofs.YteaafnjflghlhaaDoor
