/- The law FieldRoot. -/
import Derived.Test.YteaafnjflghlhaaDoorNStrip
import Derived.Laws.BitsAllLaws
import Derived.Test.YteaafnjflghlhaaDoorLawFieldInverse
import Derived.Test.YteaafnjflghlhaaDoorFlNew
import Derived.Test.YteaafnjflghlhaaDoorFlBelow
import Derived.Test.YteaafnjflghlhaaDoorFlText
import Derived.Test.YteaafnjflghlhaaDoorRFrom
import Derived.Test.YteaafnjflghlhaaDoorRCmp
import Derived.BigQuiet
import Derived.Test.YteaafnjflghlhaaDoorFlOps
namespace Go.Proofs.YteaafnjflghlhaaDoor
open Go.RowKit

/-- A bit of a number, by its digits of 8 bits. -/
theorem bit_of_byte {xs : List Nat} (h : Ds 256 xs) (i : Nat) : xs.getD (i / 8) 0 / 2 ^ (i % 8) % 2 = dv 256 xs / 2 ^ i % 2 := by
  rw [← dv_digit h (by omega) (i / 8)]
  have e : (2 : Nat) ^ i = 256 ^ (i / 8) * 2 ^ (i % 8) := by
    rw [show (256 : Nat) = 2 ^ 8 by decide, ← Nat.pow_mul, ← Nat.pow_add]
    congr 1
    omega
  rw [e, ← Nat.div_div_eq_div_mul]
  generalize dv 256 xs / 256 ^ (i / 8) = q
  have hr : i % 8 < 8 := Nat.mod_lt _ (by omega)
  generalize i % 8 = r at *
  have e2 : q = q % 256 + 2 ^ r * (2 * (2 ^ (7 - r) * (q / 256))) := by
    have := Nat.mod_add_div q 256
    have e3 : (256 : Nat) = 2 ^ r * (2 * 2 ^ (7 - r)) := by
      rw [← Nat.pow_succ', ← Nat.pow_add, show r + (7 - r).succ = 8 by omega]
    have e4 : 2 ^ r * (2 * (2 ^ (7 - r) * (q / 256))) = 2 ^ r * (2 * 2 ^ (7 - r)) * (q / 256) := by
      rw [Nat.mul_assoc, Nat.mul_assoc]
    rw [e4, ← e3]; exact this.symm
  conv => rhs; rw [e2]
  rw [Nat.add_mul_div_left _ _ (Nat.two_pow_pos r)]
  omega

set_option maxRecDepth 100000 in
set_option maxHeartbeats 1600000 in
/-- Bit: bit i, 0 where there is none. -/
theorem bit_n {A : Option Addr} {c : Nat} {bs : List Nat} (w : World) (h : Rd .u8 w A c bs) (hb : Ds 256 bs) (hl : bs.length ≤ 16777216) (i : Nat) (hi : i ≤ 9223372036854775807) :
    Calls Tryd.prog 75 #[.slice A bs.length c, .int .i64 (i : Nat)] w fun e w' => e = .returned (.int .i64 (dv 256 bs.reverse / 2 ^ i % 2 : Nat)) ∧ w' = w := by
  have c1 := digit_c w h hb hl (i / 8) (by omega)
  have he := bit_of_byte hb.reverse i
  obtain ⟨a, ea⟩ : ∃ a, a = dv 256 bs.reverse / 2 ^ i % 2 := ⟨_, rfl⟩
  obtain ⟨d, ed⟩ : ∃ d, d = bs.reverse.getD (i / 8) 0 := ⟨_, rfl⟩
  obtain ⟨L, eL⟩ : ∃ L, L = bs.length := ⟨_, rfl⟩
  obtain ⟨q, eq⟩ : ∃ q, q = i / 8 := ⟨_, rfl⟩
  obtain ⟨r, er⟩ : ∃ r, r = i % 8 := ⟨_, rfl⟩
  have bd : d < 256 := by have := hb.reverse.get (by omega) (i / 8); omega
  rw [← ea, ← ed, ← er] at he
  rw [← ed, ← eL, ← eq] at c1
  rw [← ea, ← eL]
  have C1 := Lib.hid c1
  have hq1 : (i : Int) / 8 = (q : Int) := by omega
  have hq2 : (i : Int).tdiv 8 = (q : Int) := by rw [Int.tdiv_eq_ediv_of_nonneg (by omega)]; exact hq1
  have hr1 : (i : Int) % 8 = (r : Int) := by omega
  have hr2 : (i : Int).tmod 8 = (r : Int) := by rw [Int.tmod_eq_emod_of_nonneg (by omega)]; exact hr1
  have hi0 : ¬ ((i : Int) < 0) := by omega
  have hr8 : (r : Int) < 8 := by omega
  have hand : bits .and .i64 ((d : Int) / 2 ^ r) 1 = (a : Int) := by
    have e1 : (d : Int) / 2 ^ r = ((d / 2 ^ r : Nat) : Int) := by simp
    have hle : d / 2 ^ r < 256 := Nat.lt_of_le_of_lt (Nat.div_le_self _ _) bd
    rw [e1]
    generalize d / 2 ^ r = z at *
    have hz : ∀ z, z < 256 → bits .and .i64 ((z : Nat) : Int) 1 = ((z % 2 : Nat) : Int) := by decide
    rw [hz z hle, he]
  have hwq : IntKind.i64.wrap (q : Int) = (q : Int) := IntWalk.i64_in _ (by omega)
  clear he ea ed eL eq er h hb hl hi c1 bd
  go_enter Tryd.func75, Tryd.ntmps75
  go_wp2_with fail
  (with_reducible refine (C1.out ..).mono ?_)
  rintro e w' ⟨rfl, rfl⟩
  go_wp2_with fail
  go_ret
  exact ⟨rfl, rfl⟩
set_option maxRecDepth 100000 in
/-- Bit: 0 below the lowest bit. -/
theorem bit_neg {A : Option Addr} {L c : Nat} (w : World) (i : Int) (hi : i < 0) : Calls Tryd.prog 75 #[.slice A L c, .int .i64 i] w fun e w' => e = .returned (.int .i64 0) ∧ w' = w := by
  go_enter Tryd.func75, Tryd.ntmps75
  go_wp2_with fail
  go_ret
  exact ⟨rfl, rfl⟩
end Go.Proofs.YteaafnjflghlhaaDoor
namespace Go.Proofs.YteaafnjflghlhaaDoor
open Go.RowKit

theorem pow_step {a E p : Nat} : a ^ (E / 2 ^ (p + 1)) * a ^ (E / 2 ^ (p + 1)) * a ^ (E / 2 ^ p % 2) = a ^ (E / 2 ^ p) := by
  rw [← Nat.pow_add, ← Nat.pow_add]
  congr 1
  rw [Nat.pow_succ, ← Nat.div_div_eq_div_mul]
  omega
theorem shifted {E T k : Nat} (h : T ≤ k ∨ E < 2 ^ k) (hk : k ≤ T) : E / 2 ^ k = E / 2 ^ T := by
  rcases h with h | h
  · rw [Nat.le_antisymm h hk]
  · rw [Nat.div_eq_of_lt h, Nat.div_eq_of_lt (Nat.lt_of_lt_of_le h (Nat.pow_le_pow_right (by omega) hk))]

set_option maxRecDepth 100000 in
set_option maxHeartbeats 6400000 in
theorem fpower_c {P L B c T E a x0 x1 x2 x3 x4 x5 : Nat} {A : Option Addr} {bs : List Nat} (w : World) (hk : FNum P L) (hF : FldAt P L w B) (lx : Lim6 x0 x1 x2 x3 x4 x5) (ex : n6 x0 x1 x2 x3 x4 x5 = mt P (RR L) a) (hrd : Rd .u8 w A c bs) (hds : Ds 256 bs) (hl : bs.length ≤ 48) (hE : dv 256 bs.reverse = E) :
    Calls Tryd.prog 62 #[.pointer (some ⟨B, 0, none⟩), W6 x0 x1 x2 x3 x4 x5, .slice A bs.length c, .int .i64 (T : Nat)] w fun e w' => ∃ s0 s1 s2 s3 s4 s5, e = .returned (W6 s0 s1 s2 s3 s4 s5) ∧ Lim6 s0 s1 s2 s3 s4 s5 ∧ n6 s0 s1 s2 s3 s4 s5 = mt P (RR L) (a ^ (E / 2 ^ T)) ∧ Below w.heap.size w w' := by
  obtain ⟨X, hX⟩ : ∃ X, X = (w.alloc (.cells #[.int .u64 (x0 : Nat), .int .u64 (x1 : Nat), .int .u64 (x2 : Nat), .int .u64 (x3 : Nat), .int .u64 (x4 : Nat), .int .u64 (x5 : Nat)] 24)).alloc (.cells #[.int .u64 0, .int .u64 0, .int .u64 0, .int .u64 0, .int .u64 0, .int .u64 0] 24) := ⟨_, rfl⟩
  obtain ⟨ha, hz, hb, hs⟩ := box_zero hX
  have hBl := hF.lt
  have hFX := hF.below hb hBl
  obtain ⟨o0, o1, o2, o3, o4, o5, ho, lo, eo⟩ := hFX.one
  obtain ⟨d0, d1, d2, d3, d4, d5⟩ := ho
  simp only [Nat.reduceAdd] at d0 d1 d2 d3 d4 d5
  have hbl : blen E ≤ 384 := by
    have h1 := dv_lt bs.reverse hds.reverse
    rw [hE, List.length_reverse] at h1
    rw [show (256 : Nat) = 2 ^ 8 from rfl, ← Nat.pow_mul] at h1
    rcases Nat.eq_zero_or_pos E with rfl | hp
    · exact Nat.zero_le _
    · have a2 := blen_ge hp
      rcases Nat.lt_or_ge (8 * bs.length) (blen E) with h | h
      · have h2 : (2 : Nat) ^ (8 * bs.length) ≤ 2 ^ (blen E - 1) := Nat.pow_le_pow_right (by omega) (by omega)
        omega
      · omega
  have hbe := blen_lt E
  obtain ⟨bl, ebl⟩ : ∃ bl, bl = blen E := ⟨_, rfl⟩
  rw [← ebl] at hbl hbe
  have CB : Hid (∀ W, Below w.heap.size w W → Calls Tryd.prog 47 #[.slice A bs.length c] W fun e w' => e = .returned (.int .i64 (bl : Nat)) ∧ w' = W) := fun W h => by
    have k := bits_n W (hrd.below h) hds (by omega)
    rw [hE, ← ebl] at k
    exact k
  have CI : Hid (∀ W p, p ≤ 1000 → Below w.heap.size w W → Calls Tryd.prog 75 #[.slice A bs.length c, .int .i64 (p : Nat)] W fun e w' => e = .returned (.int .i64 (E / 2 ^ p % 2 : Nat)) ∧ w' = W) := fun W p hp h => by
    have k := bit_n W (hrd.below h) hds (by omega) p (by omega)
    rw [hE] at k
    exact k
  obtain ⟨n, hn⟩ : ∃ n, n = bs.length := ⟨_, rfl⟩
  rw [← hn] at CB CI ⊢
  obtain ⟨X1, hX1⟩ : ∃ Z, Z = X.alloc (.cells #[.int .u64 (o0 : Nat), .int .u64 (o1 : Nat), .int .u64 (o2 : Nat), .int .u64 (o3 : Nat), .int .u64 (o4 : Nat), .int .u64 (o5 : Nat)] 24) := ⟨_, rfl⟩
  have hq : Six X1 X.heap.size o0 o1 o2 o3 o4 o5 := by rw [hX1]; exact six_new (heap_alloc_new X _)
  have hb1 : Below X.heap.size X X1 := by rw [hX1]; exact (Below.refl _ _).alloc (Nat.le_refl _) _
  have hs1 : X1.heap.size = X.heap.size + 1 := by rw [hX1]; simp
  have HX := Lib.hid hX
  have HX1 := Lib.hid hX1
  have HK := Lib.hid hk
  have HBL := Lib.hid hBl
  have HBE := Lib.hid hbe
  have HF1 := Lib.hid (hFX.keepB (hb1.block B (by omega)))
  have HA1 : Hid (At6 X1 w.heap.size (mt P (RR L) a)) := (show At6 X w.heap.size (mt P (RR L) a) from ⟨_, _, _, _, _, _, ha, lx, ex⟩).keepB (hb1.block _ (by omega))
  have HZ1 : Hid (Six X1 (w.heap.size + 1) 0 0 0 0 0 0) := hz.keepB (hb1.block _ (by omega))
  have HQ1 : Hid (At6 X1 (w.heap.size + 2) (mt P (RR L) 1)) := by rw [← hs]; exact ⟨_, _, _, _, _, _, hq, lo, eo⟩
  have HB1 : Hid (Below w.heap.size w X1) := hb.trans (hb1.mono (by omega))
  have HS := Lib.hid hs
  have CB1 := Lib.hid (CB.out X1 HB1.out)
  have hbl' : (bl : Int) ≤ 384 := by omega
  have hw0 : IntKind.i64.wrap ((bl : Int) - 1) = (bl : Int) - 1 := IntWalk.i64_in _ (by omega)
  clear hX hX1 hk hF lx ha hz hb hs hBl hFX ex lo eo hrd hds hl hE hbe ebl hn hq hb1 hs1 CB
  go_enter Tryd.func62, Tryd.ntmps62
  go_upto_region 1 with (fail)
  rw [← HX.out]
  clear HX
  go_upto_region 2 with (fail)
  rw [← HX1.out]
  clear HX1 d0 d1 d2 d3 d4 d5
  rw [HS.out]
  go_wp2_with fail
  (with_reducible refine (CB1.out).mono ?_)
  rintro e w1 ⟨rfl, rfl⟩
  clear CB1
  go_wp2_with fail
  obtain ⟨wb, ewb⟩ : ∃ wb : World, wb = w1 := ⟨_, rfl⟩
  subst ewb
  go_loopw [10] (fun v10 wr => ∃ k : Nat, k ≤ bl ∧ v10 = .int .i64 ((k : Int) - 1) ∧ Hid (T ≤ k ∨ E < 2 ^ k) ∧ Hid (At6 wr (w.heap.size + 2) (mt P (RR L) (a ^ (E / 2 ^ k)))) ∧ Hid (At6 wr w.heap.size (mt P (RR L) a)) ∧ Hid (Six wr (w.heap.size + 1) 0 0 0 0 0 0) ∧ Hid (Below w.heap.size w wr) ∧ Hid (FldAt P L wr B))
    (fun v10 _ => (intOf v10 + 1).toNat)
  case atStart =>
    exact ⟨bl, Nat.le_refl _, rfl, .inr HBE.out, by rw [Nat.div_eq_of_lt HBE.out, Nat.pow_zero]; exact HQ1, HA1, HZ1, HB1, HF1⟩
  case round =>
    clear HQ1 HA1 HZ1 HB1 HF1
    obtain ⟨k, hk, rfl, HT, HQ, HA, HZ, HW, HF⟩ := hrel
    by_cases hlt : k ≤ T
    · have h1 : ¬ ((T : Int) ≤ (k : Int) - 1) := by omega
      have h2 : (k : Int) - 1 < (T : Int) := by omega
      have HQ2 : Hid (At6 wr (w.heap.size + 2) (mt P (RR L) (a ^ (E / 2 ^ T)))) := by rw [← shifted HT.out hlt]; exact HQ
      obtain ⟨s0, s1, s2, s3, s4, s5, hs, ls, es⟩ := HQ2.out
      obtain ⟨⟨c0, c1, c2, c3, c4, c5⟩, -⟩ := hs.cells
      obtain ⟨⟨y0, y1, y2, y3, y4, y5⟩, f0, f1, f2, f3, f4, f5⟩ := HZ.out.cells
      have HLS := Lib.hid ls
      have HES := Lib.hid es
      clear hs ls es HQ HQ2 HT
      go_wp2_with fail
      clear c0 c1 c2 c3 c4 c5
      have gW := HW.out
      clear y0 y1 y2 y3 y4 y5 f0 f1 f2 f3 f4 f5
      obtain ⟨Y, hY⟩ : ∃ Y, Y = (((((wr.setCell ⟨w.heap.size + 1, 0, none⟩ (.int .u64 (s0 : Nat))).setCell ⟨w.heap.size + 1, 1, none⟩ (.int .u64 (s1 : Nat))).setCell ⟨w.heap.size + 1, 2, none⟩ (.int .u64 (s2 : Nat))).setCell ⟨w.heap.size + 1, 3, none⟩ (.int .u64 (s3 : Nat))).setCell ⟨w.heap.size + 1, 4, none⟩ (.int .u64 (s4 : Nat))).setCell ⟨w.heap.size + 1, 5, none⟩ (.int .u64 (s5 : Nat)) := ⟨_, rfl⟩
      rw [← hY]
      obtain ⟨⟨y0, y1, y2, y3, y4, y5⟩, hb⟩ := put_end HZ.out s0 s1 s2 s3 s4 s5 hY
      clear hY
      exact bodyPost_ret (v := W6 s0 s1 s2 s3 s4 s5) (by simp [results, Tryd.results62, go_sem, y0, y1, y2, y3, y4, y5]) rfl ⟨s0, s1, s2, s3, s4, s5, rfl, HLS.out, HES.out, gW.trans (hb.mono (by omega))⟩
    · obtain ⟨p, rfl⟩ : ∃ p, k = p + 1 := ⟨k - 1, by omega⟩
      have h1 : (T : Int) ≤ (p : Int) := by omega
      have hp1 : IntKind.i64.wrap ((p : Int) - 1) = (p : Int) - 1 := IntWalk.i64_in _ (by omega)
      rw [show (((p + 1 : Nat) : Int) - 1) = (p : Int) by omega]
      have hQB : w.heap.size + 2 ≠ B := by have := HBL.out; omega
      have C1 := Lib.hid (ftimesM_c wr HK.out HF.out HQ.out.o HQ.out.o HQ.out hQB)
      have HTP : Hid (T ≤ p ∨ E < 2 ^ p) := .inl (by omega)
      have HQB := Lib.hid hQB
      clear hQB HT HQ
      go_wp2_with fail
      (with_reducible refine (C1.out).mono ?_)
      rintro e w2 ⟨rfl, hp, hq⟩
      have HQ2 := Lib.hid hq
      have HA2 := Lib.hid (HA.out.put hp (by omega))
      have HZ2 := Lib.hid (HZ.out.put hp (by omega))
      have HW2 := Lib.hid (HW.out.trans (hp.low (b := w.heap.size) (by omega)))
      have HF2 := Lib.hid (HF.out.keepB (hp.block B HQB.out.symm))
      have C2 := CI.out w2 p (by omega) HW2.out
      clear hp hq C1 HA HZ HW HF
      rcases (show E / 2 ^ p % 2 = 0 ∨ E / 2 ^ p % 2 = 1 by omega) with hb0 | hb1
      · rw [hb0] at C2
        have C2 := Lib.hid C2
        have HX := Lib.hid (pow_step (a := a) (E := E) (p := p))
        rw [hb0, Nat.pow_zero, Nat.mul_one] at HX
        clear hb0
        go_wp2_with fail
        (with_reducible refine (C2.out).mono ?_)
        rintro e w3 ⟨rfl, rfl⟩
        clear C2
        go_wp2_with fail
        exact ⟨⟨p, by omega, rfl, HTP, by rw [← HX.out]; exact HQ2, HA2, HZ2, HW2, HF2⟩, by simp [intOf] <;> omega⟩
      · rw [hb1] at C2
        have C2 := Lib.hid C2
        have HX := Lib.hid (pow_step (a := a) (E := E) (p := p))
        rw [hb1, Nat.pow_one] at HX
        clear hb1
        have C3 := Lib.hid (ftimesM_c w2 HK.out HF2.out HQ2.out.o HA2.out.o HQ2.out HQB.out)
        clear HQ2
        go_wp2_with fail
        (with_reducible refine (C2.out).mono ?_)
        rintro e w3 ⟨rfl, rfl⟩
        clear C2
        go_wp2_with fail
        (with_reducible refine (C3.out).mono ?_)
        rintro e w4 ⟨rfl, hp, hq⟩
        have HQ4 := Lib.hid hq
        have HA4 := Lib.hid (HA2.out.put hp (by omega))
        have HZ4 := Lib.hid (HZ2.out.put hp (by omega))
        have HW4 := Lib.hid (HW2.out.trans (hp.low (b := w.heap.size) (by omega)))
        have HF4 := Lib.hid (HF2.out.keepB (hp.block B HQB.out.symm))
        clear hp hq C3 HA2 HZ2 HW2 HF2
        go_wp2_with fail
        exact ⟨⟨p, by omega, rfl, HTP, by rw [← HX.out]; exact HQ4, HA4, HZ4, HW4, HF4⟩, by simp [intOf] <;> omega⟩
end Go.Proofs.YteaafnjflghlhaaDoor
namespace Go.Proofs.YteaafnjflghlhaaDoor
open Go.RowKit

set_option maxRecDepth 100000 in
set_option maxHeartbeats 6400000 in
theorem fsquared_c {P L B T a x0 x1 x2 x3 x4 x5 : Nat} (w : World) (hk : FNum P L) (hF : FldAt P L w B) (lx : Lim6 x0 x1 x2 x3 x4 x5) (ex : n6 x0 x1 x2 x3 x4 x5 = mt P (RR L) a) (hT : T ≤ 1000) :
    Calls Tryd.prog 36 #[.pointer (some ⟨B, 0, none⟩), W6 x0 x1 x2 x3 x4 x5, .int .i64 (T : Nat)] w fun e w' => ∃ s0 s1 s2 s3 s4 s5, e = .returned (W6 s0 s1 s2 s3 s4 s5) ∧ Lim6 s0 s1 s2 s3 s4 s5 ∧ n6 s0 s1 s2 s3 s4 s5 = mt P (RR L) (a ^ 2 ^ T) ∧ Below w.heap.size w w' := by
  obtain ⟨X, hX⟩ : ∃ X, X = (w.alloc (.cells #[.int .u64 (x0 : Nat), .int .u64 (x1 : Nat), .int .u64 (x2 : Nat), .int .u64 (x3 : Nat), .int .u64 (x4 : Nat), .int .u64 (x5 : Nat)] 24)).alloc (.cells #[.int .u64 0, .int .u64 0, .int .u64 0, .int .u64 0, .int .u64 0, .int .u64 0] 24) := ⟨_, rfl⟩
  obtain ⟨ha, hz, hb, hs⟩ := box_zero hX
  have hBl := hF.lt
  have HX := Lib.hid hX
  have HK := Lib.hid hk
  have HBL := Lib.hid hBl
  have HF0 := Lib.hid (hF.below hb hBl)
  have HA0 : Hid (At6 X w.heap.size (mt P (RR L) a)) := ⟨_, _, _, _, _, _, ha, lx, ex⟩
  have HZ0 := Lib.hid hz
  have HW0 := Lib.hid hb
  clear hX hk hF lx ha hz hb hs hBl ex
  go_enter Tryd.func36, Tryd.ntmps36
  go_upto_region 1 with (fail)
  rw [← HX.out]
  clear HX
  go_upto_region 2 with (fail)
  go_loopw [8] (fun v8 wr => ∃ m : Nat, m ≤ T ∧ v8 = .int .i64 (m : Int) ∧ Hid (At6 wr w.heap.size (mt P (RR L) (a ^ 2 ^ m))) ∧ Hid (Six wr (w.heap.size + 1) 0 0 0 0 0 0) ∧ Hid (Below w.heap.size w wr) ∧ Hid (FldAt P L wr B))
    (fun v8 _ => (T - intOf v8).toNat)
  case atStart =>
    exact ⟨0, Nat.zero_le _, rfl, by rw [Nat.pow_zero, Nat.pow_one]; exact HA0, HZ0, HW0, HF0⟩
  case round =>
    clear HA0 HZ0 HW0 HF0
    obtain ⟨m, hm, rfl, HA, HZ, HW, HF⟩ := hrel
    by_cases hlt : (m : Int) < (T : Int)
    · have em : IntKind.i64.wrap ((m : Int) + 1) = ((m + 1 : Nat) : Int) := by rw [IntWalk.i64_in _ (by omega)]; simp
      have hgB : w.heap.size ≠ B := by have := HBL.out; omega
      have C1 := Lib.hid (ftimesM_c wr HK.out HF.out HA.out.o HA.out.o HA.out hgB)
      have HGB := Lib.hid hgB
      have HX : Hid (a ^ 2 ^ m * a ^ 2 ^ m = a ^ 2 ^ (m + 1)) := by
        show _ = _
        rw [Nat.pow_succ, Nat.pow_mul, Nat.pow_two]
      clear hgB HA
      go_wp2_with fail
      (with_reducible refine (C1.out).mono ?_)
      rintro e w2 ⟨rfl, hp, hq⟩
      rw [HX.out] at hq
      have HA2 := Lib.hid hq
      have HZ2 := Lib.hid (HZ.out.put hp (by omega))
      have HW2 := Lib.hid (HW.out.trans (hp.low (b := w.heap.size) (by omega)))
      have HF2 := Lib.hid (HF.out.keepB (hp.block B HGB.out.symm))
      clear hp hq C1 HZ HW HF
      go_wp2_with fail
      exact ⟨⟨m + 1, by omega, rfl, HA2, HZ2, HW2, HF2⟩, by simp [intOf] <;> omega⟩
    · obtain rfl : m = T := by omega
      obtain ⟨s0, s1, s2, s3, s4, s5, hs, ls, es⟩ := HA.out
      obtain ⟨⟨c0, c1, c2, c3, c4, c5⟩, -⟩ := hs.cells
      obtain ⟨⟨y0, y1, y2, y3, y4, y5⟩, f0, f1, f2, f3, f4, f5⟩ := HZ.out.cells
      have HLS := Lib.hid ls
      have HES := Lib.hid es
      clear hs ls es HA
      go_wp2_with fail
      clear c0 c1 c2 c3 c4 c5
      have gW := HW.out
      clear y0 y1 y2 y3 y4 y5 f0 f1 f2 f3 f4 f5
      obtain ⟨Y, hY⟩ : ∃ Y, Y = (((((wr.setCell ⟨w.heap.size + 1, 0, none⟩ (.int .u64 (s0 : Nat))).setCell ⟨w.heap.size + 1, 1, none⟩ (.int .u64 (s1 : Nat))).setCell ⟨w.heap.size + 1, 2, none⟩ (.int .u64 (s2 : Nat))).setCell ⟨w.heap.size + 1, 3, none⟩ (.int .u64 (s3 : Nat))).setCell ⟨w.heap.size + 1, 4, none⟩ (.int .u64 (s4 : Nat))).setCell ⟨w.heap.size + 1, 5, none⟩ (.int .u64 (s5 : Nat)) := ⟨_, rfl⟩
      rw [← hY]
      obtain ⟨⟨y0, y1, y2, y3, y4, y5⟩, hb⟩ := put_end HZ.out s0 s1 s2 s3 s4 s5 hY
      clear hY
      exact bodyPost_ret (v := W6 s0 s1 s2 s3 s4 s5) (by simp [results, Tryd.results36, go_sem, y0, y1, y2, y3, y4, y5]) rfl ⟨s0, s1, s2, s3, s4, s5, rfl, HLS.out, HES.out, gW.trans (hb.mono (by omega))⟩
end Go.Proofs.YteaafnjflghlhaaDoor
namespace Go.Proofs.YteaafnjflghlhaaDoor
open Go.RowKit

set_option maxRecDepth 100000 in
set_option maxHeartbeats 6400000 in
theorem fNeg_c {P L B x0 x1 x2 x3 x4 x5 : Nat} (w : World) (hk : FNum P L) (hF : FldAt P L w B) (lx : Lim6 x0 x1 x2 x3 x4 x5) :
    Calls Tryd.prog 18 #[.pointer (some ⟨B, 0, none⟩), W6 x0 x1 x2 x3 x4 x5] w fun e w' => ∃ s0 s1 s2 s3 s4 s5, e = .returned (W6 s0 s1 s2 s3 s4 s5) ∧ Lim6 s0 s1 s2 s3 s4 s5 ∧ n6 s0 s1 s2 s3 s4 s5 = (P - n6 x0 x1 x2 x3 x4 x5 % P) % P ∧ Below w.heap.size w w' := by
  obtain ⟨X, hX⟩ : ∃ X, X = (w.alloc (.cells #[.int .u64 (x0 : Nat), .int .u64 (x1 : Nat), .int .u64 (x2 : Nat), .int .u64 (x3 : Nat), .int .u64 (x4 : Nat), .int .u64 (x5 : Nat)] 24)).alloc (.cells #[.int .u64 0, .int .u64 0, .int .u64 0, .int .u64 0, .int .u64 0, .int .u64 0] 24) := ⟨_, rfl⟩
  obtain ⟨ha, hz, hb, hs⟩ := box_zero hX
  have hBl := hF.lt
  have CS := fSub_c (x0 := 0) (x1 := 0) (x2 := 0) (x3 := 0) (x4 := 0) (x5 := 0) X hk (hF.below hb hBl) lim6_0 lx
  rw [show n6 0 0 0 0 0 0 = 0 by decide, Nat.zero_mod, Nat.zero_add] at CS
  unfold W6 at CS
  rw [show ((0 : Nat) : Int) = 0 from rfl] at CS
  have C1 := Lib.hid CS
  obtain ⟨⟨c0, c1, c2, c3, c4, c5⟩, -⟩ := ha.cells
  have HX := Lib.hid hX
  have HZ0 := Lib.hid hz
  have HW0 := Lib.hid hb
  have HS := Lib.hid hs
  clear hX hk hF lx ha hz hb hs hBl CS
  go_enter Tryd.func18, Tryd.ntmps18
  go_upto_region 1 with (fail)
  rw [← HX.out]
  clear HX
  go_wp2_with fail
  (with_reducible refine (C1.out).mono ?_)
  rintro e w2 ⟨s0, s1, s2, s3, s4, s5, rfl, ls, es, hb2⟩
  have HZ := Lib.hid (HZ0.out.keepB (hb2.block _ (by rw [HS.out]; omega)))
  have HW := Lib.hid (HW0.out.trans (hb2.mono (by rw [HS.out]; omega)))
  obtain ⟨⟨y0, y1, y2, y3, y4, y5⟩, f0, f1, f2, f3, f4, f5⟩ := HZ.out.cells
  have HLS := Lib.hid ls
  have HES := Lib.hid es
  clear ls es hb2 C1 HZ0 HW0 c0 c1 c2 c3 c4 c5
  go_wp2_with fail
  have gW := HW.out
  clear y0 y1 y2 y3 y4 y5 f0 f1 f2 f3 f4 f5
  obtain ⟨Y, hY⟩ : ∃ Y, Y = (((((w2.setCell ⟨w.heap.size + 1, 0, none⟩ (.int .u64 (s0 : Nat))).setCell ⟨w.heap.size + 1, 1, none⟩ (.int .u64 (s1 : Nat))).setCell ⟨w.heap.size + 1, 2, none⟩ (.int .u64 (s2 : Nat))).setCell ⟨w.heap.size + 1, 3, none⟩ (.int .u64 (s3 : Nat))).setCell ⟨w.heap.size + 1, 4, none⟩ (.int .u64 (s4 : Nat))).setCell ⟨w.heap.size + 1, 5, none⟩ (.int .u64 (s5 : Nat)) := ⟨_, rfl⟩
  rw [← hY]
  obtain ⟨⟨y0, y1, y2, y3, y4, y5⟩, hb⟩ := put_end HZ.out s0 s1 s2 s3 s4 s5 hY
  clear hY
  exact bodyPost_ret (v := W6 s0 s1 s2 s3 s4 s5) (by simp [results, Tryd.results18, go_sem, y0, y1, y2, y3, y4, y5]) rfl ⟨s0, s1, s2, s3, s4, s5, rfl, HLS.out, HES.out, gW.trans (hb.mono (by omega))⟩
end Go.Proofs.YteaafnjflghlhaaDoor
namespace Go.Proofs.YteaafnjflghlhaaDoor
open Go.RowKit

/-- The table of math/bits. -/
def tab64 : List Nat := [0, 1, 56, 2, 57, 49, 28, 3, 61, 58, 42, 50, 38, 29, 17, 4, 62, 47, 59, 36, 45, 43, 51, 22, 53, 39, 33, 30, 24, 18, 12, 5, 63, 55, 48, 27, 60, 41, 37, 16, 46, 35, 44, 21, 52, 32, 23, 11, 54, 26, 40, 15, 34, 20, 31, 10, 25, 14, 19, 9, 13, 8, 7, 6]
/-- It lies in block 1. -/
def TabAt (w : World) : Prop := ∀ i, i < 64 → w.cell? ⟨1, i, none⟩ = some (.int .u8 (tab64.getD i 0 : Nat))
theorem TabAt.lt {w : World} (h : TabAt w) : 1 < w.heap.size := World.block_lt_of_cell? w _ (h 0 (by omega))
theorem TabAt.below {b : Nat} {w w' : World} (h : TabAt w) (hb : Below b w w') (h1 : 1 < b) : TabAt w' := fun i hi => (hb.cell (p := ⟨1, i, none⟩) h1).trans (h i hi)
/-- The zeros that a prime less one ends in. -/
def tz (k : Nat) : Nat := [0, 1, 6, 1, 28, 1, 32].getD k 0

set_option maxRecDepth 100000 in
set_option maxHeartbeats 3200000 in
theorem ftz1 (w : World) (hT : TabAt w) : Calls Tryd.prog 61 #[.int .u64 ((plb 1 0 - 1 : Nat) : Int)] w fun e w' => e = .returned (.int .i64 (tz 1 : Nat)) ∧ w' = w := by
  have e : ((plb 1 0 - 1 : Nat) : Int) = 18446744069414583342 := by decide +kernel
  rw [e]
  clear e
  have hi : IntKind.u64.wrap (bits BinOp.and IntKind.u64 18446744069414583342 (IntKind.u64.wrap (-18446744069414583342)) * 285870213051353865) / 288230376151711744 = 1 := by decide +kernel
  have hc : w.cell? ⟨1, 1, none⟩ = some (.int .u8 1) := hT 1 (by omega)
  clear hT
  go_enter Tryd.func61, Tryd.ntmps61
  go_wp2_with fail
  go_ret
  exact ⟨rfl, rfl⟩

set_option maxRecDepth 100000 in
set_option maxHeartbeats 3200000 in
theorem ftz2 (w : World) (hT : TabAt w) : Calls Tryd.prog 61 #[.int .u64 ((plb 2 0 - 1 : Nat) : Int)] w fun e w' => e = .returned (.int .i64 (tz 2 : Nat)) ∧ w' = w := by
  have e : ((plb 2 0 - 1 : Nat) : Int) = 13822214165235122496 := by decide +kernel
  rw [e]
  clear e
  have hi : IntKind.u64.wrap (bits BinOp.and IntKind.u64 13822214165235122496 (IntKind.u64.wrap (-13822214165235122496)) * 285870213051353865) / 288230376151711744 = 63 := by decide +kernel
  have hc : w.cell? ⟨1, 63, none⟩ = some (.int .u8 6) := hT 63 (by omega)
  clear hT
  go_enter Tryd.func61, Tryd.ntmps61
  go_wp2_with fail
  go_ret
  exact ⟨rfl, rfl⟩

set_option maxRecDepth 100000 in
set_option maxHeartbeats 3200000 in
theorem ftz3 (w : World) (hT : TabAt w) : Calls Tryd.prog 61 #[.int .u64 ((plb 3 0 - 1 : Nat) : Int)] w fun e w' => e = .returned (.int .i64 (tz 3 : Nat)) ∧ w' = w := by
  have e : ((plb 3 0 - 1 : Nat) : Int) = 4332616871279656262 := by decide +kernel
  rw [e]
  clear e
  have hi : IntKind.u64.wrap (bits BinOp.and IntKind.u64 4332616871279656262 (IntKind.u64.wrap (-4332616871279656262)) * 285870213051353865) / 288230376151711744 = 1 := by decide +kernel
  have hc : w.cell? ⟨1, 1, none⟩ = some (.int .u8 1) := hT 1 (by omega)
  clear hT
  go_enter Tryd.func61, Tryd.ntmps61
  go_wp2_with fail
  go_ret
  exact ⟨rfl, rfl⟩

set_option maxRecDepth 100000 in
set_option maxHeartbeats 3200000 in
theorem ftz4 (w : World) (hT : TabAt w) : Calls Tryd.prog 61 #[.int .u64 ((plb 4 0 - 1 : Nat) : Int)] w fun e w' => e = .returned (.int .i64 (tz 4 : Nat)) ∧ w' = w := by
  have e : ((plb 4 0 - 1 : Nat) : Int) = 4891460686036598784 := by decide +kernel
  rw [e]
  clear e
  have hi : IntKind.u64.wrap (bits BinOp.and IntKind.u64 4891460686036598784 (IntKind.u64.wrap (-4891460686036598784)) * 285870213051353865) / 288230376151711744 = 6 := by decide +kernel
  have hc : w.cell? ⟨1, 6, none⟩ = some (.int .u8 28) := hT 6 (by omega)
  clear hT
  go_enter Tryd.func61, Tryd.ntmps61
  go_wp2_with fail
  go_ret
  exact ⟨rfl, rfl⟩

set_option maxRecDepth 100000 in
set_option maxHeartbeats 3200000 in
theorem ftz5 (w : World) (hT : TabAt w) : Calls Tryd.prog 61 #[.int .u64 ((plb 5 0 - 1 : Nat) : Int)] w fun e w' => e = .returned (.int .i64 (tz 5 : Nat)) ∧ w' = w := by
  have e : ((plb 5 0 - 1 : Nat) : Int) = 13402431016077863594 := by decide +kernel
  rw [e]
  clear e
  have hi : IntKind.u64.wrap (bits BinOp.and IntKind.u64 13402431016077863594 (IntKind.u64.wrap (-13402431016077863594)) * 285870213051353865) / 288230376151711744 = 1 := by decide +kernel
  have hc : w.cell? ⟨1, 1, none⟩ = some (.int .u8 1) := hT 1 (by omega)
  clear hT
  go_enter Tryd.func61, Tryd.ntmps61
  go_wp2_with fail
  go_ret
  exact ⟨rfl, rfl⟩

set_option maxRecDepth 100000 in
set_option maxHeartbeats 3200000 in
theorem ftz6 (w : World) (hT : TabAt w) : Calls Tryd.prog 61 #[.int .u64 ((plb 6 0 - 1 : Nat) : Int)] w fun e w' => e = .returned (.int .i64 (tz 6 : Nat)) ∧ w' = w := by
  have e : ((plb 6 0 - 1 : Nat) : Int) = 18446744069414584320 := by decide +kernel
  rw [e]
  clear e
  have hi : IntKind.u64.wrap (bits BinOp.and IntKind.u64 18446744069414584320 (IntKind.u64.wrap (-18446744069414584320)) * 285870213051353865) / 288230376151711744 = 45 := by decide +kernel
  have hc : w.cell? ⟨1, 45, none⟩ = some (.int .u8 32) := hT 45 (by omega)
  clear hT
  go_enter Tryd.func61, Tryd.ntmps61
  go_wp2_with fail
  go_ret
  exact ⟨rfl, rfl⟩
theorem ftz_c {k : Nat} (w : World) (h1 : 1 ≤ k) (h6 : k ≤ 6) (hT : TabAt w) : Calls Tryd.prog 61 #[.int .u64 ((plb k 0 - 1 : Nat) : Int)] w fun e w' => e = .returned (.int .i64 (tz k : Nat)) ∧ w' = w := by
  rcases (show k = 1 ∨ k = 2 ∨ k = 3 ∨ k = 4 ∨ k = 5 ∨ k = 6 by omega) with rfl | rfl | rfl | rfl | rfl | rfl
  · exact ftz1 w hT
  · exact ftz2 w hT
  · exact ftz3 w hT
  · exact ftz4 w hT
  · exact ftz5 w hT
  · exact ftz6 w hT
/-- What is asked of a prime that is 3 modulo 4, or of one that is not. -/
theorem tz_facts {k : Nat} (h1 : 1 ≤ k) (h6 : k ≤ 6) : (tz k = 1 ∧ prm k % 4 = 3) ∨ (∃ n q, tz k = n + 2 ∧ prm k - 1 = q * 2 ^ (n + 2) ∧ q % 2 = 1 ∧ pw (prm k) 5 400 ((prm k - 1) / 2) = prm k - 1 ∧ n + 2 ≤ 32) := by
  rcases (show k = 1 ∨ k = 2 ∨ k = 3 ∨ k = 4 ∨ k = 5 ∨ k = 6 by omega) with rfl | rfl | rfl | rfl | rfl | rfl
  · exact .inl ⟨rfl, by decide +kernel⟩
  · exact .inr ⟨4, 1809251394333065553493296640760748560200586941860545380978205674086221273349, rfl, by decide +kernel, by decide +kernel, by decide +kernel, by omega⟩
  · exact .inl ⟨rfl, by decide +kernel⟩
  · exact .inr ⟨26, 81540058820840996586704275553141814055101440848469862132140264610111, rfl, by decide +kernel, by decide +kernel, by decide +kernel, by omega⟩
  · exact .inl ⟨rfl, by decide +kernel⟩
  · exact .inr ⟨30, 12208678567578594777604504606729831043093128246378069236549469339647, rfl, by decide +kernel, by decide +kernel, by decide +kernel, by omega⟩
theorem prm_small {k : Nat} (h1 : 1 ≤ k) (h6 : k ≤ 6) : Nat.blt (prm k) (2 ^ 400) = true := by
  rcases (show k = 1 ∨ k = 2 ∨ k = 3 ∨ k = 4 ∨ k = 5 ∨ k = 6 by omega) with rfl | rfl | rfl | rfl | rfl | rfl <;> kernel_rfl
end Go.Proofs.YteaafnjflghlhaaDoor
namespace Go.Proofs.YteaafnjflghlhaaDoor
open Go.RowKit

/-- A number's limbs. -/
def lb (n i : Nat) : Nat := n / 18446744073709551616 ^ i % 18446744073709551616
theorem lb_of {x0 x1 x2 x3 x4 x5 : Nat} (l : Lim6 x0 x1 x2 x3 x4 x5) : x0 = lb (n6 x0 x1 x2 x3 x4 x5) 0 ∧ x1 = lb (n6 x0 x1 x2 x3 x4 x5) 1 ∧ x2 = lb (n6 x0 x1 x2 x3 x4 x5) 2 ∧ x3 = lb (n6 x0 x1 x2 x3 x4 x5) 3 ∧ x4 = lb (n6 x0 x1 x2 x3 x4 x5) 4 ∧ x5 = lb (n6 x0 x1 x2 x3 x4 x5) 5 :=
  ⟨n6_digit l 0 (by omega), n6_digit l 1 (by omega), n6_digit l 2 (by omega), n6_digit l 3 (by omega), n6_digit l 4 (by omega), n6_digit l 5 (by omega)⟩
theorem lb_at {x0 x1 x2 x3 x4 x5 n : Nat} (l : Lim6 x0 x1 x2 x3 x4 x5) (e : n6 x0 x1 x2 x3 x4 x5 = n) : x0 = lb n 0 ∧ x1 = lb n 1 ∧ x2 = lb n 2 ∧ x3 = lb n 3 ∧ x4 = lb n 4 ∧ x5 = lb n 5 := e ▸ lb_of l
theorem lb_lim (n : Nat) : Lim6 (lb n 0) (lb n 1) (lb n 2) (lb n 3) (lb n 4) (lb n 5) := by
  refine ⟨?_, ?_, ?_, ?_, ?_, ?_⟩ <;> (unfold Lim lb; exact Nat.mod_lt _ (by omega))
theorem n6_lb {n : Nat} (h : n < 39402006196394479212279040100143613805079739270465446667948293404245721771497210611414266254884915640806627990306816) : n6 (lb n 0) (lb n 1) (lb n 2) (lb n 3) (lb n 4) (lb n 5) = n := by
  have d : ∀ i, n / 18446744073709551616 ^ (i + 1) = n / 18446744073709551616 ^ i / 18446744073709551616 := fun i => by rw [Nat.pow_succ, Nat.div_div_eq_div_mul]
  have e : ∀ i, lb n i + 18446744073709551616 * (n / 18446744073709551616 ^ (i + 1)) = n / 18446744073709551616 ^ i := fun i => by rw [d]; exact Nat.mod_add_div _ _
  have e6 : n / 18446744073709551616 ^ 6 = 0 := Nat.div_eq_of_lt (by rw [show (18446744073709551616 : Nat) ^ 6 = 39402006196394479212279040100143613805079739270465446667948293404245721771497210611414266254884915640806627990306816 by decide +kernel]; exact h)
  have h5 := e 5
  rw [e6, Nat.mul_zero, Nat.add_zero] at h5
  unfold n6
  rw [h5, e 4, e 3, e 2, e 1, e 0, Nat.pow_zero, Nat.div_one]
/-- Six stores midway. -/
theorem put_mid {g z0 z1 z2 z3 z4 z5 : Nat} {X Y : World} (hz : Six X g z0 z1 z2 z3 z4 z5) (s0 s1 s2 s3 s4 s5 : Nat) (hY : Y = (((((X.setCell ⟨g, 0, none⟩ (.int .u64 (s0 : Nat))).setCell ⟨g, 1, none⟩ (.int .u64 (s1 : Nat))).setCell ⟨g, 2, none⟩ (.int .u64 (s2 : Nat))).setCell ⟨g, 3, none⟩ (.int .u64 (s3 : Nat))).setCell ⟨g, 4, none⟩ (.int .u64 (s4 : Nat))).setCell ⟨g, 5, none⟩ (.int .u64 (s5 : Nat))) :
    Put6 g 0 X Y ∧ Six Y g s0 s1 s2 s3 s4 s5 := by
  have h := put_six hz.1 s0 s1 s2 s3 s4 s5
  simp only [Nat.zero_add] at h
  rw [← hY] at h
  obtain ⟨hp, y0, y1, y2, y3, y4, y5⟩ := h
  have hp' : Put6 g 0 X Y := ⟨hp.os, hp.tape, hp.output, hp.size, hp.block, hp.far, hp.cell, hp.frozen⟩
  exact ⟨hp', ⟨y0, y1, y2, y3, y4, y5⟩, fun k => (hp'.frozen k).trans (hz.2 k)⟩
/-- Bytes stand where a number turns. -/
theorem Rd.put6 {A : Option Addr} {c g z0 z1 z2 z3 z4 z5 : Nat} {xs : List Nat} {w w' : World} (h : Rd .u8 w A c xs) (p : Put6 g 0 w w') (hz : Six w g z0 z1 z2 z3 z4 z5) : Rd .u8 w' A c xs := by
  refine ⟨h.le, h.cap, fun hl => ?_⟩
  obtain ⟨b, o, rfl, hb, hc⟩ := h.at_ hl
  refine ⟨b, o, rfl, by rw [p.size]; exact hb, fun j hj => ?_⟩
  by_cases hg : b = g
  · subst hg
    by_cases hq : 0 ≤ o + j ∧ o + j < 0 + 6
    · exfalso
      have h1 := hz.1.at_ (o + j) (by omega)
      rw [Nat.zero_add] at h1
      have h2 := hc j hj
      rw [h1] at h2
      cases h2
    · exact (p.cell _ hq).trans (hc j hj)
  · exact (p.far _ hg).trans (hc j hj)
/-- The bytes of a number, the highest first. -/
def tb (n N : Nat) : List Nat := (List.range N).map fun j => n / 256 ^ (N - 1 - j) % 256
theorem tb_len (n N : Nat) : (tb n N).length = N := by simp [tb]
theorem tb_get (n N j : Nat) (h : j < N) : (tb n N).getD j 0 = n / 256 ^ (N - 1 - j) % 256 := by simp [tb, List.getD_eq_getElem?_getD, h]
theorem tb_of {zs : List Nat} {n N : Nat} (hl : zs.length = N) (h : ∀ j, j < N → zs.getD j 0 = n / 256 ^ (N - 1 - j) % 256) : zs = tb n N := by
  refine List.ext_getElem (by rw [hl, tb_len]) fun j h1 h2 => ?_
  have e1 := h j (by omega)
  have e2 := tb_get n N j (by omega)
  rw [List.getD_eq_getElem?_getD, List.getElem?_eq_getElem h1] at e1
  rw [List.getD_eq_getElem?_getD, List.getElem?_eq_getElem h2] at e2
  exact e1.trans e2.symm
theorem ftext_r {x0 x1 x2 x3 x4 x5 N n : Nat} (w : World) (lx : Lim6 x0 x1 x2 x3 x4 x5) (hN : N ≤ 48) (en : n6 x0 x1 x2 x3 x4 x5 = n) :
    Calls Tryd.prog 45 #[W6 x0 x1 x2 x3 x4 x5, .int .i64 (N : Nat)] w (RetR (fun w' v => Byt w' v (tb n N)) w) :=
  (ftext_c w lx hN).mono (by
    rintro e w' ⟨rfl, zs, h1, h2, h3, h4, h5⟩
    rw [en] at h3
    obtain rfl := tb_of h1 h3
    refine ⟨_, rfl, ⟨some ⟨w.heap.size + 1, 0, none⟩, N, by rw [tb_len], ?_, h2⟩, h5⟩
    have := h4.rd0
    rwa [tb_len] at this)
section
variable {ops : Array Oper} {T : Facts} {o : Oper} {a : Act} {w : World}
theorem op_nil {g k : Nat} (x : Operand) (ho : o.op = .nilCheck x) (hx : a.eval x = .pointer (some ⟨g, k, none⟩)) (hw : Region.wanted o (yielded ops a.tmps) = true) (hf : factTo T o.dst (.pointer (some ⟨g, k, none⟩)) w) : relStep Tryd.prog ops T o a w :=
  relStep_val (.pointer (some ⟨g, k, none⟩)) hw hf (by
    unfold execOp
    rw [ho]
    simp only [hx]
    go_simp)
theorem op_fp0 {g : Nat} (x : Operand) (ho : o.op = .fieldAddr 63 x 0) (hx : a.eval x = .pointer (some ⟨g, 0, none⟩)) (hw : Region.wanted o (yielded ops a.tmps) = true) (hf : factTo T o.dst (.pointer (some ⟨g, 0, none⟩)) w) : relStep Tryd.prog ops T o a w :=
  relStep_val (.pointer (some ⟨g, 0, none⟩)) hw hf (by
    unfold execOp
    rw [ho]
    simp only [hx]
    go_simp)
theorem op_fp3 {g : Nat} (x : Operand) (ho : o.op = .fieldAddr 63 x 3) (hx : a.eval x = .pointer (some ⟨g, 0, none⟩)) (hw : Region.wanted o (yielded ops a.tmps) = true) (hf : factTo T o.dst (.pointer (some ⟨g, 8, none⟩)) w) : relStep Tryd.prog ops T o a w :=
  relStep_val (.pointer (some ⟨g, 8, none⟩)) hw hf (by
    unfold execOp
    rw [ho]
    simp only [hx]
    go_simp)
theorem op_neN6D {x0 x1 x2 x3 x4 x5 y0 y1 y2 y3 y4 y5 : Nat} {b : Bool} (x y : Operand) (t : TypeId) (hb : decide (x0 = y0 ∧ x1 = y1 ∧ x2 = y2 ∧ x3 = y3 ∧ x4 = y4 ∧ x5 = y5) = b) (ho : o.op = .binOp .neq 24 x y t) (hx : a.eval x = W6 x0 x1 x2 x3 x4 x5) (hy : a.eval y = W6 y0 y1 y2 y3 y4 y5) (hw : Region.wanted o (yielded ops a.tmps) = true) (hf : factTo T o.dst (.bool (!b)) w) : relStep Tryd.prog ops T o a w :=
  relStep_val (.bool (!b)) hw hf (by
    have q := eqIn6 x0 x1 x2 x3 x4 x5 y0 y1 y2 y3 y4 y5 w
    rw [hb] at q
    unfold execOp
    rw [ho]
    simp only [hx, hy]
    go_simp)
end
set_option maxRecDepth 100000 in
theorem en_fsquared (args : Array Value) (w : World) : (callFunc 36 args).run Tryd.prog w = .ok (.enter 36 args) w := by go_simp
theorem fsize_r {P L B S : Nat} (w : World) (hL : L = 4 ∨ L = 6) (hF : FldAt P L w B) (hS : S = 8 * L) :
    Calls Tryd.prog 43 #[.pointer (some ⟨B, 0, none⟩)] w (RetR (fun _ v => v = .int .i64 (S : Nat)) w) :=
  (fsize_c w hL hF).mono (by
    rintro e w' ⟨rfl, rfl⟩
    subst hS
    exact ⟨_, rfl, rfl, Below.refl _ _⟩)
/-- squared, told by its limbs. -/
theorem fsquared_r {P L B T a n x0 x1 x2 x3 x4 x5 : Nat} (w : World) (hk : FNum P L) (hF : FldAt P L w B) (lx : Lim6 x0 x1 x2 x3 x4 x5) (ex : n6 x0 x1 x2 x3 x4 x5 = mt P (RR L) a) (hT : T ≤ 1000) (hn : n = mt P (RR L) (a ^ 2 ^ T)) :
    Calls Tryd.prog 36 #[.pointer (some ⟨B, 0, none⟩), W6 x0 x1 x2 x3 x4 x5, .int .i64 (T : Nat)] w (RetR (fun _ v => v = W6 (lb n 0) (lb n 1) (lb n 2) (lb n 3) (lb n 4) (lb n 5)) w) :=
  (fsquared_c w hk hF lx ex hT).mono (by
    rintro e w' ⟨s0, s1, s2, s3, s4, s5, rfl, ls, es, hb⟩
    obtain ⟨rfl, rfl, rfl, rfl, rfl, rfl⟩ := lb_at ls (es.trans hn.symm)
    exact ⟨_, rfl, rfl, hb⟩)
end Go.Proofs.YteaafnjflghlhaaDoor
namespace Go.Proofs.YteaafnjflghlhaaDoor
open Go.RowKit

/-- What root tells. -/
def RootF (P L a : Nat) (w : World) (e : Ending) (w' : World) : Prop := ∃ s0 s1 s2 s3 s4 s5 A, e = .returned (W6 s0 s1 s2 s3 s4 s5) ∧ Lim6 s0 s1 s2 s3 s4 s5 ∧ n6 s0 s1 s2 s3 s4 s5 = mt P (RR L) A ∧ ((a % P = 0 ∨ a ^ ((P - 1) / 2) % P = 1) → A * A % P = a % P) ∧ Below w.heap.size w w'
theorem five6 : n6 5 0 0 0 0 0 = 5 := by decide
theorem half_odd {q P n : Nat} (hq : P - 1 = q * 2 ^ n) (h1 : 1 < P) (ho : q % 2 = 1) : P / 2 ^ (n + 1) = (q - 1) / 2 ∧ P / 2 ^ n = q ∨ n = 0 := by
  rcases Nat.eq_zero_or_pos n with rfl | hn
  · exact .inr rfl
  · left
    have h2 : 1 < 2 ^ n := Nat.one_lt_two_pow (by omega)
    have e : P = 1 + 2 ^ n * q := by rw [Nat.mul_comm]; omega
    have e2 : P / 2 ^ n = q := by
      rw [e, Nat.add_mul_div_left _ _ (by omega), Nat.div_eq_of_lt h2, Nat.zero_add]
    refine ⟨?_, e2⟩
    rw [Nat.pow_succ, ← Nat.div_div_eq_div_mul, e2]
    omega

set_option maxRecDepth 100000 in
set_option maxHeartbeats 6400000 in
theorem froot_c {k B a x0 x1 x2 x3 x4 x5 : Nat} (w : World) (h1 : 1 ≤ k) (h6 : k ≤ 6) (hT : TabAt w) (hF : FldAt (prm k) (plim k) w B) (lx : Lim6 x0 x1 x2 x3 x4 x5) (ex : n6 x0 x1 x2 x3 x4 x5 = mt (prm k) (RR (plim k)) a) :
    Calls Tryd.prog 35 #[.pointer (some ⟨B, 0, none⟩), W6 x0 x1 x2 x3 x4 x5] w (RootF (prm k) (plim k) a w) := by
  obtain ⟨X, hX⟩ : ∃ X, X = (w.alloc (.cells #[.int .u64 (x0 : Nat), .int .u64 (x1 : Nat), .int .u64 (x2 : Nat), .int .u64 (x3 : Nat), .int .u64 (x4 : Nat), .int .u64 (x5 : Nat)] 24)).alloc (.cells #[.int .u64 0, .int .u64 0, .int .u64 0, .int .u64 0, .int .u64 0, .int .u64 0] 24) := ⟨_, rfl⟩
  obtain ⟨ha, hz, hb, hs⟩ := box_zero hX
  have hBl := hF.lt
  have hTl := hT.lt
  obtain ⟨Y, hY⟩ : ∃ Z, Z = X.alloc (.cells #[.int .u64 0, .int .u64 0, .int .u64 0, .int .u64 0, .int .u64 0, .int .u64 0] 24) := ⟨_, rfl⟩
  obtain ⟨hr1, hbY, hsY⟩ := new_zero hY
  obtain ⟨X1, hX1⟩ : ∃ Z, Z = Y.alloc (.cells #[.int .u64 0, .int .u64 0, .int .u64 0, .int .u64 0, .int .u64 0, .int .u64 0] 24) := ⟨_, rfl⟩
  obtain ⟨hr2, hb1, hs1⟩ := new_zero hX1
  have hbX : Below X.heap.size X X1 := hbY.trans (hb1.mono (by omega))
  have hkn := fnum h1 h6
  have hpr := prm_prime h1 h6
  obtain ⟨S, hS⟩ : ∃ S : Nat, S = 8 * plim k := ⟨_, rfl⟩
  have hS48 : S ≤ 48 := by rcases hkn.limbs with e | e <;> omega
  have hE : dv 256 (tb (prm k) S).reverse = prm k := by
    refine dv_told (tb_len _ _) (fun j hj => tb_get _ _ j hj) ?_
    have h := hkn.fit
    rwa [show (18446744073709551616 : Nat) = 256 ^ 8 from rfl, ← Nat.pow_mul, ← hS] at h
  have CT : Hid (∀ W, Below w.heap.size w W → Calls Tryd.prog 61 #[.int .u64 ((plb k 0 - 1 : Nat) : Int)] W fun e w' => e = .returned (.int .i64 (tz k : Nat)) ∧ w' = W) := fun W h => ftz_c W h1 h6 (hT.below h hTl)
  have hpl := plb_facts h1 h6
  have htz := tz_facts h1 h6
  have hsm := prm_small h1 h6
  obtain ⟨zs, hzs⟩ : ∃ zs, zs = tb (prm k) S := ⟨_, rfl⟩
  have hzl : zs.length ≤ 48 := by rw [hzs, tb_len]; exact hS48
  rw [← hzs] at hE
  have HFW : Hid (∀ W, Below w.heap.size w W → FldAt (prm k) (plim k) W B) := fun W h => hF.below h hBl
  have hF1 := hF.below (hb.trans (hbX.mono (by omega))) hBl
  obtain ⟨p0, p1, p2, p3, p4, p5, pv, o0, o1, o2, o3, o4, o5, q0, q1, q2, q3, q4, q5, hC⟩ := hF1
  have hp0 : p0 = plb k 0 := by
    have h := lb_at hC.lp hC.np
    exact h.1
  have CTX : Hid (∀ W, Calls Tryd.prog 45 #[W6 p0 p1 p2 p3 p4 p5, .int .i64 (S : Nat)] W (RetR (fun w' v => Byt w' v zs) W)) := fun W => by rw [hzs]; exact ftext_r W hC.lp hS48 hC.np
  have HX := Lib.hid hX
  have HY := Lib.hid hY
  have HX1 := Lib.hid hX1
  have HK := Lib.hid hkn
  have HPR := Lib.hid hpr
  have HTZ := Lib.hid htz
  have HSM := Lib.hid hsm
  have HSS := Lib.hid hS
  have HE := Lib.hid hE
  have HZL := Lib.hid hzl
  have HBL := Lib.hid hBl
  have HC := Lib.hid hC
  have HP0 : Hid (p0 = plb k 0 ∧ plb k 0 % 2 = 1 ∧ plb k 0 < 18446744073709551616) := ⟨hp0, hpl.2.2.1, hpl.1.1⟩
  have HF1 : Hid (FldAt (prm k) (plim k) X1 B) := ⟨_, _, _, _, _, _, _, _, _, _, _, _, _, _, _, _, _, _, _, hC⟩
  have HW1 : Hid (Below w.heap.size w X1) := hb.trans (hbX.mono (by omega))
  have HA1 : Hid (At6 X1 w.heap.size (mt (prm k) (RR (plim k)) (a))) := (show At6 X w.heap.size (mt (prm k) (RR (plim k)) (a)) from ⟨_, _, _, _, _, _, ha, lx, ex⟩).keepB (hbX.block _ (by omega))
  have HR1 : Hid (Six X1 (w.heap.size + 1) 0 0 0 0 0 0) := hz.keepB (hbX.block _ (by omega))
  have HO1 : Hid (Six X1 (w.heap.size + 2) 0 0 0 0 0 0) := by
    have := hr1.keepB (hb1.block X.heap.size (by omega))
    rwa [hs] at this
  have HQ1 : Hid (Six X1 (w.heap.size + 3) 0 0 0 0 0 0) := by
    have := hr2
    rwa [hsY, hs] at this
  have HS1 : Hid (X1.heap.size = w.heap.size + 4) := by show _ = _; omega
  have HSX : Hid (X.heap.size = w.heap.size + 2 ∧ Y.heap.size = w.heap.size + 3) := ⟨hs, by omega⟩
  clear hX hY hX1 hkn hpr htz hsm hS hE hzl hBl hC hp0 hpl hF lx ex ha hz hb hs hTl hr1 hr2 hbY hb1 hsY hs1 hbX hS48 hzs hT h1 h6
  go_enter Tryd.func35, Tryd.ntmps35
  go_upto_region 1 with (fail)
  rw [← HX.out]
  clear HX
  go_upto_region 2 with (fail)
  rw [← HY.out, ← HX1.out, HSX.out.1, show w.heap.size + 2 + 1 = w.heap.size + 3 from rfl]
  clear HY HX1 HSX
  refine wp_region_see 8 [13, 14, 15, 16, 17, 18, 19, 7] [(13, .is (.pointer (some ⟨B, 0, none⟩))), (14, .is (.pointer (some ⟨B, 0, none⟩))), (15, .is (.pointer (some ⟨B, 0, none⟩))), (16, .is (W6 p0 p1 p2 p3 p4 p5)), (17, .is (.pointer (some ⟨B, 0, none⟩))), (18, .is (.int .i64 (S : Nat))), (19, .byt zs), (7, .byt zs)] (by kernel_rfl) (by kernel_rfl) (by rfl) ?_ ?_
  · refine seeOps_cons ?_ (seeOps_cons ?_ (seeOps_cons ?_ (seeOps_cons ?_ (seeOps_cons ?_ (seeOps_cons ?_ (seeOps_cons ?_ (seeOps_cons ?_ seeOps_nil)))))))
    · intro w9 hb9 fr hout hin
      have h0 : fr.tmps.getD 0 undef = .pointer (some ⟨B, 0, none⟩) := hout 0 (by decide)
      clear hout hin
      exact relStep_move (.tmp 0) rfl (wanted_none rfl) (by show fr.tmps.getD 0 undef = _; rw [h0])
    · intro w9 hb9 fr hout hin
      have h13 : fr.tmps.getD 13 undef = .pointer (some ⟨B, 0, none⟩) := hin 13 (by decide) (by decide)
      clear hout hin
      exact op_nil (.tmp 13) rfl h13 (wanted_none rfl) rfl
    · intro w9 hb9 fr hout hin
      have h14 : fr.tmps.getD 14 undef = .pointer (some ⟨B, 0, none⟩) := hin 14 (by decide) (by decide)
      clear hout hin
      exact op_fp0 (.tmp 14) rfl h14 (wanted_none rfl) rfl
    · intro w9 hb9 fr hout hin
      have h15 : fr.tmps.getD 15 undef = .pointer (some ⟨B, 0, none⟩) := hin 15 (by decide) (by decide)
      clear hout hin
      exact op_load6 (.tmp 15) rfl h15 (HC.out.hp.keepB (hb9.block B HF1.out.lt)) (wanted_none rfl) rfl
    · intro w9 hb9 fr hout hin
      have h0 : fr.tmps.getD 0 undef = .pointer (some ⟨B, 0, none⟩) := hout 0 (by decide)
      clear hout hin
      exact relStep_move (.tmp 0) rfl (wanted_none rfl) (by show fr.tmps.getD 0 undef = _; rw [h0])
    · intro w9 hb9 fr hout hin
      have h17 : fr.tmps.getD 17 undef = .pointer (some ⟨B, 0, none⟩) := hin 17 (by decide) (by decide)
      clear hout hin
      exact op_call1 (.tmp 17) rfl en_size (wanted_none rfl) (by rw [show fr.eval (.tmp 17) = _ from h17]; exact fsize_r w9 HK.out.limbs (HF1.out.below hb9 HF1.out.lt) HSS.out) (fun _ _ h => h)
    · intro w9 hb9 fr hout hin
      have h16 : fr.tmps.getD 16 undef = W6 p0 p1 p2 p3 p4 p5 := hin 16 (by decide) (by decide)
      have h18 : fr.tmps.getD 18 undef = .int .i64 (S : Nat) := hin 18 (by decide) (by decide)
      clear hout hin
      exact op_callB (.tmp 16) (.tmp 18) rfl en_text (wanted_none rfl) (by rw [show fr.eval (.tmp 16) = _ from h16, show fr.eval (.tmp 18) = _ from h18]; exact CTX.out w9) (fun _ _ h => h)
    · intro w9 hb9 fr hout hin
      have h19 : Byt w9 (fr.tmps.getD 19 undef) zs := hin 19 (by decide) (by decide)
      clear hout hin
      exact relStep_assign (.tmp 19) rfl (wanted_none rfl) h19
  intro w2 hbn
  refine relAsk_in (by rfl) ?_
  intro v13 h13
  obtain rfl : v13 = .pointer (some ⟨B, 0, none⟩) := h13
  refine relAsk_in (by rfl) ?_
  intro v14 h14
  obtain rfl : v14 = .pointer (some ⟨B, 0, none⟩) := h14
  refine relAsk_in (by rfl) ?_
  intro v15 h15
  obtain rfl : v15 = .pointer (some ⟨B, 0, none⟩) := h15
  refine relAsk_in (by rfl) ?_
  intro v16 h16
  obtain rfl : v16 = W6 p0 p1 p2 p3 p4 p5 := h16
  refine relAsk_in (by rfl) ?_
  intro v17 h17
  obtain rfl : v17 = .pointer (some ⟨B, 0, none⟩) := h17
  refine relAsk_in (by rfl) ?_
  intro v18 h18
  obtain rfl : v18 = .int .i64 (S : Nat) := h18
  refine relAsk_in (by rfl) ?_
  intro v19 h19
  refine relAsk_in (by rfl) ?_
  intro v7 h7
  refine relAsk_nil ?_
  refine wpList_nil ?_
  clear h19
  obtain ⟨A7, c7, rfl, hr7, hd7⟩ := h7
  have hW2 : Below w.heap.size w w2 := HW1.out.trans (hbn.mono (by rw [HS1.out]; omega))
  have CP : Hid (∀ W T E' b y0 y1 y2 y3 y4 y5, Below w.heap.size w W → Rd .u8 W A7 c7 zs → Lim6 y0 y1 y2 y3 y4 y5 → n6 y0 y1 y2 y3 y4 y5 = (mt (prm k) (RR (plim k)) (b)) → E' = prm k / 2 ^ T → Calls Tryd.prog 62 #[.pointer (some ⟨B, 0, none⟩), W6 y0 y1 y2 y3 y4 y5, .slice A7 zs.length c7, .int .i64 (T : Nat)] W fun e w' => ∃ s0 s1 s2 s3 s4 s5, e = .returned (W6 s0 s1 s2 s3 s4 s5) ∧ Lim6 s0 s1 s2 s3 s4 s5 ∧ n6 s0 s1 s2 s3 s4 s5 = (mt (prm k) (RR (plim k)) (b ^ E')) ∧ Below W.heap.size W w') := by
    show ∀ W T E' b y0 y1 y2 y3 y4 y5, _
    intro W T E' b y0 y1 y2 y3 y4 y5 hW hr ly ey hE
    rw [hE]
    exact fpower_c W HK.out (HFW.out W hW) ly ey hr hd7 HZL.out HE.out
  have HRD2 := Lib.hid hr7
  obtain ⟨n7, hn7⟩ : ∃ n, n = zs.length := ⟨_, rfl⟩
  rw [← hn7] at CP ⊢
  have HA2 := Lib.hid (HA1.out.keepB (hbn.block _ (by rw [HS1.out]; omega)))
  have HR2 := Lib.hid (HR1.out.keepB (hbn.block _ (by rw [HS1.out]; omega)))
  have HO2 := Lib.hid (HO1.out.keepB (hbn.block _ (by rw [HS1.out]; omega)))
  have HQ2 := Lib.hid (HQ1.out.keepB (hbn.block _ (by rw [HS1.out]; omega)))
  have HC2 := Lib.hid (HC.out.keepB (hbn.block B HF1.out.lt))
  have HS2 : Hid (w.heap.size + 4 ≤ w2.heap.size) := by have := hbn.size; have := HS1.out; show _ ≤ _; omega
  have HW2 := Lib.hid hW2
  obtain ⟨d0, -, -, -, -, -⟩ := HC2.out.hp
  have hd0 : w2.cell? ⟨B, 0, none⟩ = some (.int .u64 (p0 : Nat)) := d0
  have CT2 := CT.out w2 hW2
  have hw0 : IntKind.u64.wrap ((p0 : Int) - 1) = ((plb k 0 - 1 : Nat) : Int) := by
    have := HP0.out
    rw [this.1]
    have e : ((plb k 0 : Nat) : Int) - 1 = ((plb k 0 - 1 : Nat) : Int) := by omega
    rw [e, wrapN _ (by omega)]
  obtain ⟨tt, htt⟩ : ∃ t, t = tz k := ⟨_, rfl⟩
  rw [← htt] at CT2
  have CT2 := Lib.hid CT2
  have htz : tt ≤ 32 := by
    rcases HTZ.out with h | ⟨n, q, h, -, -, -, h2⟩
    · rw [htt, h.1]; omega
    · rw [htt, h]; exact h2
  have HTT := Lib.hid htt
  have htz' : (tt : Int) ≤ 32 := by omega
  have hw1 : IntKind.i64.wrap ((tt : Int) + 1) = (tt : Int) + 1 := IntWalk.i64_in _ (by omega)
  clear hr7 hd7 hn7 hbn htt htz HA1 HR1 HO1 HQ1 HC HF1 HS1 HW1 hW2 CTX CT d0
  go_simp
  go_wp2_with fail
  (with_reducible refine (CT2.out).mono ?_)
  rintro e w3 ⟨rfl, rfl⟩
  obtain ⟨a0, a1, a2, a3, a4, a5, hA, lA, eA⟩ := HA2.out
  obtain ⟨⟨c0, c1, c2, c3, c4, c5⟩, -⟩ := hA.cells
  have C4 := CP.out w3 (tt + 1) _ a a0 a1 a2 a3 a4 a5 HW2.out HRD2.out lA eA rfl
  rw [show ((tt + 1 : Nat) : Int) = (tt : Int) + 1 by omega] at C4
  have C4 := Lib.hid C4
  clear CT2 hA lA eA hd0
  go_wp2_with fail
  (with_reducible refine (C4.out).mono ?_)
  rintro e w4 ⟨g0, g1, g2, g3, g4, g5, rfl, lg, eg, hb4⟩
  obtain ⟨X4, hX4⟩ : ∃ Z, Z = w4.alloc (.cells #[.int .u64 (g0 : Nat), .int .u64 (g1 : Nat), .int .u64 (g2 : Nat), .int .u64 (g3 : Nat), .int .u64 (g4 : Nat), .int .u64 (g5 : Nat)] 24) := ⟨_, rfl⟩
  have hg4 : Six X4 w4.heap.size g0 g1 g2 g3 g4 g5 := by rw [hX4]; exact six_new (heap_alloc_new w4 _)
  have hbx : Below w4.heap.size w4 X4 := by rw [hX4]; exact (Below.refl _ _).alloc (Nat.le_refl _) _
  have hsx : X4.heap.size = w4.heap.size + 1 := by rw [hX4]; simp
  have hb34 : Below w3.heap.size w3 X4 := hb4.trans (hbx.mono hb4.size)
  have hs2 := HS2.out
  have HG4 : Hid (At6 X4 w4.heap.size (mt (prm k) (RR (plim k)) (a ^ (prm k / 2 ^ (tt + 1))))) := ⟨_, _, _, _, _, _, hg4, lg, eg⟩
  have HA4 := Lib.hid (HA2.out.keepB (hb34.block _ (by omega)))
  have HR4 := Lib.hid (HR2.out.keepB (hb34.block _ (by omega)))
  have HO4 := Lib.hid (HO2.out.keepB (hb34.block _ (by omega)))
  have HQ4 := Lib.hid (HQ2.out.keepB (hb34.block _ (by omega)))
  have HRD4 := Lib.hid (HRD2.out.below hb34)
  have HW4 := Lib.hid (HW2.out.trans (hb34.mono (by omega)))
  have HS4 : Hid (w.heap.size + 4 ≤ w4.heap.size ∧ X4.heap.size = w4.heap.size + 1) := ⟨by have := hb4.size; omega, hsx⟩
  have hoB : w.heap.size + 2 ≠ B := by have := HBL.out; omega
  have hqB : w.heap.size + 3 ≠ B := by have := HBL.out; omega
  have HOB := Lib.hid hoB
  have HQB := Lib.hid hqB
  have C5 := Lib.hid (ftimesM_c X4 HK.out (HFW.out X4 HW4.out) HA4.out.o HG4.out.o (HO4.out.at6 lim6_0) hoB)
  have HX4 := Lib.hid hX4
  have HB4s : Hid (w3.heap.size ≤ w4.heap.size) := hb4.size
  have HSG : Hid (w.heap.size + 4 ≤ w3.heap.size) := HS2.out
  clear hX4 hg4 hbx hsx hb34 hs2 lg eg hb4 hoB hqB HA2 HR2 HO2 HQ2 HRD2 C4 c0 c1 c2 c3 c4 c5
  go_upto_region 5 with (fail)
  rw [← HX4.out]
  clear HX4
  go_wp2_with fail
  (with_reducible refine (C5.out).mono ?_)
  rintro e w5 ⟨rfl, hp, ho⟩
  have hs4 := HS4.out
  have HO5 := Lib.hid ho
  have HG5 := Lib.hid (HG4.out.put hp (by omega))
  have HR5 := Lib.hid (HR4.out.put hp (by omega))
  have HQ5 := Lib.hid (HQ4.out.put hp (by omega))
  have HW5 := Lib.hid (HW4.out.trans (hp.low (b := w.heap.size) (by omega)))
  have HRD5 := Lib.hid (HRD4.out.put6 hp HO4.out)
  have htt := HTT.out
  rcases HTZ.out with ⟨h1, h4⟩ | ⟨n, q, h1, hq, hqo, h5, h32⟩
  · obtain rfl : tt = 1 := htt.trans h1
    obtain ⟨s0, s1, s2, s3, s4, s5, hs, ls, es⟩ := HO5.out
    obtain ⟨⟨c0, c1, c2, c3, c4, c5⟩, -⟩ := hs.cells
    obtain ⟨⟨y0, y1, y2, y3, y4, y5⟩, f0, f1, f2, f3, f4, f5⟩ := HR5.out.cells
    have HLS := Lib.hid ls
    have HES := Lib.hid es
    have H4 := Lib.hid h4
    clear hp ho hs4 htt h1 h4 hs ls es C5 HO5 HG5 HQ5 HRD5 HG4 HA4 HR4 HQ4 HO4 HRD4 HW4 CP
    go_wp2_with fail
    clear c0 c1 c2 c3 c4 c5
    have gW := HW5.out
    clear y0 y1 y2 y3 y4 y5 f0 f1 f2 f3 f4 f5
    obtain ⟨Y, hY⟩ : ∃ Y, Y = (((((w5.setCell ⟨w.heap.size + 1, 0, none⟩ (.int .u64 (s0 : Nat))).setCell ⟨w.heap.size + 1, 1, none⟩ (.int .u64 (s1 : Nat))).setCell ⟨w.heap.size + 1, 2, none⟩ (.int .u64 (s2 : Nat))).setCell ⟨w.heap.size + 1, 3, none⟩ (.int .u64 (s3 : Nat))).setCell ⟨w.heap.size + 1, 4, none⟩ (.int .u64 (s4 : Nat))).setCell ⟨w.heap.size + 1, 5, none⟩ (.int .u64 (s5 : Nat)) := ⟨_, rfl⟩
    rw [← hY]
    obtain ⟨⟨y0, y1, y2, y3, y4, y5⟩, hb⟩ := put_end HR5.out s0 s1 s2 s3 s4 s5 hY
    clear hY
    exact bodyPost_ret (v := W6 s0 s1 s2 s3 s4 s5) (by simp [results, Tryd.results35, go_sem, y0, y1, y2, y3, y4, y5]) rfl ⟨s0, s1, s2, s3, s4, s5, _, rfl, HLS.out, HES.out, fun h => first_root H4.out h, gW.trans (hb.mono (by omega))⟩
  · have htn : tt = n + 2 := htt.trans h1
    clear htt h1
    have ht1 : ((tt : Int) == 1) = false := by simp; omega
    have ht2 : IntKind.i64.wrap ((tt : Int) - 2) = (n : Int) := by rw [IntWalk.i64_in _ (by omega)]; omega
    have C6 := Lib.hid (ftimesM_c w5 HK.out (HFW.out w5 HW5.out) HO5.out.o HG5.out.o (HQ5.out.at6 lim6_0) HQB.out)
    have HPP := HPR.out.1.1
    have hhalf := (half_odd (n := n + 2) hq HPP hqo).resolve_right (by omega)
    have H5 : Hid (5 ^ ((prm k - 1) / 2) % prm k = prm k - 1) := by
      have hsm : prm k < 2 ^ 400 := Nat.le_of_ble_eq_true HSM.out
      rw [pw_eq (prm k) 5 400 _ (Nat.lt_of_le_of_lt (Nat.div_le_self _ _) (Nat.lt_of_le_of_lt (Nat.sub_le _ _) hsm))] at h5
      exact h5
    have HH := Lib.hid hhalf
    have HQE := Lib.hid (And.intro hq hqo)
    have HTN := Lib.hid htn
    have hnn : (n : Int) ≤ 30 := by omega
    clear hp ho hs4 h5 hq hqo hhalf HPP C5 HG4 HA4 HR4 HQ4 HO4 HRD4 HW4 HTZ HSM HTT htn
    go_wp2_with fail
    (with_reducible refine (C6.out).mono ?_)
    rintro e w6 ⟨rfl, hp, hr6⟩
    have hs4 := HS4.out
    have HO6 := Lib.hid (HO5.out.put hp (by omega))
    have HR6 := Lib.hid (HR5.out.put hp (by omega))
    have HQ6 := Lib.hid hr6
    have HW6 := Lib.hid (HW5.out.trans (hp.low (b := w.heap.size) (by omega)))
    have HRD6 := Lib.hid (HRD5.out.put6 hp HQ5.out)
    have HSZ6 : Hid (w6.heap.size = w5.heap.size ∧ w.heap.size + 4 ≤ w6.heap.size) := ⟨hp.size, by have := HG5.out.lt; have := hp.size; omega⟩
    have CE := fenter_c (x0 := 5) (x1 := 0) (x2 := 0) (x3 := 0) (x4 := 0) (x5 := 0) w6 HK.out (HFW.out w6 HW6.out) ⟨lim_small (by omega), lim0, lim0, lim0, lim0, lim0⟩
    unfold W6 at CE
    rw [show ((5 : Nat) : Int) = 5 from rfl, show ((0 : Nat) : Int) = 0 from rfl, five6] at CE
    have CE := Lib.hid CE
    clear hp hr6 hs4 C6 HO5 HR5 HG5 HW5 HRD5 HQ5
    go_wp2_with fail
    (with_reducible refine (CE.out).mono ?_)
    rintro e w7 ⟨u0, u1, u2, u3, u4, u5, rfl, lu, eu, hb7⟩
    have hw7 := HW6.out.trans (hb7.mono HW6.out.size)
    have C7 := Lib.hid (CP.out w7 tt _ 5 u0 u1 u2 u3 u4 u5 hw7 (HRD6.out.below hb7) lu eu rfl)
    have HB7 := Lib.hid hb7
    clear lu eu hb7 hw7 CE CP HRD6
    go_wp2_with fail
    (with_reducible refine (C7.out).mono ?_)
    rintro e w8 ⟨t0, t1, t2, t3, t4, t5, rfl, lt, et, hb8⟩
    obtain ⟨X8, hX8⟩ : ∃ Z, Z = w8.alloc (.cells #[.int .u64 (t0 : Nat), .int .u64 (t1 : Nat), .int .u64 (t2 : Nat), .int .u64 (t3 : Nat), .int .u64 (t4 : Nat), .int .u64 (t5 : Nat)] 24) := ⟨_, rfl⟩
    have ht8 : Six X8 w8.heap.size t0 t1 t2 t3 t4 t5 := by rw [hX8]; exact six_new (heap_alloc_new w8 _)
    have hbx : Below w8.heap.size w8 X8 := by rw [hX8]; exact (Below.refl _ _).alloc (Nat.le_refl _) _
    have hb68 : Below w6.heap.size w6 X8 := (HB7.out.trans (hb8.mono HB7.out.size)).trans (hbx.mono (Nat.le_trans HB7.out.size hb8.size))
    have hs6 := HSZ6.out.2
    have HT8 : Hid (At6 X8 w8.heap.size ((mt (prm k) (RR (plim k)) (5 ^ q)))) := ⟨_, _, _, _, _, _, ht8, lt, by rw [et, HTN.out, HH.out.2]⟩
    have HO8 := Lib.hid (HO6.out.keepB (hb68.block _ (by omega)))
    have HR8 := Lib.hid (HR6.out.keepB (hb68.block _ (by omega)))
    have HQ8 := Lib.hid (HQ6.out.keepB (hb68.block _ (by omega)))
    have HW8 := Lib.hid (HW6.out.trans (hb68.mono (by omega)))
    have HGS : Hid (w.heap.size + 4 ≤ w8.heap.size) := by have := HB7.out.size; have := hb8.size; show _ ≤ _; omega
    have HX8 := Lib.hid hX8
    have HK8 : Hid (Shk (prm k) a (n + 1) (a * a ^ (prm k / 2 ^ (tt + 1))) (a * a ^ (prm k / 2 ^ (tt + 1)) * a ^ (prm k / 2 ^ (tt + 1))) (5 ^ q)) := by
      show Shk _ _ _ _ _ _
      rw [HTN.out, show n + 2 + 1 = (n + 2) + 1 from rfl, HH.out.1]
      exact Shk.first (n := n + 1) HQE.out.1 HQE.out.2 H5.out
    clear hX8 ht8 hbx hb68 lt et hb8 hs6 C7 HB7 HO6 HR6 HQ6 HW6 ht1
    go_upto_region 10 with (fail)
    rw [← HX8.out]
    clear HX8
    generalize w8.heap.size = gs at *
    generalize a * a ^ (prm k / 2 ^ (tt + 1)) = A0 at *
    go_wp2_with fail
    go_loopw [11] (fun v11 wr => ∃ m A r t : Nat, m ≤ n + 1 ∧ v11 = .int .i64 ((m : Int) - 1) ∧ Hid (Shk (prm k) a m A r t) ∧ Hid (At6 wr (w.heap.size + 2) (mt (prm k) (RR (plim k)) (A))) ∧ Hid (At6 wr (w.heap.size + 3) (mt (prm k) (RR (plim k)) (r))) ∧ Hid (At6 wr gs (mt (prm k) (RR (plim k)) (t))) ∧ Hid (Six wr (w.heap.size + 1) 0 0 0 0 0 0) ∧ Hid (Below w.heap.size w wr))
      (fun v11 _ => (intOf v11 + 1).toNat)
    case atStart => exact ⟨n + 1, A0, _, 5 ^ q, Nat.le_refl _, by rw [show (((n + 1 : Nat) : Int) - 1) = (n : Int) by omega], HK8, HO8, HQ8, HT8, HR8, HW8⟩
    case round =>
      clear HK8 HO8 HQ8 HT8 HR8 HW8
      obtain ⟨m, A, r, t, hm, rfl, HK9, HO, HQ, HT, HR, HW⟩ := hrel
      rcases Nat.eq_zero_or_pos m with rfl | hm0
      · obtain ⟨s0, s1, s2, s3, s4, s5, hs, ls, es⟩ := HO.out
        obtain ⟨⟨c0, c1, c2, c3, c4, c5⟩, -⟩ := hs.cells
        obtain ⟨⟨y0, y1, y2, y3, y4, y5⟩, f0, f1, f2, f3, f4, f5⟩ := HR.out.cells
        have HLS := Lib.hid ls
        have HES := Lib.hid es
        clear hs ls es HO HQ HT
        go_wp2_with fail
        clear c0 c1 c2 c3 c4 c5
        have gW := HW.out
        clear y0 y1 y2 y3 y4 y5 f0 f1 f2 f3 f4 f5
        obtain ⟨Y, hY⟩ : ∃ Y, Y = (((((wr.setCell ⟨w.heap.size + 1, 0, none⟩ (.int .u64 (s0 : Nat))).setCell ⟨w.heap.size + 1, 1, none⟩ (.int .u64 (s1 : Nat))).setCell ⟨w.heap.size + 1, 2, none⟩ (.int .u64 (s2 : Nat))).setCell ⟨w.heap.size + 1, 3, none⟩ (.int .u64 (s3 : Nat))).setCell ⟨w.heap.size + 1, 4, none⟩ (.int .u64 (s4 : Nat))).setCell ⟨w.heap.size + 1, 5, none⟩ (.int .u64 (s5 : Nat)) := ⟨_, rfl⟩
        rw [← hY]
        obtain ⟨⟨y0, y1, y2, y3, y4, y5⟩, hb⟩ := put_end HR.out s0 s1 s2 s3 s4 s5 hY
        clear hY
        exact bodyPost_ret (v := W6 s0 s1 s2 s3 s4 s5) (by simp [results, Tryd.results35, go_sem, y0, y1, y2, y3, y4, y5]) rfl ⟨s0, s1, s2, s3, s4, s5, A, rfl, HLS.out, HES.out, fun h => HK9.out.done h, gW.trans (hb.mono (by omega))⟩
      · obtain ⟨p, rfl⟩ : ∃ p, m = p + 1 := ⟨m - 1, by omega⟩
        have hp1 : IntKind.i64.wrap ((p : Int) - 1) = (p : Int) - 1 := IntWalk.i64_in _ (by omega)
        rw [show (((p + 1 : Nat) : Int) - 1) = (p : Int) by omega]
        obtain ⟨e0, e1, e2, e3, e4, e5, hE, lE, eE⟩ := HT.out
        obtain ⟨⟨c0, c1, c2, c3, c4, c5⟩, -⟩ := hE.cells
        have CS := fsquared_c (T := 1) wr HK.out (HFW.out wr HW.out) lE eE (by omega)
        rw [show ((1 : Nat) : Int) = 1 from rfl, show t ^ 2 ^ 1 = t * t by rw [Nat.pow_one]; exact Nat.pow_two t] at CS
        have CS := Lib.hid CS
        clear hE lE eE
        go_wp2_with fail
        (with_reducible refine (CS.out).mono ?_)
        rintro e w9 ⟨f0, f1, f2, f3, f4, f5, rfl, lf, ef, hb9⟩
        obtain ⟨X9, hX9⟩ : ∃ Z, Z = w9.alloc (.cells #[.int .u64 (f0 : Nat), .int .u64 (f1 : Nat), .int .u64 (f2 : Nat), .int .u64 (f3 : Nat), .int .u64 (f4 : Nat), .int .u64 (f5 : Nat)] 24) := ⟨_, rfl⟩
        have hf9 : Six X9 w9.heap.size f0 f1 f2 f3 f4 f5 := by rw [hX9]; exact six_new (heap_alloc_new w9 _)
        have hbx : Below w9.heap.size w9 X9 := by rw [hX9]; exact (Below.refl _ _).alloc (Nat.le_refl _) _
        have hsx : X9.heap.size = w9.heap.size + 1 := by rw [hX9]; simp
        have hb99 : Below wr.heap.size wr X9 := hb9.trans (hbx.mono hb9.size)
        have l1 := HO.out.lt
        have l2 := HQ.out.lt
        have l3 := HT.out.lt
        have l4 : w.heap.size + 1 < wr.heap.size := by omega
        have HO9 := Lib.hid (HO.out.keepB (hb99.block _ l1))
        have HQ9 := Lib.hid (HQ.out.keepB (hb99.block _ l2))
        have HT9 := Lib.hid (HT.out.keepB (hb99.block _ l3))
        have HR9 := Lib.hid (HR.out.keepB (hb99.block _ l4))
        have hw9 := HW.out.trans (hb99.mono (by omega))
        have HF9 := Lib.hid (HFW.out X9 hw9)
        have HW9 := Lib.hid hw9
        have HSQ9 : Hid (At6 X9 w9.heap.size (mt (prm k) (RR (plim k)) (t * t))) := ⟨_, _, _, _, _, _, hf9, lf, ef⟩
        have HSZ9 : Hid (gs < w9.heap.size ∧ w.heap.size + 3 < w9.heap.size ∧ w9.heap.size < X9.heap.size ∧ wr.heap.size ≤ w9.heap.size) := ⟨by have := hb9.size; omega, by have := hb9.size; omega, by omega, hb9.size⟩
        obtain ⟨Ri, hRi⟩ := HK.out.ri
        obtain ⟨N, hN⟩ : ∃ N, N = (mt (prm k) (RR (plim k)) (r ^ 2 ^ p)) := ⟨_, rfl⟩
        obtain ⟨M1, hM1⟩ : ∃ N, N = (mt (prm k) (RR (plim k)) (1)) := ⟨_, rfl⟩
        have hPd := HK.out.dbl
        have hP1 := HK.out.pos
        have hNl : N < prm k := by rw [hN]; exact mt_lt hP1
        have hMl : M1 < prm k := by rw [hM1]; exact mt_lt hP1
        have hNM : N = M1 ↔ r ^ 2 ^ p % prm k = 1 := by rw [hN, hM1, mt_eq hRi, Nat.mod_eq_of_lt hP1]
        have hdec : r ^ 2 ^ p % prm k ≠ 1 → decide (lb N 0 = lb M1 0 ∧ lb N 1 = lb M1 1 ∧ lb N 2 = lb M1 2 ∧ lb N 3 = lb M1 3 ∧ lb N 4 = lb M1 4 ∧ lb N 5 = lb M1 5) = false := fun hr => decide_eq_false (fun ⟨q0, q1, q2, q3, q4, q5⟩ => hr (hNM.1 (by
          rw [← n6_lb (n := N) (by omega), ← n6_lb (n := M1) (by omega), q0, q1, q2, q3, q4, q5])))
        have HDC := Lib.hid hdec
        have HNM := Lib.hid hNM
        obtain ⟨r0, r1, r2, r3, r4, r5, hRR, lR, eR⟩ := HQ9.out
        obtain ⟨o0, o1, o2, o3, o4, o5, hO1, lO, eO⟩ := HF9.out.one
        obtain ⟨rfl, rfl, rfl, rfl, rfl, rfl⟩ := lb_at lO (eO.trans hM1.symm)
        have HLR := Lib.hid (And.intro lR eR)
        have HRR := Lib.hid hRR
        have HO1 := Lib.hid hO1
        have HN := Lib.hid hN
        have HX9 := Lib.hid hX9
        have HPL : Hid (p ≤ 1000) := by show _ ≤ _; omega
        clear hX9 hf9 hbx hsx hb99 l1 l2 l3 l4 hw9 lf ef hb9 hRi hN hM1 hPd hP1 hNl hMl hNM hdec hRR lR eR hO1 lO eO HO HQ HT HR HW CS c0 c1 c2 c3 c4 c5
        go_upto_region 14 with (fail)
        rw [← HX9.out]
        clear HX9
        by_cases hr : r ^ 2 ^ p % prm k = 1
        · have HRE := Lib.hid hr
          obtain rfl : N = M1 := HNM.out.2 hr
          clear hr HDC HNM
          refine wp_region_see 9 [56, 57, 58, 59, 60, 61, 62, 63, 64] [(56, .is (.pointer (some ⟨B, 0, none⟩))), (57, .is (W6 r0 r1 r2 r3 r4 r5)), (58, .is (.int .i64 (p : Nat))), (59, .is (W6 (lb N 0) (lb N 1) (lb N 2) (lb N 3) (lb N 4) (lb N 5))), (60, .is (.pointer (some ⟨B, 0, none⟩))), (61, .is (.pointer (some ⟨B, 0, none⟩))), (62, .is (.pointer (some ⟨B, 8, none⟩))), (63, .is (W6 (lb N 0) (lb N 1) (lb N 2) (lb N 3) (lb N 4) (lb N 5))), (64, .is (.bool false))] (by kernel_rfl) (by kernel_rfl) (by rfl) ?_ ?_
          · refine seeOps_cons ?_ (seeOps_cons ?_ (seeOps_cons ?_ (seeOps_cons ?_ (seeOps_cons ?_ (seeOps_cons ?_ (seeOps_cons ?_ (seeOps_cons ?_ (seeOps_cons ?_ seeOps_nil))))))))
            · intro wq hb9 fr hout hin
              have h0 : fr.tmps.getD 0 undef = .pointer (some ⟨B, 0, none⟩) := hout 0 (by decide)
              clear hout hin
              exact relStep_move (.tmp 0) rfl (wanted_none rfl) (by show fr.tmps.getD 0 undef = _; rw [h0])
            · intro wq hb9 fr hout hin
              have h6 : fr.tmps.getD 6 undef = .pointer (some ⟨w.heap.size + 3, 0, none⟩) := hout 6 (by decide)
              clear hout hin
              exact op_load6 (.tmp 6) rfl h6 (HRR.out.1.keepB (hb9.block _ (by have := HSZ9.out; omega))) (wanted_none rfl) rfl
            · intro wq hb9 fr hout hin
              have h11 : fr.tmps.getD 11 undef = .int .i64 (p : Nat) := hout 11 (by decide)
              clear hout hin
              exact relStep_move (.tmp 11) rfl (wanted_none rfl) (by show fr.tmps.getD 11 undef = _; rw [h11])
            · intro wq hb9 fr hout hin
              have h56 : fr.tmps.getD 56 undef = .pointer (some ⟨B, 0, none⟩) := hin 56 (by decide) (by decide)
              have h57 : fr.tmps.getD 57 undef = W6 r0 r1 r2 r3 r4 r5 := hin 57 (by decide) (by decide)
              have h58 : fr.tmps.getD 58 undef = .int .i64 (p : Nat) := hin 58 (by decide) (by decide)
              clear hout hin
              exact op_call3 (.tmp 56) (.tmp 57) (.tmp 58) rfl en_fsquared (wanted_none rfl) (by rw [show fr.eval (.tmp 56) = _ from h56, show fr.eval (.tmp 57) = _ from h57, show fr.eval (.tmp 58) = _ from h58]; exact fsquared_r wq HK.out (HF9.out.below hb9 HF9.out.lt) HLR.out.1 HLR.out.2 HPL.out HN.out) (fun _ _ h => h)
            · intro wq hb9 fr hout hin
              have h0 : fr.tmps.getD 0 undef = .pointer (some ⟨B, 0, none⟩) := hout 0 (by decide)
              clear hout hin
              exact relStep_move (.tmp 0) rfl (wanted_none rfl) (by show fr.tmps.getD 0 undef = _; rw [h0])
            · intro wq hb9 fr hout hin
              have h60 : fr.tmps.getD 60 undef = .pointer (some ⟨B, 0, none⟩) := hin 60 (by decide) (by decide)
              clear hout hin
              exact op_nil (.tmp 60) rfl h60 (wanted_none rfl) rfl
            · intro wq hb9 fr hout hin
              have h61 : fr.tmps.getD 61 undef = .pointer (some ⟨B, 0, none⟩) := hin 61 (by decide) (by decide)
              clear hout hin
              exact op_fp3 (.tmp 61) rfl h61 (wanted_none rfl) rfl
            · intro wq hb9 fr hout hin
              have h62 : fr.tmps.getD 62 undef = .pointer (some ⟨B, 8, none⟩) := hin 62 (by decide) (by decide)
              clear hout hin
              exact op_load6 (.tmp 62) rfl h62 (HO1.out.keepB (hb9.block B HF9.out.lt)) (wanted_none rfl) rfl
            · intro wq hb9 fr hout hin
              have h59 : fr.tmps.getD 59 undef = W6 (lb N 0) (lb N 1) (lb N 2) (lb N 3) (lb N 4) (lb N 5) := hin 59 (by decide) (by decide)
              have h63 : fr.tmps.getD 63 undef = W6 (lb N 0) (lb N 1) (lb N 2) (lb N 3) (lb N 4) (lb N 5) := hin 63 (by decide) (by decide)
              clear hout hin
              exact op_neN6 (.tmp 59) (.tmp 63) _ rfl h59 h63 (wanted_none rfl) rfl
          intro w10 hbn
          refine relAsk_in (by rfl) ?_
          intro v56 h56
          obtain rfl : v56 = .pointer (some ⟨B, 0, none⟩) := h56
          refine relAsk_in (by rfl) ?_
          intro v57 h57
          obtain rfl : v57 = W6 r0 r1 r2 r3 r4 r5 := h57
          refine relAsk_in (by rfl) ?_
          intro v58 h58
          obtain rfl : v58 = .int .i64 (p : Nat) := h58
          refine relAsk_in (by rfl) ?_
          intro v59 h59
          obtain rfl : v59 = W6 (lb N 0) (lb N 1) (lb N 2) (lb N 3) (lb N 4) (lb N 5) := h59
          refine relAsk_in (by rfl) ?_
          intro v60 h60
          obtain rfl : v60 = .pointer (some ⟨B, 0, none⟩) := h60
          refine relAsk_in (by rfl) ?_
          intro v61 h61
          obtain rfl : v61 = .pointer (some ⟨B, 0, none⟩) := h61
          refine relAsk_in (by rfl) ?_
          intro v62 h62
          obtain rfl : v62 = .pointer (some ⟨B, 8, none⟩) := h62
          refine relAsk_in (by rfl) ?_
          intro v63 h63
          obtain rfl : v63 = W6 (lb N 0) (lb N 1) (lb N 2) (lb N 3) (lb N 4) (lb N 5) := h63
          refine relAsk_in (by rfl) ?_
          intro v64 h64
          obtain rfl : v64 = .bool false := h64
          refine relAsk_nil ?_
          refine wpList_nil ?_
          have hsz := HSZ9.out
          have HO10 := Lib.hid (HO9.out.keepB (hbn.block _ (by omega)))
          have HQ10 := Lib.hid (HQ9.out.keepB (hbn.block _ (by omega)))
          have hT10 := HT9.out.keepB (hbn.block _ (by omega))
          have HR10 := Lib.hid (HR9.out.keepB (hbn.block _ (by omega)))
          have HW10 := Lib.hid (HW9.out.trans (hbn.mono (by omega)))
          have hSQ := HSQ9.out.keepB (hbn.block _ (by omega))
          clear HO9 HQ9 HT9 HR9 HW9 HSQ9 HF9 HRR HO1 hbn
          obtain ⟨v0, v1, v2, v3, v4, v5, hV, lV, eV⟩ := hSQ
          obtain ⟨⟨c0, c1, c2, c3, c4, c5⟩, -⟩ := hV.cells
          obtain ⟨z0, z1, z2, z3, z4, z5, hZ, lZ, eZ⟩ := hT10
          obtain ⟨⟨y0, y1, y2, y3, y4, y5⟩, f0, f1, f2, f3, f4, f5⟩ := hZ.cells
          obtain ⟨sq, hsq⟩ : ∃ s, s = w9.heap.size := ⟨_, rfl⟩
          have HV := Lib.hid (And.intro lV eV)
          have HZZ := Lib.hid hZ
          clear hV lV eV hZ lZ eZ hsq
          go_simp
          go_upto_region 12 with (fail)
          clear c0 c1 c2 c3 c4 c5 y0 y1 y2 y3 y4 y5 f0 f1 f2 f3 f4 f5
          obtain ⟨Y, hY⟩ : ∃ Y, Y = (((((w10.setCell ⟨gs, 0, none⟩ (.int .u64 (v0 : Nat))).setCell ⟨gs, 1, none⟩ (.int .u64 (v1 : Nat))).setCell ⟨gs, 2, none⟩ (.int .u64 (v2 : Nat))).setCell ⟨gs, 3, none⟩ (.int .u64 (v3 : Nat))).setCell ⟨gs, 4, none⟩ (.int .u64 (v4 : Nat))).setCell ⟨gs, 5, none⟩ (.int .u64 (v5 : Nat)) := ⟨_, rfl⟩
          rw [← hY]
          obtain ⟨hpm, h6m⟩ := put_mid HZZ.out v0 v1 v2 v3 v4 v5 hY
          have hgs := HGS.out
          have HT12 : Hid (At6 Y gs (mt (prm k) (RR (plim k)) (t * t))) := ⟨_, _, _, _, _, _, h6m, HV.out.1, HV.out.2⟩
          have HO12 := Lib.hid (HO10.out.put hpm (by omega))
          have HQ12 := Lib.hid (HQ10.out.put hpm (by omega))
          have HR12 := Lib.hid (HR10.out.put hpm (by omega))
          have HW12 := Lib.hid (HW10.out.trans (hpm.low (b := w.heap.size) (by omega)))
          have HK12 := Lib.hid (HK9.out.same HRE.out)
          clear hpm h6m hY hsz hgs HO10 HQ10 HR10 HW10
          go_wp2_with fail
          exact ⟨⟨p, A, r, t * t, by omega, rfl, HK12, HO12, HQ12, HT12, HR12, HW12⟩, by simp [intOf] <;> omega⟩
        · have HRE := Lib.hid hr
          have hd := HDC.out hr
          have HD := Lib.hid hd
          clear hr HDC HNM hd
          refine wp_region_see 9 [56, 57, 58, 59, 60, 61, 62, 63, 64] [(56, .is (.pointer (some ⟨B, 0, none⟩))), (57, .is (W6 r0 r1 r2 r3 r4 r5)), (58, .is (.int .i64 (p : Nat))), (59, .is (W6 (lb N 0) (lb N 1) (lb N 2) (lb N 3) (lb N 4) (lb N 5))), (60, .is (.pointer (some ⟨B, 0, none⟩))), (61, .is (.pointer (some ⟨B, 0, none⟩))), (62, .is (.pointer (some ⟨B, 8, none⟩))), (63, .is (W6 (lb M1 0) (lb M1 1) (lb M1 2) (lb M1 3) (lb M1 4) (lb M1 5))), (64, .is (.bool true))] (by kernel_rfl) (by kernel_rfl) (by rfl) ?_ ?_
          · refine seeOps_cons ?_ (seeOps_cons ?_ (seeOps_cons ?_ (seeOps_cons ?_ (seeOps_cons ?_ (seeOps_cons ?_ (seeOps_cons ?_ (seeOps_cons ?_ (seeOps_cons ?_ seeOps_nil))))))))
            · intro wq hb9 fr hout hin
              have h0 : fr.tmps.getD 0 undef = .pointer (some ⟨B, 0, none⟩) := hout 0 (by decide)
              clear hout hin
              exact relStep_move (.tmp 0) rfl (wanted_none rfl) (by show fr.tmps.getD 0 undef = _; rw [h0])
            · intro wq hb9 fr hout hin
              have h6 : fr.tmps.getD 6 undef = .pointer (some ⟨w.heap.size + 3, 0, none⟩) := hout 6 (by decide)
              clear hout hin
              exact op_load6 (.tmp 6) rfl h6 (HRR.out.1.keepB (hb9.block _ (by have := HSZ9.out; omega))) (wanted_none rfl) rfl
            · intro wq hb9 fr hout hin
              have h11 : fr.tmps.getD 11 undef = .int .i64 (p : Nat) := hout 11 (by decide)
              clear hout hin
              exact relStep_move (.tmp 11) rfl (wanted_none rfl) (by show fr.tmps.getD 11 undef = _; rw [h11])
            · intro wq hb9 fr hout hin
              have h56 : fr.tmps.getD 56 undef = .pointer (some ⟨B, 0, none⟩) := hin 56 (by decide) (by decide)
              have h57 : fr.tmps.getD 57 undef = W6 r0 r1 r2 r3 r4 r5 := hin 57 (by decide) (by decide)
              have h58 : fr.tmps.getD 58 undef = .int .i64 (p : Nat) := hin 58 (by decide) (by decide)
              clear hout hin
              exact op_call3 (.tmp 56) (.tmp 57) (.tmp 58) rfl en_fsquared (wanted_none rfl) (by rw [show fr.eval (.tmp 56) = _ from h56, show fr.eval (.tmp 57) = _ from h57, show fr.eval (.tmp 58) = _ from h58]; exact fsquared_r wq HK.out (HF9.out.below hb9 HF9.out.lt) HLR.out.1 HLR.out.2 HPL.out HN.out) (fun _ _ h => h)
            · intro wq hb9 fr hout hin
              have h0 : fr.tmps.getD 0 undef = .pointer (some ⟨B, 0, none⟩) := hout 0 (by decide)
              clear hout hin
              exact relStep_move (.tmp 0) rfl (wanted_none rfl) (by show fr.tmps.getD 0 undef = _; rw [h0])
            · intro wq hb9 fr hout hin
              have h60 : fr.tmps.getD 60 undef = .pointer (some ⟨B, 0, none⟩) := hin 60 (by decide) (by decide)
              clear hout hin
              exact op_nil (.tmp 60) rfl h60 (wanted_none rfl) rfl
            · intro wq hb9 fr hout hin
              have h61 : fr.tmps.getD 61 undef = .pointer (some ⟨B, 0, none⟩) := hin 61 (by decide) (by decide)
              clear hout hin
              exact op_fp3 (.tmp 61) rfl h61 (wanted_none rfl) rfl
            · intro wq hb9 fr hout hin
              have h62 : fr.tmps.getD 62 undef = .pointer (some ⟨B, 8, none⟩) := hin 62 (by decide) (by decide)
              clear hout hin
              exact op_load6 (.tmp 62) rfl h62 (HO1.out.keepB (hb9.block B HF9.out.lt)) (wanted_none rfl) rfl
            · intro wq hb9 fr hout hin
              have h59 : fr.tmps.getD 59 undef = W6 (lb N 0) (lb N 1) (lb N 2) (lb N 3) (lb N 4) (lb N 5) := hin 59 (by decide) (by decide)
              have h63 : fr.tmps.getD 63 undef = W6 (lb M1 0) (lb M1 1) (lb M1 2) (lb M1 3) (lb M1 4) (lb M1 5) := hin 63 (by decide) (by decide)
              clear hout hin
              exact op_neN6D (.tmp 59) (.tmp 63) _ HD.out rfl h59 h63 (wanted_none rfl) rfl
          intro w10 hbn
          refine relAsk_in (by rfl) ?_
          intro v56 h56
          obtain rfl : v56 = .pointer (some ⟨B, 0, none⟩) := h56
          refine relAsk_in (by rfl) ?_
          intro v57 h57
          obtain rfl : v57 = W6 r0 r1 r2 r3 r4 r5 := h57
          refine relAsk_in (by rfl) ?_
          intro v58 h58
          obtain rfl : v58 = .int .i64 (p : Nat) := h58
          refine relAsk_in (by rfl) ?_
          intro v59 h59
          obtain rfl : v59 = W6 (lb N 0) (lb N 1) (lb N 2) (lb N 3) (lb N 4) (lb N 5) := h59
          refine relAsk_in (by rfl) ?_
          intro v60 h60
          obtain rfl : v60 = .pointer (some ⟨B, 0, none⟩) := h60
          refine relAsk_in (by rfl) ?_
          intro v61 h61
          obtain rfl : v61 = .pointer (some ⟨B, 0, none⟩) := h61
          refine relAsk_in (by rfl) ?_
          intro v62 h62
          obtain rfl : v62 = .pointer (some ⟨B, 8, none⟩) := h62
          refine relAsk_in (by rfl) ?_
          intro v63 h63
          obtain rfl : v63 = W6 (lb M1 0) (lb M1 1) (lb M1 2) (lb M1 3) (lb M1 4) (lb M1 5) := h63
          refine relAsk_in (by rfl) ?_
          intro v64 h64
          obtain rfl : v64 = .bool true := h64
          refine relAsk_nil ?_
          refine wpList_nil ?_
          have hsz := HSZ9.out
          have hgs := HGS.out
          have HO10 := Lib.hid (HO9.out.keepB (hbn.block _ (by omega)))
          have HQ10 := Lib.hid (HQ9.out.keepB (hbn.block _ (by omega)))
          have HT10 := Lib.hid (HT9.out.keepB (hbn.block _ (by omega)))
          have HR10 := Lib.hid (HR9.out.keepB (hbn.block _ (by omega)))
          have HW10 := Lib.hid (HW9.out.trans (hbn.mono (by omega)))
          have HSQ10 := Lib.hid (HSQ9.out.keepB (hbn.block _ (by omega)))
          have C15 := Lib.hid (ftimesM_c w10 HK.out (HFW.out w10 HW10.out) HO10.out.o HT10.out.o HO10.out HOB.out)
          clear HO9 HQ9 HT9 HR9 HW9 HSQ9 HF9 HRR HO1 hbn hsz hgs HO10
          go_simp
          go_wp2_with fail
          (with_reducible refine (C15.out).mono ?_)
          rintro e w11 ⟨rfl, hp, ho⟩
          have hsz := HSZ9.out
          have hgs := HGS.out
          have HO11 := Lib.hid ho
          have HQ11 := Lib.hid (HQ10.out.put hp (by omega))
          have HT11 := Lib.hid (HT10.out.put hp (by omega))
          have HR11 := Lib.hid (HR10.out.put hp (by omega))
          have HSQ11 := Lib.hid (HSQ10.out.put hp (by omega))
          have HW11 := Lib.hid (HW10.out.trans (hp.low (b := w.heap.size) (by omega)))
          have C16 := Lib.hid (ftimesM_c w11 HK.out (HFW.out w11 HW11.out) HQ11.out.o HSQ11.out.o HQ11.out HQB.out)
          clear hp ho hsz hgs C15 HQ10 HT10 HR10 HSQ10 HW10 HQ11
          go_wp2_with fail
          (with_reducible refine (C16.out).mono ?_)
          rintro e w12 ⟨rfl, hp, hq⟩
          have hsz := HSZ9.out
          have hgs0 := HGS.out
          have HO10 := Lib.hid (HO11.out.put hp (by omega))
          have HQ10 := Lib.hid hq
          have hT10 := HT11.out.put hp (by omega)
          have HR10 := Lib.hid (HR11.out.put hp (by omega))
          have hSQ := HSQ11.out.put hp (by omega)
          have HW10 := Lib.hid (HW11.out.trans (hp.low (b := w.heap.size) (by omega)))
          clear hp hq hgs0 C16 HO11 HT11 HR11 HSQ11 HW11
          obtain ⟨v0, v1, v2, v3, v4, v5, hV, lV, eV⟩ := hSQ
          obtain ⟨⟨c0, c1, c2, c3, c4, c5⟩, -⟩ := hV.cells
          obtain ⟨z0, z1, z2, z3, z4, z5, hZ, lZ, eZ⟩ := hT10
          obtain ⟨⟨y0, y1, y2, y3, y4, y5⟩, f0, f1, f2, f3, f4, f5⟩ := hZ.cells
          obtain ⟨sq, hsq⟩ : ∃ s, s = w9.heap.size := ⟨_, rfl⟩
          have HV := Lib.hid (And.intro lV eV)
          have HZZ := Lib.hid hZ
          clear hV lV eV hZ lZ eZ hsq
          go_upto_region 12 with (fail)
          clear c0 c1 c2 c3 c4 c5 y0 y1 y2 y3 y4 y5 f0 f1 f2 f3 f4 f5
          obtain ⟨Y, hY⟩ : ∃ Y, Y = (((((w12.setCell ⟨gs, 0, none⟩ (.int .u64 (v0 : Nat))).setCell ⟨gs, 1, none⟩ (.int .u64 (v1 : Nat))).setCell ⟨gs, 2, none⟩ (.int .u64 (v2 : Nat))).setCell ⟨gs, 3, none⟩ (.int .u64 (v3 : Nat))).setCell ⟨gs, 4, none⟩ (.int .u64 (v4 : Nat))).setCell ⟨gs, 5, none⟩ (.int .u64 (v5 : Nat)) := ⟨_, rfl⟩
          rw [← hY]
          obtain ⟨hpm, h6m⟩ := put_mid HZZ.out v0 v1 v2 v3 v4 v5 hY
          have hgs := HGS.out
          have HT12 : Hid (At6 Y gs (mt (prm k) (RR (plim k)) (t * t))) := ⟨_, _, _, _, _, _, h6m, HV.out.1, HV.out.2⟩
          have HO12 := Lib.hid (HO10.out.put hpm (by omega))
          have HQ12 := Lib.hid (HQ10.out.put hpm (by omega))
          have HR12 := Lib.hid (HR10.out.put hpm (by omega))
          have HW12 := Lib.hid (HW10.out.trans (hpm.low (b := w.heap.size) (by omega)))
          have HK12 := Lib.hid (HK9.out.turn HPR.out.1 HRE.out)
          clear hpm h6m hY hsz hgs HO10 HQ10 HR10 HW10
          go_wp2_with fail
          exact ⟨⟨p, A * t, r * (t * t), t * t, by omega, rfl, HK12, HO12, HQ12, HT12, HR12, HW12⟩, by simp [intOf] <;> omega⟩
end Go.Proofs.YteaafnjflghlhaaDoor
namespace Go.Proofs.YteaafnjflghlhaaDoor
open Go.RowKit

/-- What Sqrt tells. -/
def SqrtF (P a : Nat) (w : World) (e : Ending) (w' : World) : Prop := ∃ s0 s1 s2 s3 s4 s5 b, e = .returned (.tuple #[W6 s0 s1 s2 s3 s4 s5, .bool b]) ∧ Lim6 s0 s1 s2 s3 s4 s5 ∧
  ((b = false ∧ s0 = 0 ∧ s1 = 0 ∧ s2 = 0 ∧ s3 = 0 ∧ s4 = 0 ∧ s5 = 0 ∧ ¬ (a % P = 0 ∨ a ^ ((P - 1) / 2) % P = 1)) ∨
    (b = true ∧ (a % P = 0 ∨ a ^ ((P - 1) / 2) % P = 1) ∧ 2 * n6 s0 s1 s2 s3 s4 s5 ≤ P ∧ n6 s0 s1 s2 s3 s4 s5 * n6 s0 s1 s2 s3 s4 s5 % P = a % P)) ∧ Below w.heap.size w w'
theorem is_sq {P a A : Nat} (hP : Pr P) (ho : P % 2 = 1) (h : A * A % P = a % P) : a % P = 0 ∨ a ^ ((P - 1) / 2) % P = 1 := by
  by_cases h0 : a % P = 0
  · exact .inl h0
  · exact .inr (euler_sq hP ho (fun hd => h0 (Nat.mod_eq_zero_of_dvd hd)) h)
/-- The opposite of a root is one. -/
theorem neg_root {P u : Nat} (hu : u < P) : (P - u) * (P - u) % P = u * u % P := by
  obtain ⟨d, hd⟩ : ∃ d, P = u + d := ⟨P - u, by omega⟩
  have e : P - u = d := by omega
  rw [e]
  have h1 : (d * d + u * d) % P = (u * u + u * d) % P := by
    have e1 : d * d + u * d = P * d := by rw [hd]; grind
    have e2 : u * u + u * d = P * u := by rw [hd]; grind
    rw [e1, e2, Nat.mul_mod_right, Nat.mul_mod_right]
  exact mod_cancel (by omega) h1

set_option maxRecDepth 100000 in
set_option maxHeartbeats 6400000 in
theorem fSqrt_c {k B x0 x1 x2 x3 x4 x5 : Nat} (w : World) (h1 : 1 ≤ k) (h6 : k ≤ 6) (hT : TabAt w) (hF : FldAt (prm k) (plim k) w B) (lx : Lim6 x0 x1 x2 x3 x4 x5) :
    Calls Tryd.prog 14 #[.pointer (some ⟨B, 0, none⟩), W6 x0 x1 x2 x3 x4 x5] w (SqrtF (prm k) (n6 x0 x1 x2 x3 x4 x5) w) := by
  obtain ⟨X, hX⟩ : ∃ X, X = (w.alloc (.cells #[.int .u64 (x0 : Nat), .int .u64 (x1 : Nat), .int .u64 (x2 : Nat), .int .u64 (x3 : Nat), .int .u64 (x4 : Nat), .int .u64 (x5 : Nat)] 24)).alloc (.cells #[.int .u64 0, .int .u64 0, .int .u64 0, .int .u64 0, .int .u64 0, .int .u64 0] 24) := ⟨_, rfl⟩
  obtain ⟨ha, hz, hb, hs⟩ := box_zero hX
  have hBl := hF.lt
  have hTl := hT.lt
  have hkn := fnum h1 h6
  have HFW : Hid (∀ W, Below w.heap.size w W → FldAt (prm k) (plim k) W B) := fun W h => hF.below h hBl
  have C1 := Lib.hid (fenter_c X hkn (HFW.out X hb) lx)
  have CR : Hid (∀ W y0 y1 y2 y3 y4 y5, Below w.heap.size w W → Lim6 y0 y1 y2 y3 y4 y5 → n6 y0 y1 y2 y3 y4 y5 = (mt (prm k) (RR (plim k)) ((n6 x0 x1 x2 x3 x4 x5))) → Calls Tryd.prog 35 #[.pointer (some ⟨B, 0, none⟩), W6 y0 y1 y2 y3 y4 y5] W (RootF (prm k) (plim k) (n6 x0 x1 x2 x3 x4 x5) W)) := fun W y0 y1 y2 y3 y4 y5 hW ly ey => froot_c W h1 h6 (hT.below hW hTl) (HFW.out W hW) ly ey
  obtain ⟨⟨c0, c1, c2, c3, c4, c5⟩, -⟩ := ha.cells
  have HPR := Lib.hid (prm_prime h1 h6)
  have HX := Lib.hid hX
  have HK := Lib.hid hkn
  have HBL := Lib.hid hBl
  have HA := Lib.hid ha
  have HZ := Lib.hid hz
  have HW := Lib.hid hb
  have HS := Lib.hid hs
  clear hX ha hz hb hs hTl hkn hF lx hT h1 h6 hBl
  go_enter Tryd.func14, Tryd.ntmps14
  go_upto_region 1 with (fail)
  rw [← HX.out]
  clear HX
  go_wp2_with fail
  (with_reducible refine (C1.out).mono ?_)
  rintro e w2 ⟨s0, s1, s2, s3, s4, s5, rfl, ls, es, hb2⟩
  have hs := HS.out
  have hA2 := HA.out.keepB (hb2.block _ (by omega))
  have HZ2 := Lib.hid (HZ.out.keepB (hb2.block _ (by omega)))
  have HW2 := Lib.hid (HW.out.trans (hb2.mono (by omega)))
  have HS2 : Hid (w.heap.size + 2 ≤ w2.heap.size) := by have := hb2.size; show _ ≤ _; omega
  obtain ⟨⟨y0, y1, y2, y3, y4, y5⟩, f0, f1, f2, f3, f4, f5⟩ := hA2.cells
  have HA2 := Lib.hid hA2
  have HLS := Lib.hid ls
  have HES := Lib.hid es
  clear hs hA2 ls es hb2 C1 HA HZ HW c0 c1 c2 c3 c4 c5
  go_upto_region 2 with (fail)
  clear y0 y1 y2 y3 y4 y5 f0 f1 f2 f3 f4 f5
  obtain ⟨Y2, hY2⟩ : ∃ Z, Z = (((((w2.setCell ⟨w.heap.size, 0, none⟩ (.int .u64 (s0 : Nat))).setCell ⟨w.heap.size, 1, none⟩ (.int .u64 (s1 : Nat))).setCell ⟨w.heap.size, 2, none⟩ (.int .u64 (s2 : Nat))).setCell ⟨w.heap.size, 3, none⟩ (.int .u64 (s3 : Nat))).setCell ⟨w.heap.size, 4, none⟩ (.int .u64 (s4 : Nat))).setCell ⟨w.heap.size, 5, none⟩ (.int .u64 (s5 : Nat)) := ⟨_, rfl⟩
  rw [← hY2]
  obtain ⟨hpm, h6m⟩ := put_mid HA2.out s0 s1 s2 s3 s4 s5 hY2
  have HA3 := Lib.hid h6m
  have HZ3 := Lib.hid (HZ2.out.put hpm (by omega))
  have HW3 := Lib.hid (HW2.out.trans (hpm.low (b := w.heap.size) (Nat.le_refl _)))
  have HS3 : Hid (w.heap.size + 2 ≤ Y2.heap.size) := by have := hpm.size; have := HS2.out; show _ ≤ _; omega
  obtain ⟨⟨c0, c1, c2, c3, c4, c5⟩, -⟩ := h6m.cells
  have C2 := Lib.hid (CR.out Y2 s0 s1 s2 s3 s4 s5 HW3.out HLS.out HES.out)
  clear hY2 hpm h6m HA2 HZ2 HW2 HS2 CR
  go_wp2_with fail
  (with_reducible refine (C2.out).mono ?_)
  rintro e w3 ⟨v0, v1, v2, v3, v4, v5, A, rfl, lv, ev, hA, hb3⟩
  obtain ⟨X3, hX3⟩ : ∃ Z, Z = w3.alloc (.cells #[.int .u64 (v0 : Nat), .int .u64 (v1 : Nat), .int .u64 (v2 : Nat), .int .u64 (v3 : Nat), .int .u64 (v4 : Nat), .int .u64 (v5 : Nat)] 24) := ⟨_, rfl⟩
  have hv3 : Six X3 w3.heap.size v0 v1 v2 v3 v4 v5 := by rw [hX3]; exact six_new (heap_alloc_new w3 _)
  have hbx : Below w3.heap.size w3 X3 := by rw [hX3]; exact (Below.refl _ _).alloc (Nat.le_refl _) _
  have hsx : X3.heap.size = w3.heap.size + 1 := by rw [hX3]; simp
  have hb23 : Below Y2.heap.size Y2 X3 := hb3.trans (hbx.mono hb3.size)
  have hs3 := HS3.out
  have hA4 := HA3.out.keepB (hb23.block _ (by omega))
  have HZ4 := Lib.hid (HZ3.out.keepB (hb23.block _ (by omega)))
  have hw4 := HW3.out.trans (hb23.mono (by omega))
  have HF4 := Lib.hid (HFW.out X3 hw4)
  have HW4 := Lib.hid hw4
  have HV4 := Lib.hid hv3
  have HSZ4 : Hid (w.heap.size + 1 < w3.heap.size ∧ w3.heap.size < X3.heap.size) := ⟨by have := hb3.size; omega, by omega⟩
  have HLV := Lib.hid lv
  have HEV := Lib.hid ev
  have HRT := Lib.hid hA
  have HX3 := Lib.hid hX3
  obtain ⟨Ri, hRi⟩ := HK.out.ri
  obtain ⟨N, hN⟩ : ∃ N, N = (mt (prm k) (RR (plim k)) (A ^ 2 ^ 1)) := ⟨_, rfl⟩
  obtain ⟨M1, hM1⟩ : ∃ N, N = (mt (prm k) (RR (plim k)) ((n6 x0 x1 x2 x3 x4 x5))) := ⟨_, rfl⟩
  have hPd := HK.out.dbl
  have hP1 := HK.out.pos
  have hNl : N < prm k := by rw [hN]; exact mt_lt hP1
  have hMl : M1 < prm k := by rw [hM1]; exact mt_lt hP1
  have hNM : N = M1 ↔ A * A % prm k = (n6 x0 x1 x2 x3 x4 x5) % prm k := by rw [hN, hM1, mt_eq hRi, Nat.pow_one, Nat.pow_two]
  have hdec : N ≠ M1 → decide (lb N 0 = lb M1 0 ∧ lb N 1 = lb M1 1 ∧ lb N 2 = lb M1 2 ∧ lb N 3 = lb M1 3 ∧ lb N 4 = lb M1 4 ∧ lb N 5 = lb M1 5) = false := fun hr => decide_eq_false (fun ⟨q0, q1, q2, q3, q4, q5⟩ => hr (by
    rw [← n6_lb (n := N) (by omega), ← n6_lb (n := M1) (by omega), q0, q1, q2, q3, q4, q5]))
  have HDC := Lib.hid hdec
  have HNM := Lib.hid hNM
  have hls := HLS.out
  have hes := HES.out
  clear HLS HES
  obtain ⟨rfl, rfl, rfl, rfl, rfl, rfl⟩ := lb_at hls (hes.trans hM1.symm)
  have HA4 := Lib.hid hA4
  have HSQ : Hid (∀ W, FldAt (prm k) (plim k) W B → Calls Tryd.prog 36 #[.pointer (some ⟨B, 0, none⟩), W6 v0 v1 v2 v3 v4 v5, .int .i64 1] W (RetR (fun _ v => v = W6 (lb N 0) (lb N 1) (lb N 2) (lb N 3) (lb N 4) (lb N 5)) W)) := fun W hW => fsquared_r (T := 1) W HK.out hW HLV.out HEV.out (by omega) hN
  clear hX3 hv3 hbx hsx hb23 hs3 hA4 hw4 lv ev hA hb3 hRi hM1 hPd hP1 hNl hMl hNM hdec hls hes C2 HA3 HZ3 HW3 HS3 c0 c1 c2 c3 c4 c5
  go_upto_region 3 with (fail)
  rw [← HX3.out]
  clear HX3
  by_cases heq : N = M1
  · subst heq
    clear HDC
    refine wp_region_see 5 [14, 15, 16, 17, 18] [(14, .is (.pointer (some ⟨B, 0, none⟩))), (15, .is (W6 v0 v1 v2 v3 v4 v5)), (16, .is (W6 (lb N 0) (lb N 1) (lb N 2) (lb N 3) (lb N 4) (lb N 5))), (17, .is (W6 (lb N 0) (lb N 1) (lb N 2) (lb N 3) (lb N 4) (lb N 5))), (18, .is (.bool false))] (by kernel_rfl) (by kernel_rfl) (by rfl) ?_ ?_
    · refine seeOps_cons ?_ (seeOps_cons ?_ (seeOps_cons ?_ (seeOps_cons ?_ (seeOps_cons ?_ seeOps_nil))))
      · intro w9 hb9 fr hout hin
        have h0 : fr.tmps.getD 0 undef = .pointer (some ⟨B, 0, none⟩) := hout 0 (by decide)
        clear hout hin
        exact relStep_move (.tmp 0) rfl (wanted_none rfl) (by show fr.tmps.getD 0 undef = _; rw [h0])
      · intro w9 hb9 fr hout hin
        have h6 : fr.tmps.getD 6 undef = .pointer (some ⟨w3.heap.size, 0, none⟩) := hout 6 (by decide)
        clear hout hin
        exact op_load6 (.tmp 6) rfl h6 (HV4.out.1.keepB (hb9.block _ HSZ4.out.2)) (wanted_none rfl) rfl
      · intro w9 hb9 fr hout hin
        have h14 : fr.tmps.getD 14 undef = .pointer (some ⟨B, 0, none⟩) := hin 14 (by decide) (by decide)
        have h15 : fr.tmps.getD 15 undef = W6 v0 v1 v2 v3 v4 v5 := hin 15 (by decide) (by decide)
        clear hout hin
        exact op_call3 (.tmp 14) (.tmp 15) (.const (.int .i64 1)) rfl en_fsquared (wanted_none rfl) (by rw [show fr.eval (.tmp 14) = _ from h14, show fr.eval (.tmp 15) = _ from h15]; exact HSQ.out w9 (HF4.out.below hb9 HF4.out.lt)) (fun _ _ h => h)
      · intro w9 hb9 fr hout hin
        have h3 : fr.tmps.getD 3 undef = .pointer (some ⟨w.heap.size, 0, none⟩) := hout 3 (by decide)
        clear hout hin
        exact op_load6 (.tmp 3) rfl h3 (HA4.out.1.keepB (hb9.block _ (by have := HSZ4.out; omega))) (wanted_none rfl) rfl
      · intro w9 hb9 fr hout hin
        have h16 : fr.tmps.getD 16 undef = W6 (lb N 0) (lb N 1) (lb N 2) (lb N 3) (lb N 4) (lb N 5) := hin 16 (by decide) (by decide)
        have h17 : fr.tmps.getD 17 undef = W6 (lb N 0) (lb N 1) (lb N 2) (lb N 3) (lb N 4) (lb N 5) := hin 17 (by decide) (by decide)
        clear hout hin
        exact op_neN6 (.tmp 16) (.tmp 17) _ rfl h16 h17 (wanted_none rfl) rfl
    intro w4 hbn
    refine relAsk_in (by rfl) ?_
    intro v14 h14
    obtain rfl : v14 = .pointer (some ⟨B, 0, none⟩) := h14
    refine relAsk_in (by rfl) ?_
    intro v15 h15
    obtain rfl : v15 = W6 v0 v1 v2 v3 v4 v5 := h15
    refine relAsk_in (by rfl) ?_
    intro v16 h16
    obtain rfl : v16 = W6 (lb N 0) (lb N 1) (lb N 2) (lb N 3) (lb N 4) (lb N 5) := h16
    refine relAsk_in (by rfl) ?_
    intro v17 h17
    obtain rfl : v17 = W6 (lb N 0) (lb N 1) (lb N 2) (lb N 3) (lb N 4) (lb N 5) := h17
    refine relAsk_in (by rfl) ?_
    intro v18 h18
    obtain rfl : v18 = .bool false := h18
    refine relAsk_nil ?_
    refine wpList_nil ?_
    have hsz := HSZ4.out
    have hV5 := HV4.out.keepB (hbn.block _ hsz.2)
    have HZ5 := Lib.hid (HZ4.out.keepB (hbn.block _ (by omega)))
    have hw5 := HW4.out.trans (hbn.mono (by omega))
    have HW5 := Lib.hid hw5
    have HS5 : Hid (w3.heap.size < w4.heap.size ∧ w.heap.size + 1 < w3.heap.size) := ⟨by have := hbn.size; omega, hsz.1⟩
    have HRR := Lib.hid (HNM.out.1 rfl)
    have C5 := Lib.hid (fleaveM_c w4 HK.out (HFW.out w4 hw5) HLV.out HEV.out)
    obtain ⟨⟨c0, c1, c2, c3, c4, c5⟩, -⟩ := hV5.cells
    have HV5 := Lib.hid hV5
    clear hsz hV5 hw5 hbn HV4 HZ4 HW4 HF4 HA4 HSZ4 HSQ hN HRT HNM
    go_simp
    go_wp2_with fail
    (with_reducible refine (C5.out).mono ?_)
    rintro e w5 ⟨u0, u1, u2, u3, u4, u5, rfl, lu, eu, hb5⟩
    have hs5 := HS5.out
    have hV6 := HV5.out.keepB (hb5.block _ hs5.1)
    have HZ6 := Lib.hid (HZ5.out.keepB (hb5.block _ (by omega)))
    have HW6 := Lib.hid (HW5.out.trans (hb5.mono (by omega)))
    obtain ⟨⟨y0, y1, y2, y3, y4, y5⟩, f0, f1, f2, f3, f4, f5⟩ := hV6.cells
    have HV6 := Lib.hid hV6
    have HLU := Lib.hid lu
    have HEU := Lib.hid eu
    have HS6 : Hid (w3.heap.size < w5.heap.size ∧ w.heap.size + 1 < w3.heap.size) := ⟨by have := hb5.size; omega, hs5.2⟩
    clear hs5 hV6 lu eu hb5 C5 HV5 HZ5 HW5 HS5 c0 c1 c2 c3 c4 c5
    go_upto_region 6 with (fail)
    clear y0 y1 y2 y3 y4 y5 f0 f1 f2 f3 f4 f5
    obtain ⟨Y5, hY5⟩ : ∃ Z, Z = (((((w5.setCell ⟨w3.heap.size, 0, none⟩ (.int .u64 (u0 : Nat))).setCell ⟨w3.heap.size, 1, none⟩ (.int .u64 (u1 : Nat))).setCell ⟨w3.heap.size, 2, none⟩ (.int .u64 (u2 : Nat))).setCell ⟨w3.heap.size, 3, none⟩ (.int .u64 (u3 : Nat))).setCell ⟨w3.heap.size, 4, none⟩ (.int .u64 (u4 : Nat))).setCell ⟨w3.heap.size, 5, none⟩ (.int .u64 (u5 : Nat)) := ⟨_, rfl⟩
    rw [← hY5]
    obtain ⟨hpm, h6m⟩ := put_mid HV6.out u0 u1 u2 u3 u4 u5 hY5
    have hs6 := HS6.out
    have HU7 := Lib.hid h6m
    have HZ7 := Lib.hid (HZ6.out.put hpm (by omega))
    have hw7 := HW6.out.trans (hpm.low (b := w.heap.size) (by omega))
    have HW7 := Lib.hid hw7
    have HS7 : Hid (w3.heap.size < Y5.heap.size ∧ w.heap.size + 1 < w3.heap.size) := ⟨by have := hpm.size; omega, hs6.2⟩
    obtain ⟨⟨c0, c1, c2, c3, c4, c5⟩, -⟩ := h6m.cells
    have C6 := Lib.hid (fNeg_c Y5 HK.out (HFW.out Y5 hw7) HLU.out)
    clear hY5 hpm h6m hs6 hw7 HV6 HZ6 HW6 HS6
    go_wp2_with fail
    (with_reducible refine (C6.out).mono ?_)
    rintro e w6 ⟨z0, z1, z2, z3, z4, z5, rfl, lz, ez, hb6⟩
    obtain ⟨X6, hX6⟩ : ∃ Z, Z = w6.alloc (.cells #[.int .u64 (z0 : Nat), .int .u64 (z1 : Nat), .int .u64 (z2 : Nat), .int .u64 (z3 : Nat), .int .u64 (z4 : Nat), .int .u64 (z5 : Nat)] 24) := ⟨_, rfl⟩
    have hz6 : Six X6 w6.heap.size z0 z1 z2 z3 z4 z5 := by rw [hX6]; exact six_new (heap_alloc_new w6 _)
    have hbx : Below w6.heap.size w6 X6 := by rw [hX6]; exact (Below.refl _ _).alloc (Nat.le_refl _) _
    have hb56 : Below Y5.heap.size Y5 X6 := hb6.trans (hbx.mono hb6.size)
    have hs7 := HS7.out
    have hu8 := HU7.out.keepB (hb56.block _ hs7.1)
    have HZ8 := Lib.hid (HZ7.out.keepB (hb56.block _ (by omega)))
    have HW8 := Lib.hid (HW7.out.trans (hb56.mono (by omega)))
    have C7 := Lib.hid (below_c X6 hz6.1 hu8.1 lz HLU.out)
    have HU8 := Lib.hid hu8
    have HN8 := Lib.hid hz6
    have HLZ := Lib.hid lz
    have hP1 := HK.out.pos
    have hul : n6 u0 u1 u2 u3 u4 u5 < prm k := by rw [HEU.out]; exact Nat.mod_lt _ (by omega)
    have huu : n6 u0 u1 u2 u3 u4 u5 * n6 u0 u1 u2 u3 u4 u5 % prm k = (n6 x0 x1 x2 x3 x4 x5) % prm k := by rw [HEU.out, ← Nat.mul_mod]; exact HRR.out
    rw [Nat.mod_eq_of_lt hul] at ez
    have HSQR := Lib.hid (is_sq HPR.out.1 HPR.out.2 HRR.out)
    have HUU := Lib.hid (And.intro hul huu)
    have HEZ := Lib.hid ez
    have HX6 := Lib.hid hX6
    clear hX6 hz6 hbx hb56 hs7 hu8 lz hP1 hul huu ez hb6 C6 HU7 HZ7 HW7 HS7 c0 c1 c2 c3 c4 c5 HEU HEV HRR
    go_upto_region 7 with (fail)
    rw [← HX6.out]
    clear HX6
    go_wp2_with fail
    (with_reducible refine (C7.out).mono ?_)
    rintro e w7 ⟨he, n, rfl⟩
    have HZ9 : Hid (Six (X6.drewN n) (w.heap.size + 1) 0 0 0 0 0 0) := HZ8.out.keepB rfl
    have HW9 : Hid (Below w.heap.size w (X6.drewN n)) := ⟨HW8.out.os, HW8.out.tape, HW8.out.output, HW8.out.size, HW8.out.block⟩
    obtain ⟨⟨y0, y1, y2, y3, y4, y5⟩, f0, f1, f2, f3, f4, f5⟩ := HZ9.out.cells
    by_cases hlt : n6 z0 z1 z2 z3 z4 z5 < n6 u0 u1 u2 u3 u4 u5
    · rw [decide_eq_true hlt] at he
      subst he
      have HN9 : Six (X6.drewN n) w6.heap.size z0 z1 z2 z3 z4 z5 := HN8.out.keepB rfl
      obtain ⟨⟨c0, c1, c2, c3, c4, c5⟩, -⟩ := HN9.cells
      have HV : Hid (2 * n6 z0 z1 z2 z3 z4 z5 ≤ prm k ∧ n6 z0 z1 z2 z3 z4 z5 * n6 z0 z1 z2 z3 z4 z5 % prm k = (n6 x0 x1 x2 x3 x4 x5) % prm k) := by
        have h1 := HUU.out
        have h2 := HEZ.out
        have h3 : n6 u0 u1 u2 u3 u4 u5 ≠ 0 := by omega
        rw [Nat.mod_eq_of_lt (by omega)] at h2
        exact ⟨by omega, by rw [h2, neg_root h1.1]; exact h1.2⟩
      clear hlt HN9 HN8 HU8 HZ8 HW8 C7
      generalize X6.drewN n = X7 at *
      go_wp2_with fail
      clear c0 c1 c2 c3 c4 c5
      have gW := HW9.out
      clear y0 y1 y2 y3 y4 y5 f0 f1 f2 f3 f4 f5
      obtain ⟨Y, hY⟩ : ∃ Y, Y = (((((X7.setCell ⟨w.heap.size + 1, 0, none⟩ (.int .u64 (z0 : Nat))).setCell ⟨w.heap.size + 1, 1, none⟩ (.int .u64 (z1 : Nat))).setCell ⟨w.heap.size + 1, 2, none⟩ (.int .u64 (z2 : Nat))).setCell ⟨w.heap.size + 1, 3, none⟩ (.int .u64 (z3 : Nat))).setCell ⟨w.heap.size + 1, 4, none⟩ (.int .u64 (z4 : Nat))).setCell ⟨w.heap.size + 1, 5, none⟩ (.int .u64 (z5 : Nat)) := ⟨_, rfl⟩
      rw [← hY]
      obtain ⟨⟨y0, y1, y2, y3, y4, y5⟩, hb⟩ := put_end HZ9.out z0 z1 z2 z3 z4 z5 hY
      clear hY
      exact bodyPost_ret (v := .tuple #[W6 z0 z1 z2 z3 z4 z5, .bool true]) (by simp [results, Tryd.results14, go_sem, y0, y1, y2, y3, y4, y5]) rfl ⟨z0, z1, z2, z3, z4, z5, true, rfl, HLZ.out, .inr ⟨rfl, HSQR.out, HV.out.1, HV.out.2⟩, gW.trans (hb.mono (by omega))⟩
    · rw [decide_eq_false hlt] at he
      subst he
      have HN9 : Six (X6.drewN n) w3.heap.size u0 u1 u2 u3 u4 u5 := HU8.out.keepB rfl
      obtain ⟨⟨c0, c1, c2, c3, c4, c5⟩, -⟩ := HN9.cells
      have HV : Hid (2 * n6 u0 u1 u2 u3 u4 u5 ≤ prm k) := by
        have h1 := HUU.out
        have h2 := HEZ.out
        show _ ≤ _
        rcases Nat.eq_zero_or_pos (n6 u0 u1 u2 u3 u4 u5) with h3 | h3
        · omega
        · rw [Nat.mod_eq_of_lt (by omega)] at h2
          omega
      clear hlt HN9 HN8 HU8 HZ8 HW8 C7
      generalize X6.drewN n = X7 at *
      go_wp2_with fail
      clear c0 c1 c2 c3 c4 c5
      have gW := HW9.out
      clear y0 y1 y2 y3 y4 y5 f0 f1 f2 f3 f4 f5
      obtain ⟨Y, hY⟩ : ∃ Y, Y = (((((X7.setCell ⟨w.heap.size + 1, 0, none⟩ (.int .u64 (u0 : Nat))).setCell ⟨w.heap.size + 1, 1, none⟩ (.int .u64 (u1 : Nat))).setCell ⟨w.heap.size + 1, 2, none⟩ (.int .u64 (u2 : Nat))).setCell ⟨w.heap.size + 1, 3, none⟩ (.int .u64 (u3 : Nat))).setCell ⟨w.heap.size + 1, 4, none⟩ (.int .u64 (u4 : Nat))).setCell ⟨w.heap.size + 1, 5, none⟩ (.int .u64 (u5 : Nat)) := ⟨_, rfl⟩
      rw [← hY]
      obtain ⟨⟨y0, y1, y2, y3, y4, y5⟩, hb⟩ := put_end HZ9.out u0 u1 u2 u3 u4 u5 hY
      clear hY
      exact bodyPost_ret (v := .tuple #[W6 u0 u1 u2 u3 u4 u5, .bool true]) (by simp [results, Tryd.results14, go_sem, y0, y1, y2, y3, y4, y5]) rfl ⟨u0, u1, u2, u3, u4, u5, true, rfl, HLU.out, .inr ⟨rfl, HSQR.out, HV.out, HUU.out.2⟩, gW.trans (hb.mono (by omega))⟩
  · have HD := Lib.hid (HDC.out heq)
    have HNS : Hid (¬ ((n6 x0 x1 x2 x3 x4 x5) % prm k = 0 ∨ (n6 x0 x1 x2 x3 x4 x5) ^ ((prm k - 1) / 2) % prm k = 1)) := fun h => heq (HNM.out.2 (HRT.out h))
    clear heq HDC HNM HRT hN
    refine wp_region_see 5 [14, 15, 16, 17, 18] [(14, .is (.pointer (some ⟨B, 0, none⟩))), (15, .is (W6 v0 v1 v2 v3 v4 v5)), (16, .is (W6 (lb N 0) (lb N 1) (lb N 2) (lb N 3) (lb N 4) (lb N 5))), (17, .is (W6 (lb M1 0) (lb M1 1) (lb M1 2) (lb M1 3) (lb M1 4) (lb M1 5))), (18, .is (.bool true))] (by kernel_rfl) (by kernel_rfl) (by rfl) ?_ ?_
    · refine seeOps_cons ?_ (seeOps_cons ?_ (seeOps_cons ?_ (seeOps_cons ?_ (seeOps_cons ?_ seeOps_nil))))
      · intro w9 hb9 fr hout hin
        have h0 : fr.tmps.getD 0 undef = .pointer (some ⟨B, 0, none⟩) := hout 0 (by decide)
        clear hout hin
        exact relStep_move (.tmp 0) rfl (wanted_none rfl) (by show fr.tmps.getD 0 undef = _; rw [h0])
      · intro w9 hb9 fr hout hin
        have h6 : fr.tmps.getD 6 undef = .pointer (some ⟨w3.heap.size, 0, none⟩) := hout 6 (by decide)
        clear hout hin
        exact op_load6 (.tmp 6) rfl h6 (HV4.out.1.keepB (hb9.block _ HSZ4.out.2)) (wanted_none rfl) rfl
      · intro w9 hb9 fr hout hin
        have h14 : fr.tmps.getD 14 undef = .pointer (some ⟨B, 0, none⟩) := hin 14 (by decide) (by decide)
        have h15 : fr.tmps.getD 15 undef = W6 v0 v1 v2 v3 v4 v5 := hin 15 (by decide) (by decide)
        clear hout hin
        exact op_call3 (.tmp 14) (.tmp 15) (.const (.int .i64 1)) rfl en_fsquared (wanted_none rfl) (by rw [show fr.eval (.tmp 14) = _ from h14, show fr.eval (.tmp 15) = _ from h15]; exact HSQ.out w9 (HF4.out.below hb9 HF4.out.lt)) (fun _ _ h => h)
      · intro w9 hb9 fr hout hin
        have h3 : fr.tmps.getD 3 undef = .pointer (some ⟨w.heap.size, 0, none⟩) := hout 3 (by decide)
        clear hout hin
        exact op_load6 (.tmp 3) rfl h3 (HA4.out.1.keepB (hb9.block _ (by have := HSZ4.out; omega))) (wanted_none rfl) rfl
      · intro w9 hb9 fr hout hin
        have h16 : fr.tmps.getD 16 undef = W6 (lb N 0) (lb N 1) (lb N 2) (lb N 3) (lb N 4) (lb N 5) := hin 16 (by decide) (by decide)
        have h17 : fr.tmps.getD 17 undef = W6 (lb M1 0) (lb M1 1) (lb M1 2) (lb M1 3) (lb M1 4) (lb M1 5) := hin 17 (by decide) (by decide)
        clear hout hin
        exact op_neN6D (.tmp 16) (.tmp 17) _ HD.out rfl h16 h17 (wanted_none rfl) rfl
    intro w4 hbn
    refine relAsk_in (by rfl) ?_
    intro v14 h14
    obtain rfl : v14 = .pointer (some ⟨B, 0, none⟩) := h14
    refine relAsk_in (by rfl) ?_
    intro v15 h15
    obtain rfl : v15 = W6 v0 v1 v2 v3 v4 v5 := h15
    refine relAsk_in (by rfl) ?_
    intro v16 h16
    obtain rfl : v16 = W6 (lb N 0) (lb N 1) (lb N 2) (lb N 3) (lb N 4) (lb N 5) := h16
    refine relAsk_in (by rfl) ?_
    intro v17 h17
    obtain rfl : v17 = W6 (lb M1 0) (lb M1 1) (lb M1 2) (lb M1 3) (lb M1 4) (lb M1 5) := h17
    refine relAsk_in (by rfl) ?_
    intro v18 h18
    obtain rfl : v18 = .bool true := h18
    refine relAsk_nil ?_
    refine wpList_nil ?_
    have hsz := HSZ4.out
    have hZ5 := HZ4.out.keepB (hbn.block _ (by omega))
    have HW5 := Lib.hid (HW4.out.trans (hbn.mono (by omega)))
    obtain ⟨⟨y0, y1, y2, y3, y4, y5⟩, f0, f1, f2, f3, f4, f5⟩ := hZ5.cells
    have HZ5 := Lib.hid hZ5
    clear hsz hZ5 hbn HV4 HZ4 HW4 HF4 HA4 HSZ4 HSQ
    go_simp
    go_wp2_with fail
    clear y0 y1 y2 y3 y4 y5 f0 f1 f2 f3 f4 f5
    have gW := HW5.out
    obtain ⟨Y, hY⟩ : ∃ Y, Y = (((((w4.setCell ⟨w.heap.size + 1, 0, none⟩ (.int .u64 0)).setCell ⟨w.heap.size + 1, 1, none⟩ (.int .u64 0)).setCell ⟨w.heap.size + 1, 2, none⟩ (.int .u64 0)).setCell ⟨w.heap.size + 1, 3, none⟩ (.int .u64 0)).setCell ⟨w.heap.size + 1, 4, none⟩ (.int .u64 0)).setCell ⟨w.heap.size + 1, 5, none⟩ (.int .u64 0) := ⟨_, rfl⟩
    rw [← hY]
    obtain ⟨⟨y0, y1, y2, y3, y4, y5⟩, hb⟩ := put_end HZ5.out 0 0 0 0 0 0 hY
    clear hY
    exact bodyPost_ret (v := .tuple #[W6 0 0 0 0 0 0, .bool false]) (by simp [results, Tryd.results14, go_sem, y0, y1, y2, y3, y4, y5]) rfl ⟨0, 0, 0, 0, 0, 0, false, rfl, lim6_0, .inl ⟨rfl, rfl, rfl, rfl, rfl, rfl, rfl, HNS.out⟩, gW.trans (hb.mono (by omega))⟩
end Go.Proofs.YteaafnjflghlhaaDoor
namespace Go.Proofs.YteaafnjflghlhaaDoor
open Go.RowKit

set_option maxRecDepth 100000 in
set_option maxHeartbeats 6400000 in
theorem rFSquare_c {u1 v : Value} {a P L1 M : Nat} {r : Bool} (w : World) (S : Int) (h1 : Num w u1 a L1) (h' : Num w v P M) (hL1 : L1 ≤ 1000) (hM : M ≤ 1000) (hP : 0 < P) (hrr : (a = 0 ∨ a ^ (P / 2) % P = 1) ↔ r = true) :
    Calls Tryd.prog 15 #[.agg #[v, .int .i64 S], u1] w (RetR (fun _ x => x = .bool r) w) := by
  obtain ⟨A, c, xs, rfl, hr, hc, hl⟩ := h'
  have hb := (Below.refl w.heap.size w).alloc (Nat.le_refl _) (.cells #[.slice A xs.length c, .int .i64 S] 32)
  have hcell := heap_alloc_new w (.cells #[.slice A xs.length c, .int .i64 S] 32)
  obtain ⟨X, hX⟩ : ∃ X, X = w.alloc (.cells #[.slice A xs.length c, .int .i64 S] 32) := ⟨_, rfl⟩
  have hs : X.heap.size = w.heap.size + 1 := by rw [hX]; simp
  rw [← hX] at hb hcell
  have c0 : X.cell? ⟨w.heap.size, 0, none⟩ = some (.slice A xs.length c) := cell_of_row X w.heap.size 0 _ _ _ hcell
  have c1 : X.cell? ⟨w.heap.size, 1, none⟩ = some (.int .i64 S) := cell_of_row X w.heap.size 1 _ _ _ hcell
  have HNP : Hid (Num X (.slice A xs.length c) P M) := ⟨A, c, xs, rfl, hr.below hb, hc, hl⟩
  obtain ⟨n, hn⟩ : ∃ n, n = xs.length := ⟨_, rfl⟩
  rw [← hn] at hX c0 HNP ⊢
  have HX := Lib.hid hX
  have HB := Lib.hid hb
  have HS : Hid (w.heap.size < X.heap.size) := by show _ < _; omega
  have HCC := Lib.hid (And.intro c0 c1)
  have hu := h1.below hb
  obtain ⟨A1, k1, ys, rfl, hr1, hc1, hl1⟩ := h1
  have hz := hc1.pos (by omega)
  obtain ⟨m, hm⟩ : ∃ m, m = ys.length := ⟨_, rfl⟩
  rw [← hm] at hu ⊢
  by_cases h0 : a = 0
  · have hm0 : m = 0 := by rw [hm, hz.2 h0]; rfl
    subst hm0
    obtain rfl : r = true := hrr.1 (.inl h0)
    clear hX hb hcell hr1 hc1 hl1 hr hc hl hn hs hz h0 hu hm hrr hP
    go_enter Tryd.func15, Tryd.ntmps15
    go_upto_region 1 with (fail)
    rw [← HX.out]
    clear HX
    go_quiet (fail)
    go_simp
    go_wp2_with fail
    go_ret
    exact ⟨_, rfl, rfl, ⟨HB.out.os, HB.out.tape, HB.out.output, HB.out.size, HB.out.block⟩⟩
  · have hm0 : ((m : Int) == 0) = false := by
      have : m ≠ 0 := fun e => h0 (hz.1 (List.eq_nil_of_length_eq_zero (hm.symm.trans e)))
      simp; omega
    have hmm : (((m : Nat) : Int) == 0) = false := hm0
    obtain ⟨Q, hQ⟩ : ∃ Q, Q = a ^ (P / 2 ^ 1) % P := ⟨_, rfl⟩
    have hr2 : (Q = 1) ↔ r = true := by
      rw [← hrr, hQ, Nat.pow_one]
      exact ⟨.inr, fun h => h.resolve_left h0⟩
    obtain ⟨z, hzz⟩ : ∃ z, z = ordI Q 1 := ⟨_, rfl⟩
    have HR : Hid ((z == 0) = r) := by
      show _ = _
      rw [hzz]
      by_cases hq : Q = 1
      · rw [hr2.1 hq, hq]; rfl
      · have : r = false := by
          cases r
          · rfl
          · exact absurd (hr2.2 rfl) hq
        rw [this]
        unfold ordI
        rcases Nat.lt_or_gt_of_ne hq with h | h
        · rw [if_pos h]; rfl
        · rw [if_neg (by omega), if_pos h]; rfl
    have HSH : Hid (∀ W, Below X.heap.size X W → Calls Tryd.prog 40 #[.slice A n c, .int .i64 1] W (RetR (fun w' x => Num w' x (P / 2 ^ 1) M) W)) := fun W hW => by
      have h := rshr_n W (HNP.out.below hW) (by omega) 1 (by omega)
      rw [show ((1 : Nat) : Int) = 1 from rfl] at h
      exact h
    have HOF : Hid (∀ W, Calls Tryd.prog 12 #[.int .u64 1] W (RetR (fun w' v => Num w' v 1 2) W)) := fun W => rof_c 1 (by omega) W
    have HU := Lib.hid hu
    have HQ := Lib.hid hQ
    have HZZ := Lib.hid hzz
    have HP := Lib.hid hP
    clear hX hb hcell hr1 hc1 hl1 hr hc hl hn hs hz h0 hu hm hrr hr2 hQ hzz hP hm0
    go_enter Tryd.func15, Tryd.ntmps15
    go_upto_region 1 with (fail)
    rw [← HX.out]
    clear HX
    refine wp_region_see 15 [5, 6, 7, 8, 9, 10, 11, 12, 13, 14, 15, 16, 17, 18, 4] [(5, .is (.slice A1 m k1)), (6, .is (.int .i64 (m : Nat))), (7, .is (.bool false)), (8, .is (.bool false)), (9, .is (.agg #[.slice A n c, .int .i64 S])), (10, .is (.slice A1 m k1)), (11, .is (.pointer (some ⟨w.heap.size, 0, none⟩))), (12, .is (.slice A n c)), (13, .num (P / 2 ^ 1) M), (14, .num Q M), (15, .num 1 2), (16, .is (.int .i64 z)), (17, .is (.bool r)), (18, .is (.bool r)), (4, .is (.bool r))] (by kernel_rfl) (by kernel_rfl) (by rfl) ?_ ?_
    · refine seeOps_cons ?_ (seeOps_cons ?_ (seeOps_cons ?_ (seeOps_cons ?_ (seeOps_cons ?_ (seeOps_cons ?_ (seeOps_cons ?_ (seeOps_cons ?_ (seeOps_cons ?_ (seeOps_cons ?_ (seeOps_cons ?_ (seeOps_cons ?_ (seeOps_cons ?_ (seeOps_cons ?_ (seeOps_cons ?_ seeOps_nil))))))))))))))
      · intro w9 hb9 fr hout hin
        have h1 : fr.tmps.getD 1 undef = .slice A1 m k1 := hout 1 (by decide)
        clear hout hin
        exact relStep_move (.tmp 1) rfl (wanted_none rfl) (by show fr.tmps.getD 1 undef = _; rw [h1])
      · intro w9 hb9 fr hout hin
        have h5 : fr.tmps.getD 5 undef = .slice A1 m k1 := hin 5 (by decide) (by decide)
        clear hout hin
        exact op_lenN (.tmp 5) rfl h5 (wanted_none rfl) rfl
      · intro w9 hb9 fr hout hin
        have h6 : fr.tmps.getD 6 undef = .int .i64 (m : Nat) := hin 6 (by decide) (by decide)
        clear hout hin
        exact op_eqID (.tmp 6) (.const (.int .i64 0)) _ (b := false) hmm rfl h6 rfl (wanted_none rfl) rfl
      · intro w9 hb9 fr hout hin
        have h7 : fr.tmps.getD 7 undef = .bool false := hin 7 (by decide) (by decide)
        clear hout hin
        exact relStep_move (.tmp 7) rfl (wanted_none rfl) (by show fr.tmps.getD 7 undef = _; rw [h7])
      · intro w9 hb9 fr hout hin
        have h2 : fr.tmps.getD 2 undef = .pointer (some ⟨w.heap.size, 0, none⟩) := hout 2 (by decide)
        have h8 : fr.tmps.getD 8 undef = .bool false := hin 8 (by decide) (by decide)
        clear hout hin
        exact op_loadF (.tmp 2) rfl h2 ⟨(hb9.cell (p := ⟨w.heap.size, 0, none⟩) HS.out).trans HCC.out.1, (hb9.cell (p := ⟨w.heap.size, 1, none⟩) HS.out).trans HCC.out.2⟩ (wanted_some (g := 3) (t := 8) (b := false) rfl rfl h8) rfl
      · intro w9 hb9 fr hout hin
        have h1 : fr.tmps.getD 1 undef = .slice A1 m k1 := hout 1 (by decide)
        have h8 : fr.tmps.getD 8 undef = .bool false := hin 8 (by decide) (by decide)
        clear hout hin
        exact relStep_move (.tmp 1) rfl (wanted_some (g := 3) (t := 8) (b := false) rfl rfl h8) (by show fr.tmps.getD 1 undef = _; rw [h1])
      · intro w9 hb9 fr hout hin
        have h2 : fr.tmps.getD 2 undef = .pointer (some ⟨w.heap.size, 0, none⟩) := hout 2 (by decide)
        have h8 : fr.tmps.getD 8 undef = .bool false := hin 8 (by decide) (by decide)
        clear hout hin
        exact op_faF0 (.tmp 2) rfl h2 (wanted_some (g := 3) (t := 8) (b := false) rfl rfl h8) rfl
      · intro w9 hb9 fr hout hin
        have h11 : fr.tmps.getD 11 undef = .pointer (some ⟨w.heap.size, 0, none⟩) := hin 11 (by decide) (by decide)
        have h8 : fr.tmps.getD 8 undef = .bool false := hin 8 (by decide) (by decide)
        clear hout hin
        exact op_loadN1 (.tmp 11) rfl h11 ((hb9.cell (p := ⟨w.heap.size, 0, none⟩) HS.out).trans HCC.out.1) (wanted_some (g := 3) (t := 8) (b := false) rfl rfl h8) rfl
      · intro w9 hb9 fr hout hin
        have h12 : fr.tmps.getD 12 undef = .slice A n c := hin 12 (by decide) (by decide)
        have h8 : fr.tmps.getD 8 undef = .bool false := hin 8 (by decide) (by decide)
        clear hout hin
        exact op_callB (.tmp 12) (.const (.int .i64 1)) rfl en_rShr (wanted_some (g := 3) (t := 8) (b := false) rfl rfl h8) (by rw [show fr.eval (.tmp 12) = _ from h12]; exact HSH.out w9 hb9) (fun _ _ h => h)
      · intro w9 hb9 fr hout hin
        have h9 : fr.tmps.getD 9 undef = .agg #[.slice A n c, .int .i64 S] := hin 9 (by decide) (by decide)
        have h10 : fr.tmps.getD 10 undef = .slice A1 m k1 := hin 10 (by decide) (by decide)
        have h13 : Num w9 (fr.tmps.getD 13 undef) (P / 2 ^ 1) M := hin 13 (by decide) (by decide)
        have h8 : fr.tmps.getD 8 undef = .bool false := hin 8 (by decide) (by decide)
        clear hout hin
        exact op_call3 (.tmp 9) (.tmp 10) (.tmp 13) rfl en_rFExp (wanted_some (g := 3) (t := 8) (b := false) rfl rfl h8) (by rw [show fr.eval (.tmp 9) = _ from h9, show fr.eval (.tmp 10) = _ from h10, HQ.out]; exact rFExp_c w9 S (HU.out.below hb9) h13 (HNP.out.below hb9) (by omega) (by omega) (by omega) HP.out) (fun _ _ h => h)
      · intro w9 hb9 fr hout hin
        have h8 : fr.tmps.getD 8 undef = .bool false := hin 8 (by decide) (by decide)
        clear hout hin
        exact op_call1 (.const (.int .u64 1)) rfl en_rOf2 (wanted_some (g := 3) (t := 8) (b := false) rfl rfl h8) (HOF.out w9) (fun _ _ h => h)
      · intro w9 hb9 fr hout hin
        have h14 : Num w9 (fr.tmps.getD 14 undef) Q M := hin 14 (by decide) (by decide)
        have h15 : Num w9 (fr.tmps.getD 15 undef) 1 2 := hin 15 (by decide) (by decide)
        have h8 : fr.tmps.getD 8 undef = .bool false := hin 8 (by decide) (by decide)
        clear hout hin
        exact op_callB (.tmp 14) (.tmp 15) rfl en_rCmp (wanted_some (g := 3) (t := 8) (b := false) rfl rfl h8) ((rcmp_n w9 h14 h15 (by omega)).mono fun e w' hk => (⟨_, hk.below.1, by rw [HZZ.out], hk.below.2⟩ : RetR (fun _ v => v = .int .i64 z) w9 e w')) (fun _ _ h => h)
      · intro w9 hb9 fr hout hin
        have h16 : fr.tmps.getD 16 undef = .int .i64 z := hin 16 (by decide) (by decide)
        have h8 : fr.tmps.getD 8 undef = .bool false := hin 8 (by decide) (by decide)
        clear hout hin
        exact op_eqID (.tmp 16) (.const (.int .i64 0)) _ HR.out rfl h16 rfl (wanted_some (g := 3) (t := 8) (b := false) rfl rfl h8) rfl
      · intro w9 hb9 fr hout hin
        have h8 : fr.tmps.getD 8 undef = .bool false := hin 8 (by decide) (by decide)
        have h17 : fr.tmps.getD 17 undef = .bool r := hin 17 (by decide) (by decide)
        clear hout hin
        exact relStep_pickF (.tmp 8) (.const (.bool true)) (.tmp 17) rfl h8 (wanted_none rfl) (by show fr.tmps.getD 17 undef = _; rw [h17])
      · intro w9 hb9 fr hout hin
        have h18 : fr.tmps.getD 18 undef = .bool r := hin 18 (by decide) (by decide)
        clear hout hin
        exact relStep_assign (.tmp 18) rfl (wanted_none rfl) (by show fr.tmps.getD 18 undef = _; rw [h18])
    intro wz hbn
    refine relAsk_in (by rfl) ?_
    intro v5 h5
    obtain rfl : v5 = .slice A1 m k1 := h5
    refine relAsk_in (by rfl) ?_
    intro v6 h6
    obtain rfl : v6 = .int .i64 (m : Nat) := h6
    refine relAsk_in (by rfl) ?_
    intro v7 h7
    obtain rfl : v7 = .bool false := h7
    refine relAsk_in (by rfl) ?_
    intro v8 h8
    obtain rfl : v8 = .bool false := h8
    refine relAsk_in (by rfl) ?_
    intro v9 h9
    obtain rfl : v9 = .agg #[.slice A n c, .int .i64 S] := h9
    refine relAsk_in (by rfl) ?_
    intro v10 h10
    obtain rfl : v10 = .slice A1 m k1 := h10
    refine relAsk_in (by rfl) ?_
    intro v11 h11
    obtain rfl : v11 = .pointer (some ⟨w.heap.size, 0, none⟩) := h11
    refine relAsk_in (by rfl) ?_
    intro v12 h12
    obtain rfl : v12 = .slice A n c := h12
    refine relAsk_in (by rfl) ?_
    intro v13 h13
    refine relAsk_in (by rfl) ?_
    intro v14 h14
    refine relAsk_in (by rfl) ?_
    intro v15 h15
    refine relAsk_in (by rfl) ?_
    intro v16 h16
    obtain rfl : v16 = .int .i64 z := h16
    refine relAsk_in (by rfl) ?_
    intro v17 h17
    obtain rfl : v17 = .bool r := h17
    refine relAsk_in (by rfl) ?_
    intro v18 h18
    obtain rfl : v18 = .bool r := h18
    refine relAsk_in (by rfl) ?_
    intro v4 h4
    obtain rfl : v4 = .bool r := h4
    refine relAsk_nil ?_
    refine wpList_nil ?_
    have HB1 := Lib.hid (HB.out.trans (hbn.mono HB.out.size))
    clear h13 h14 h15 hbn
    go_simp
    go_wp2_with fail
    go_ret
    exact ⟨_, rfl, rfl, HB1.out⟩
end Go.Proofs.YteaafnjflghlhaaDoor
namespace Go.Proofs.YteaafnjflghlhaaDoor
open Go.RowKit

/-- Kind and two numbers of an Ask. -/
theorem askCellsR {w X : World} {K : Int} {a0 a1 a2 a3 a4 a5 b0 b1 b2 b3 b4 b5 : Nat} {c0 c1 c2 c3 c4 c5 ve : Value} (hX : X = w.alloc (.cells #[.int .i64 K, .int .u64 (a0 : Nat), .int .u64 (a1 : Nat), .int .u64 (a2 : Nat), .int .u64 (a3 : Nat), .int .u64 (a4 : Nat), .int .u64 (a5 : Nat), .int .u64 (b0 : Nat), .int .u64 (b1 : Nat), .int .u64 (b2 : Nat), .int .u64 (b3 : Nat), .int .u64 (b4 : Nat), .int .u64 (b5 : Nat), c0, c1, c2, c3, c4, c5, ve] 27)) :
    X.cell? ⟨w.heap.size, 0, none⟩ = some (.int .i64 K) ∧ L6 X w.heap.size 1 a0 a1 a2 a3 a4 a5 ∧ L6 X w.heap.size 7 b0 b1 b2 b3 b4 b5 ∧ Below w.heap.size w X ∧ X.heap.size = w.heap.size + 1 := by
  subst hX
  have h := heap_alloc_new w (.cells #[.int .i64 K, .int .u64 (a0 : Nat), .int .u64 (a1 : Nat), .int .u64 (a2 : Nat), .int .u64 (a3 : Nat), .int .u64 (a4 : Nat), .int .u64 (a5 : Nat), .int .u64 (b0 : Nat), .int .u64 (b1 : Nat), .int .u64 (b2 : Nat), .int .u64 (b3 : Nat), .int .u64 (b4 : Nat), .int .u64 (b5 : Nat), c0, c1, c2, c3, c4, c5, ve] 27)
  have c := fun j => cell_of_row _ w.heap.size j _ _ _ h
  exact ⟨c 0, ⟨c 1, c 2, c 3, c 4, c 5, c 6⟩, ⟨c 7, c 8, c 9, c 10, c 11, c 12⟩, (Below.refl _ _).alloc (Nat.le_refl _) _, by simp⟩

set_option maxRecDepth 100000 in
set_option maxHeartbeats 6400000 in
theorem fieldRoot_no {K : Int} {a0 a1 a2 a3 a4 a5 b0 b1 b2 b3 b4 b5 : Nat} {c0 c1 c2 c3 c4 c5 ve : Value} (w : World) (hK : K < 1 ∨ 6 < K) (hG : PrimesAt w) :
    Calls Tryd.prog 4 #[.agg #[.int .i64 K, .int .u64 (a0 : Nat), .int .u64 (a1 : Nat), .int .u64 (a2 : Nat), .int .u64 (a3 : Nat), .int .u64 (a4 : Nat), .int .u64 (a5 : Nat), .int .u64 (b0 : Nat), .int .u64 (b1 : Nat), .int .u64 (b2 : Nat), .int .u64 (b3 : Nat), .int .u64 (b4 : Nat), .int .u64 (b5 : Nat), c0, c1, c2, c3, c4, c5, ve]] w (RetV (.bool true) w) := by
  obtain ⟨X, hX⟩ : ∃ X, X = w.alloc (.cells #[.int .i64 K, .int .u64 (a0 : Nat), .int .u64 (a1 : Nat), .int .u64 (a2 : Nat), .int .u64 (a3 : Nat), .int .u64 (a4 : Nat), .int .u64 (a5 : Nat), .int .u64 (b0 : Nat), .int .u64 (b1 : Nat), .int .u64 (b2 : Nat), .int .u64 (b3 : Nat), .int .u64 (b4 : Nat), .int .u64 (b5 : Nat), c0, c1, c2, c3, c4, c5, ve] 27) := ⟨_, rfl⟩
  obtain ⟨q0, -, -, hb, hs⟩ := askCellsR hX
  have CB := Lib.hid (fboth_no (K := K) X hK (hG.below hb hG.lt))
  have HX := Lib.hid hX
  have HB := Lib.hid hb
  clear hX hb hs hG hK
  go_enter Tryd.func4, Tryd.ntmps4
  go_upto_region 1 with (fail)
  rw [← HX.out]
  clear HX
  go_wp2_with fail
  (with_reducible refine (CB.out).mono ?_)
  rintro e w1 ⟨r, rfl, rfl, hb1⟩
  have HB1 := Lib.hid (HB.out.trans (hb1.mono HB.out.size))
  clear hb1 CB
  go_wp2_with fail
  go_ret
  exact ⟨rfl, HB1.out.alloc HB1.out.size _⟩

set_option maxRecDepth 100000 in
set_option maxHeartbeats 6400000 in
theorem fieldRoot_k {k : Nat} {a0 a1 a2 a3 a4 a5 b0 b1 b2 b3 b4 b5 : Nat} {c0 c1 c2 c3 c4 c5 ve : Value} (w : World) (h1 : 1 ≤ k) (h6 : k ≤ 6) (hG : PrimesAt w) (hT : TabAt w) (la : Lim6 a0 a1 a2 a3 a4 a5) (lb' : Lim6 b0 b1 b2 b3 b4 b5) :
    Calls Tryd.prog 4 #[.agg #[.int .i64 (k : Nat), .int .u64 (a0 : Nat), .int .u64 (a1 : Nat), .int .u64 (a2 : Nat), .int .u64 (a3 : Nat), .int .u64 (a4 : Nat), .int .u64 (a5 : Nat), .int .u64 (b0 : Nat), .int .u64 (b1 : Nat), .int .u64 (b2 : Nat), .int .u64 (b3 : Nat), .int .u64 (b4 : Nat), .int .u64 (b5 : Nat), c0, c1, c2, c3, c4, c5, ve]] w (RetV (.bool true) w) := by
  obtain ⟨X, hX⟩ : ∃ X, X = w.alloc (.cells #[.int .i64 (k : Nat), .int .u64 (a0 : Nat), .int .u64 (a1 : Nat), .int .u64 (a2 : Nat), .int .u64 (a3 : Nat), .int .u64 (a4 : Nat), .int .u64 (a5 : Nat), .int .u64 (b0 : Nat), .int .u64 (b1 : Nat), .int .u64 (b2 : Nat), .int .u64 (b3 : Nat), .int .u64 (b4 : Nat), .int .u64 (b5 : Nat), c0, c1, c2, c3, c4, c5, ve] 27) := ⟨_, rfl⟩
  obtain ⟨q0, hA, hBB, hb, hs⟩ := askCellsR hX
  have hTl := hT.lt
  have CB := Lib.hid (fboth_c (k := k) X h1 h6 (hG.below hb hG.lt))
  have CQ : Hid (∀ W F x0 x1 x2 x3 x4 x5, Below w.heap.size w W → FldAt (prm k) (plim k) W F → Lim6 x0 x1 x2 x3 x4 x5 → Calls Tryd.prog 14 #[.pointer (some ⟨F, 0, none⟩), W6 x0 x1 x2 x3 x4 x5] W (SqrtF (prm k) (n6 x0 x1 x2 x3 x4 x5) W)) := fun W F x0 x1 x2 x3 x4 x5 hW hF lx => fSqrt_c W h1 h6 (hT.below hW hTl) hF lx
  have HK := Lib.hid (fnum h1 h6)
  have HPR := Lib.hid (prm_prime h1 h6)
  have HX := Lib.hid hX
  have HB := Lib.hid hb
  have HS := Lib.hid hs
  have HA := Lib.hid hA
  have HBB := Lib.hid hBB
  have HLA := Lib.hid la
  have HLB := Lib.hid lb'
  clear hX hb hs hA hBB hG h1 h6 la lb' hT hTl
  go_enter Tryd.func4, Tryd.ntmps4
  go_upto_region 1 with (fail)
  rw [← HX.out]
  clear HX
  go_wp2_with fail
  (with_reducible refine (CB.out).mono ?_)
  rintro e w1 ⟨F, A1, n1, c1, rfl, hN, hF, hFl, hb1⟩
  obtain ⟨S, hS⟩ : ∃ S : Nat, S = 8 * plim k := ⟨_, rfl⟩
  rw [← hS]
  obtain ⟨X1, hX1⟩ : ∃ X, X = w1.alloc (.cells #[.slice A1 n1 c1, .int .i64 (S : Nat)] 32) := ⟨_, rfl⟩
  obtain ⟨⟨r0, r1, -, -⟩, -, hbx, hsx⟩ := cellF hX1
  have HX1 := Lib.hid hX1
  have hxx : Below X.heap.size X X1 := hb1.trans (hbx.mono hb1.size)
  have HN1 := Lib.hid (hN.below hbx)
  have HF1 := Lib.hid (hF.below hbx hF.lt)
  have HR1 := Lib.hid (And.intro r0 r1)
  have HA1 := Lib.hid (HA.out.keepB (hxx.block w.heap.size (by rw [HS.out]; omega)))
  have HBB1 := Lib.hid (HBB.out.keepB (hxx.block w.heap.size (by rw [HS.out]; omega)))
  have HW1 := Lib.hid (HB.out.trans (hxx.mono HB.out.size))
  have HSZ1 : Hid (w1.heap.size < X1.heap.size ∧ w.heap.size < X1.heap.size ∧ w.heap.size < w1.heap.size) := ⟨by omega, by have := hxx.size; have := HS.out; omega, by have := hb1.size; have := HS.out; omega⟩
  clear hN hF hFl hb1 hX1 hbx hsx hxx hS r0 r1 CB HA HBB HB q0
  go_upto_region 4 with (fail)
  rw [← HX1.out]
  clear HX1
  refine wp_region_see 6 [25, 26, 27, 28, 29, 7] [(25, .is (.agg #[.slice A1 n1 c1, .int .i64 (S : Nat)])), (26, .is (.pointer (some ⟨w.heap.size, 1, none⟩))), (27, .is (W6 a0 a1 a2 a3 a4 a5)), (28, .num (n6 a0 a1 a2 a3 a4 a5) 12), (29, .num (n6 a0 a1 a2 a3 a4 a5 % prm k) 12), (7, .num (n6 a0 a1 a2 a3 a4 a5 % prm k) 12)] (by kernel_rfl) (by kernel_rfl) (by rfl) ?_ ?_
  · refine seeOps_cons ?_ (seeOps_cons ?_ (seeOps_cons ?_ (seeOps_cons ?_ (seeOps_cons ?_ (seeOps_cons ?_ seeOps_nil)))))
    · intro w9 hb9 fr hout hin
      have h4 : fr.tmps.getD 4 undef = .pointer (some ⟨w1.heap.size, 0, none⟩) := hout 4 (by decide)
      clear hout hin
      exact op_loadF (.tmp 4) rfl h4 ⟨(hb9.cell (p := ⟨w1.heap.size, 0, none⟩) HSZ1.out.1).trans HR1.out.1, (hb9.cell (p := ⟨w1.heap.size, 1, none⟩) HSZ1.out.1).trans HR1.out.2⟩ (wanted_none rfl) rfl
    · intro w9 hb9 fr hout hin
      have h1 : fr.tmps.getD 1 undef = .pointer (some ⟨w.heap.size, 0, none⟩) := hout 1 (by decide)
      clear hout hin
      exact op_faA (.tmp 1) rfl h1 (wanted_none rfl) rfl
    · intro w9 hb9 fr hout hin
      have h26 : fr.tmps.getD 26 undef = .pointer (some ⟨w.heap.size, 1, none⟩) := hin 26 (by decide) (by decide)
      clear hout hin
      exact op_load6 (.tmp 26) rfl h26 (HA1.out.keepB (hb9.block w.heap.size HSZ1.out.2.1)) (wanted_none rfl) rfl
    · intro w9 hb9 fr hout hin
      have h27 : fr.tmps.getD 27 undef = W6 a0 a1 a2 a3 a4 a5 := hin 27 (by decide) (by decide)
      clear hout hin
      exact op_call1 (.tmp 27) rfl en_rN (wanted_none rfl) (by rw [show fr.eval (.tmp 27) = _ from h27]; exact rN_c w9 HLA.out) (fun _ _ h => h)
    · intro w9 hb9 fr hout hin
      have h25 : fr.tmps.getD 25 undef = .agg #[.slice A1 n1 c1, .int .i64 (S : Nat)] := hin 25 (by decide) (by decide)
      have h28 : Num w9 (fr.tmps.getD 28 undef) (n6 a0 a1 a2 a3 a4 a5) 12 := hin 28 (by decide) (by decide)
      clear hout hin
      exact op_callB (.tmp 25) (.tmp 28) rfl en_rRed (wanted_none rfl) (by rw [show fr.eval (.tmp 25) = _ from h25]; exact rRed_c w9 (S : Nat) h28 (HN1.out.below hb9) (by omega) (by omega) (by have := HK.out.pos; omega)) (fun _ _ h => h)
    · intro w9 hb9 fr hout hin
      have h29 : Num w9 (fr.tmps.getD 29 undef) (n6 a0 a1 a2 a3 a4 a5 % prm k) 12 := hin 29 (by decide) (by decide)
      clear hout hin
      exact relStep_assign (.tmp 29) rfl (wanted_none rfl) h29
  intro w4 hbn
  refine relAsk_in (by rfl) ?_
  intro v25 h25
  obtain rfl : v25 = .agg #[.slice A1 n1 c1, .int .i64 (S : Nat)] := h25
  refine relAsk_in (by rfl) ?_
  intro v26 h26
  obtain rfl : v26 = .pointer (some ⟨w.heap.size, 1, none⟩) := h26
  refine relAsk_in (by rfl) ?_
  intro v27 h27
  obtain rfl : v27 = W6 a0 a1 a2 a3 a4 a5 := h27
  refine relAsk_in (by rfl) ?_
  intro v28 h28
  refine relAsk_in (by rfl) ?_
  intro v29 h29
  refine relAsk_in (by rfl) ?_
  intro v7 h7
  refine relAsk_nil ?_
  refine wpList_nil ?_
  clear h28 h29
  have HSZ1 : Hid (w1.heap.size < X1.heap.size ∧ w.heap.size < X1.heap.size) := ⟨HSZ1.out.1, HSZ1.out.2.1⟩
  have HBN := hbn
  have HA4 := Lib.hid (HA1.out.keepB (HBN.block w.heap.size HSZ1.out.2))
  have HBB4 := Lib.hid (HBB1.out.keepB (HBN.block w.heap.size HSZ1.out.2))
  have HR4 : Hid (w4.cell? ⟨w1.heap.size, 0, none⟩ = some (.slice A1 n1 c1) ∧ w4.cell? ⟨w1.heap.size, 1, none⟩ = some (.int .i64 (S : Nat))) := ⟨(HBN.cell (p := ⟨w1.heap.size, 0, none⟩) HSZ1.out.1).trans HR1.out.1, (HBN.cell (p := ⟨w1.heap.size, 1, none⟩) HSZ1.out.1).trans HR1.out.2⟩
  have HN4 := Lib.hid (HN1.out.below HBN)
  have HF4 := Lib.hid (HF1.out.below HBN HF1.out.lt)
  have HW4 := Lib.hid (HW1.out.trans (HBN.mono (Nat.le_of_lt HSZ1.out.2)))
  have HSZ4 : Hid (w1.heap.size < w4.heap.size ∧ w.heap.size < w4.heap.size) := ⟨Nat.lt_of_lt_of_le HSZ1.out.1 HBN.size, Nat.lt_of_lt_of_le HSZ1.out.2 HBN.size⟩
  clear HA1 HBB1 HR1 HN1 HF1 HW1 HSZ1
  have CI := Lib.hid (CQ.out w4 F a0 a1 a2 a3 a4 a5 HW4.out HF4.out HLA.out)
  obtain ⟨A7, c7, xs7, rfl, hr7, hc7, hl7⟩ := h7
  obtain ⟨n7, hn7⟩ : ∃ n, n = xs7.length := ⟨_, rfl⟩
  have HV4 : Hid (Num w4 (.slice A7 n7 c7) (n6 a0 a1 a2 a3 a4 a5 % prm k) 12) := ⟨A7, c7, xs7, by rw [hn7], hr7, hc7, hl7⟩
  rw [← hn7]
  obtain ⟨d0, d1, d2, d3, d4, d5⟩ := HA4.out
  simp only [Nat.reduceAdd] at d0 d1 d2 d3 d4 d5
  clear hr7 hc7 hl7 hn7 hbn HBN
  go_simp
  go_wp2_with fail
  (with_reducible refine (CI.out).mono ?_)
  rintro e w5 ⟨s0, s1, s2, s3, s4, s5, is, rfl, ls, hcase, hb5⟩
  obtain ⟨X5, hX5⟩ : ∃ X, X = w5.alloc (.cells #[.int .u64 (s0 : Nat), .int .u64 (s1 : Nat), .int .u64 (s2 : Nat), .int .u64 (s3 : Nat), .int .u64 (s4 : Nat), .int .u64 (s5 : Nat)] 24) := ⟨_, rfl⟩
  obtain ⟨gx, -, gb, gs⟩ := box6 w5 s0 s1 s2 s3 s4 s5
  rw [show Box6 w5 s0 s1 s2 s3 s4 s5 = X5 from hX5.symm] at gx gb gs
  have HBN : Below w4.heap.size w4 X5 := hb5.trans (gb.mono hb5.size)
  have HV5 := Lib.hid (HV4.out.below HBN)
  have HG5 : Hid (w.heap.size < w4.heap.size ∧ w4.heap.size ≤ w5.heap.size) := ⟨HSZ4.out.2, hb5.size⟩
  have HA5 := Lib.hid (HA4.out.keepB (HBN.block w.heap.size HSZ4.out.2))
  have HBB5 := Lib.hid (HBB4.out.keepB (HBN.block w.heap.size HSZ4.out.2))
  have HR5 : Hid (X5.cell? ⟨w1.heap.size, 0, none⟩ = some (.slice A1 n1 c1) ∧ X5.cell? ⟨w1.heap.size, 1, none⟩ = some (.int .i64 (S : Nat))) := ⟨(HBN.cell (p := ⟨w1.heap.size, 0, none⟩) HSZ4.out.1).trans HR4.out.1, (HBN.cell (p := ⟨w1.heap.size, 1, none⟩) HSZ4.out.1).trans HR4.out.2⟩
  have HN5 := Lib.hid (HN4.out.below HBN)
  have HF5 := Lib.hid (HF4.out.below HBN HF4.out.lt)
  have HW5 := Lib.hid (HW4.out.trans (HBN.mono (Nat.le_of_lt HSZ4.out.2)))
  have HSZ5 : Hid (w1.heap.size < X5.heap.size ∧ w.heap.size < X5.heap.size) := ⟨Nat.lt_of_lt_of_le HSZ4.out.1 HBN.size, Nat.lt_of_lt_of_le HSZ4.out.2 HBN.size⟩
  clear HA4 HBB4 HR4 HN4 HF4 HW4 HSZ4
  have HS5 : Hid (L6 X5 w5.heap.size 0 s0 s1 s2 s3 s4 s5) := gx
  have HZ5 : Hid (w5.heap.size < X5.heap.size) := by show _ < _; omega
  have HX5 := Lib.hid hX5
  have HLS := Lib.hid ls
  have hsq : (n6 a0 a1 a2 a3 a4 a5 % prm k = 0 ∨ (n6 a0 a1 a2 a3 a4 a5 % prm k) ^ (prm k / 2) % prm k = 1) ↔ is = true := by
    have ho := HPR.out.2
    have e : prm k / 2 = (prm k - 1) / 2 := by omega
    rw [e, ← Nat.pow_mod]
    rcases hcase with ⟨h, -, -, -, -, -, -, h2⟩ | ⟨h, h2, -, -⟩
    · rw [h]; exact ⟨fun h3 => absurd h3 h2, fun h3 => by cases h3⟩
    · rw [h]; exact ⟨fun _ => rfl, fun _ => h2⟩
  have CS : Hid (∀ W, Below X5.heap.size X5 W → Calls Tryd.prog 15 #[.agg #[.slice A1 n1 c1, .int .i64 (S : Nat)], .slice A7 n7 c7] W (RetR (fun _ x => x = .bool is) W)) := fun W hW =>
    rFSquare_c W (S : Nat) (HV5.out.below hW) (HN5.out.below hW) (by omega) (by omega) (by have := HK.out.pos; omega) hsq
  have HCA : Hid (is = false ∧ s0 = 0 ∧ s1 = 0 ∧ s2 = 0 ∧ s3 = 0 ∧ s4 = 0 ∧ s5 = 0 ∨ is = true ∧ 2 * n6 s0 s1 s2 s3 s4 s5 ≤ prm k ∧ n6 s0 s1 s2 s3 s4 s5 * n6 s0 s1 s2 s3 s4 s5 % prm k = n6 a0 a1 a2 a3 a4 a5 % prm k) := by
    rcases hcase with ⟨h, q0, q1, q2, q3, q4, q5, -⟩ | ⟨h, -, h2, h3⟩
    · exact .inl ⟨h, q0, q1, q2, q3, q4, q5⟩
    · exact .inr ⟨h, h2, h3⟩
  clear CI hb5 HBN gx gb gs hX5 HV4 d0 d1 d2 d3 d4 d5 hcase hsq ls
  go_upto_region 6 with (fail)
  rw [← HX5.out]
  clear HX5
  have CS5 := Lib.hid (CS.out X5 (Below.refl _ _))
  obtain ⟨g0, g1⟩ := HR5.out
  obtain ⟨e0, e1, e2, e3, e4, e5⟩ := HS5.out
  simp only [Nat.zero_add] at e1 e2 e3 e4 e5
  clear CS e0 e1 e2 e3 e4 e5
  have CC := CS5
  clear CS5
  go_wp2_with fail
  (with_reducible refine (CC.out).mono ?_)
  rintro e w6 ⟨v, rfl, rfl, HBN⟩
  have HS6 := Lib.hid (HS5.out.keepB (HBN.block _ HZ5.out))
  have HBB6 := Lib.hid (HBB5.out.keepB (HBN.block w.heap.size HSZ5.out.2))
  have HR6 : Hid (w6.cell? ⟨w1.heap.size, 0, none⟩ = some (.slice A1 n1 c1) ∧ w6.cell? ⟨w1.heap.size, 1, none⟩ = some (.int .i64 (S : Nat))) := ⟨(HBN.cell (p := ⟨w1.heap.size, 0, none⟩) HSZ5.out.1).trans HR5.out.1, (HBN.cell (p := ⟨w1.heap.size, 1, none⟩) HSZ5.out.1).trans HR5.out.2⟩
  have HN6 := Lib.hid (HN5.out.below HBN)
  have HF6 := Lib.hid (HF5.out.below HBN HF5.out.lt)
  have HW6 := Lib.hid (HW5.out.trans (HBN.mono (Nat.le_of_lt HSZ5.out.2)))
  have HSZ6 : Hid (w1.heap.size < w6.heap.size ∧ w.heap.size < w6.heap.size) := ⟨Nat.lt_of_lt_of_le HSZ5.out.1 HBN.size, Nat.lt_of_lt_of_le HSZ5.out.2 HBN.size⟩
  have HV6 := Lib.hid (HV5.out.below HBN)
  clear HBB5 HR5 HN5 HF5 HW5 HSZ5 HV5 HBN
  obtain ⟨e0, e1, e2, e3, e4, e5⟩ := HS6.out
  simp only [Nat.zero_add] at e1 e2 e3 e4 e5
  clear CC g0 g1 HS5
  rcases HCA.out with ⟨rfl, rfl, rfl, rfl, rfl, rfl, rfl⟩ | ⟨rfl, hs2, hss⟩
  · have q0 := eq0
    have e0' : w6.cell? ⟨w5.heap.size, 0, none⟩ = some (.int .u64 0) := e0
    have e1' : w6.cell? ⟨w5.heap.size, 1, none⟩ = some (.int .u64 0) := e1
    have e2' : w6.cell? ⟨w5.heap.size, 2, none⟩ = some (.int .u64 0) := e2
    have e3' : w6.cell? ⟨w5.heap.size, 3, none⟩ = some (.int .u64 0) := e3
    have e4' : w6.cell? ⟨w5.heap.size, 4, none⟩ = some (.int .u64 0) := e4
    have e5' : w6.cell? ⟨w5.heap.size, 5, none⟩ = some (.int .u64 0) := e5
    clear e0 e1 e2 e3 e4 e5 HCA
    have CN := rN_c w6 HLS.out
    unfold W6 at CN
    rw [show ((0 : Nat) : Int) = 0 from rfl] at CN
    have CC := Lib.hid CN
    clear CN
    go_wp2_with fail
    (with_reducible refine (CC.out).mono ?_)
    rintro e w7 ⟨v10, rfl, hv10, HBN⟩
    have HBB7 := Lib.hid (HBB6.out.keepB (HBN.block w.heap.size HSZ6.out.2))
    have HR7 : Hid (w7.cell? ⟨w1.heap.size, 0, none⟩ = some (.slice A1 n1 c1) ∧ w7.cell? ⟨w1.heap.size, 1, none⟩ = some (.int .i64 (S : Nat))) := ⟨(HBN.cell (p := ⟨w1.heap.size, 0, none⟩) HSZ6.out.1).trans HR6.out.1, (HBN.cell (p := ⟨w1.heap.size, 1, none⟩) HSZ6.out.1).trans HR6.out.2⟩
    have HN7 := Lib.hid (HN6.out.below HBN)
    have HF7 := Lib.hid (HF6.out.below HBN HF6.out.lt)
    have HW7 := Lib.hid (HW6.out.trans (HBN.mono (Nat.le_of_lt HSZ6.out.2)))
    have HSZ7 : Hid (w1.heap.size < w7.heap.size ∧ w.heap.size < w7.heap.size) := ⟨Nat.lt_of_lt_of_le HSZ6.out.1 HBN.size, Nat.lt_of_lt_of_le HSZ6.out.2 HBN.size⟩
    clear HBB6 HR6 HN6 HF6 HW6 HSZ6 HBN
    clear hv10 HS6 CC e0' e1' e2' e3' e4' e5' q0 HV6
    obtain ⟨d0, d1, d2, d3, d4, d5⟩ := HBB7.out
    simp only [Nat.reduceAdd] at d0 d1 d2 d3 d4 d5
    have CC := Lib.hid (fMul_c w7 HK.out HF7.out HLB.out HLB.out)
    clear HR7 HN7
    go_wp2_with fail
    (with_reducible refine (CC.out).mono ?_)
    rintro e u1 ⟨m0, m1, m2, m3, m4, m5, rfl, lm, em, HBN⟩
    have HBB20 := Lib.hid (HBB7.out.keepB (HBN.block w.heap.size HSZ7.out.2))
    have hF20 := HF7.out.below HBN HF7.out.lt
    have hW20 := HW7.out.trans (HBN.mono (Nat.le_of_lt HSZ7.out.2))
    have HF20 := Lib.hid hF20
    have HW20 := Lib.hid hW20
    have HSZ20 : Hid (w.heap.size < u1.heap.size) := Nat.lt_of_lt_of_le HSZ7.out.2 HBN.size
    have HEM := Lib.hid em
    have CC := Lib.hid (CQ.out u1 F m0 m1 m2 m3 m4 m5 hW20 hF20 lm)
    clear HBN hF20 hW20 em lm HBB7 HF7 HW7 HSZ7 d0 d1 d2 d3 d4 d5
    go_wp2_with fail
    (with_reducible refine (CC.out).mono ?_)
    rintro e u2 ⟨t0, t1, t2, t3, t4, t5, two, rfl, lt, hc2, HBN⟩
    obtain ⟨X12, hX12⟩ : ∃ Z, Z = u2.alloc (.cells #[.int .u64 (t0 : Nat), .int .u64 (t1 : Nat), .int .u64 (t2 : Nat), .int .u64 (t3 : Nat), .int .u64 (t4 : Nat), .int .u64 (t5 : Nat)] 24) := ⟨_, rfl⟩
    obtain ⟨gx, -, gb, gs⟩ := box6 u2 t0 t1 t2 t3 t4 t5
    rw [show Box6 u2 t0 t1 t2 t3 t4 t5 = X12 from hX12.symm] at gx gb gs
    have HBN : Below u1.heap.size u1 X12 := HBN.trans (gb.mono HBN.size)
    have hP1 := HK.out.pos
    have hpr := HPR.out
    have hcc : two = true ∧ n6 t0 t1 t2 t3 t4 t5 < prm k ∧ n6 t0 t1 t2 t3 t4 t5 * n6 t0 t1 t2 t3 t4 t5 % prm k = n6 b0 b1 b2 b3 b4 b5 * n6 b0 b1 b2 b3 b4 b5 % prm k := by
      have e2 : (n6 b0 b1 b2 b3 b4 b5 * n6 b0 b1 b2 b3 b4 b5) % prm k = n6 m0 m1 m2 m3 m4 m5 % prm k := by rw [HEM.out, Nat.mod_mod]
      have hsq := is_sq hpr.1 hpr.2 e2
      rcases hc2 with ⟨-, -, -, -, -, -, -, h⟩ | ⟨h, -, h2, h3⟩
      · exact absurd hsq h
      · exact ⟨h, by omega, by rw [h3, ← e2]⟩
    obtain ⟨rfl, htl, htt⟩ := hcc
    have HTT := Lib.hid (And.intro htl htt)
    have HLT := Lib.hid lt
    have HBB21 := Lib.hid (HBB20.out.keepB (HBN.block w.heap.size HSZ20.out))
    have HF21 := Lib.hid (HF20.out.below HBN HF20.out.lt)
    have HW21 := Lib.hid (HW20.out.trans (HBN.mono (Nat.le_of_lt HSZ20.out)))
    have HT21 : Hid (L6 X12 u2.heap.size 0 t0 t1 t2 t3 t4 t5) := gx
    have HSZ21 : Hid (w.heap.size < X12.heap.size ∧ u2.heap.size < X12.heap.size) := ⟨Nat.lt_of_lt_of_le HSZ20.out HBN.size, by omega⟩
    obtain ⟨d0, d1, d2, d3, d4, d5⟩ := HBB21.out
    simp only [Nat.reduceAdd] at d0 d1 d2 d3 d4 d5
    have HX12 := Lib.hid hX12
    have CC := Lib.hid (fReduce_c X12 HK.out HF21.out HLB.out)
    clear HBN gx gb gs hX12 hP1 hpr htl htt lt hc2 HBB20 HF20 HW20 HSZ20 HEM
    go_upto_region 12 with (fail)
    rw [← HX12.out]
    clear HX12
    go_wp2_with fail
    (with_reducible refine (CC.out).mono ?_)
    rintro e u3 ⟨q0, q1, q2, q3, q4, q5, rfl, lq, eq, HBN⟩
    obtain ⟨X13, hX13⟩ : ∃ Z, Z = u3.alloc (.cells #[.int .u64 (q0 : Nat), .int .u64 (q1 : Nat), .int .u64 (q2 : Nat), .int .u64 (q3 : Nat), .int .u64 (q4 : Nat), .int .u64 (q5 : Nat)] 24) := ⟨_, rfl⟩
    obtain ⟨gx, -, gb, gs⟩ := box6 u3 q0 q1 q2 q3 q4 q5
    rw [show Box6 u3 q0 q1 q2 q3 q4 q5 = X13 from hX13.symm] at gx gb gs
    have HQ22 : Hid (L6 X13 u3.heap.size 0 q0 q1 q2 q3 q4 q5) := gx
    have hs12 : u2.heap.size < u3.heap.size := Nat.lt_of_lt_of_le HSZ21.out.2 HBN.size
    have HSZ22 : Hid (u2.heap.size < X13.heap.size ∧ u3.heap.size < X13.heap.size ∧ w.heap.size < X13.heap.size) := ⟨by omega, by omega, by have := Nat.lt_of_lt_of_le HSZ21.out.1 HBN.size; omega⟩
    have HBN : Below X12.heap.size X12 X13 := HBN.trans (gb.mono HBN.size)
    have HT22 := Lib.hid (HT21.out.keepB (HBN.block u2.heap.size HSZ21.out.2))
    have HF22 := Lib.hid (HF21.out.below HBN HF21.out.lt)
    have HW22 := Lib.hid (HW21.out.trans (HBN.mono (Nat.le_of_lt HSZ21.out.1)))
    have HLQ := Lib.hid lq
    have HEQ := Lib.hid eq
    have HX13 := Lib.hid hX13
    clear HBN gx gb gs hX13 lq eq hs12 HBB21 HF21 HW21 HSZ21 HT21 d0 d1 d2 d3 d4 d5 CC
    go_upto_region 13 with (fail)
    rw [← HX13.out]
    clear HX13
    by_cases htc : n6 t0 t1 t2 t3 t4 t5 = n6 q0 q1 q2 q3 q4 q5
    · obtain ⟨rfl, rfl, rfl, rfl, rfl, rfl⟩ := n6_parts HLT.out HLQ.out htc
      obtain ⟨e0, e1, e2, e3, e4, e5⟩ := HT22.out
      obtain ⟨f0, f1, f2, f3, f4, f5⟩ := HQ22.out
      simp only [Nat.zero_add] at e1 e2 e3 e4 e5 f1 f2 f3 f4 f5
      have q1 : ∀ w, (Op.equalIn 10000 24 (.agg #[.int .u64 (t0 : Nat), .int .u64 (t1 : Nat), .int .u64 (t2 : Nat), .int .u64 (t3 : Nat), .int .u64 (t4 : Nat), .int .u64 (t5 : Nat)]) (.agg #[.int .u64 (t0 : Nat), .int .u64 (t1 : Nat), .int .u64 (t2 : Nat), .int .u64 (t3 : Nat), .int .u64 (t4 : Nat), .int .u64 (t5 : Nat)])).run Tryd.prog w = .ok true w := eqIn6_same t0 t1 t2 t3 t4 t5
      clear htc
      go_quiet (fail)
      go_simp
      go_wp2_with fail
      go_ret
      exact ⟨rfl, ⟨HW22.out.os, HW22.out.tape, HW22.out.output, HW22.out.size, HW22.out.block⟩⟩
    · have hneg : (prm k - n6 q0 q1 q2 q3 q4 q5 % prm k) % prm k = n6 t0 t1 t2 t3 t4 t5 := by
        have hP1 := HK.out.pos
        have h1 := HTT.out.1
        have h2 := root_two HPR.out.1 HTT.out.2
        rw [Nat.mod_eq_of_lt h1, ← HEQ.out] at h2
        have h3 := h2.resolve_left htc
        have hq : n6 q0 q1 q2 q3 q4 q5 < prm k := by rw [HEQ.out]; exact Nat.mod_lt _ (by omega)
        have h4 : (n6 t0 t1 t2 t3 t4 t5 + n6 q0 q1 q2 q3 q4 q5) % prm k = 0 := by rw [HEQ.out, Nat.add_mod_mod]; exact h3
        rw [Nat.mod_eq_of_lt hq]
        clear h2 h3
        generalize n6 t0 t1 t2 t3 t4 t5 = t at *
        generalize n6 q0 q1 q2 q3 q4 q5 = q at *
        have h5 : t + q = prm k ∨ t + q = 0 := by
          rcases Nat.lt_or_ge (t + q) (prm k) with h | h
          · rw [Nat.mod_eq_of_lt h] at h4
            exact .inr h4
          · left
            rw [Nat.mod_eq_sub_mod h, Nat.mod_eq_of_lt (by omega)] at h4
            omega
        rcases h5 with h5 | h5
        · have : prm k - q = t := by omega
          rw [this, Nat.mod_eq_of_lt h1]
        · exact absurd (show t = q by omega) htc
      have HD : Hid (decide (t0 = q0 ∧ t1 = q1 ∧ t2 = q2 ∧ t3 = q3 ∧ t4 = q4 ∧ t5 = q5) = false) := decide_eq_false (fun ⟨h0, h1, h2, h3, h4, h5⟩ => htc (by rw [h0, h1, h2, h3, h4, h5]))
      have HNG : Hid (∀ W, FldAt (prm k) (plim k) W F → Calls Tryd.prog 18 #[.pointer (some ⟨F, 0, none⟩), W6 q0 q1 q2 q3 q4 q5] W (RetR (fun _ v => v = W6 t0 t1 t2 t3 t4 t5) W)) := fun W hW =>
        (fNeg_c W HK.out hW HLQ.out).mono (by
          rintro e w' ⟨z0, z1, z2, z3, z4, z5, rfl, lz, ez, hb⟩
          obtain ⟨rfl, rfl, rfl, rfl, rfl, rfl⟩ := n6_parts lz HLT.out (ez.trans hneg)
          exact ⟨_, rfl, rfl, hb⟩)
      clear htc hneg
      refine wp_region_see 14 [98, 99, 100, 101, 102, 103, 104, 105, 106, 107, 108, 109, 110, 2] [(98, .is (.bool true)), (99, .is (.bool true)), (100, .is (W6 t0 t1 t2 t3 t4 t5)), (101, .is (W6 q0 q1 q2 q3 q4 q5)), (102, .is (.bool false)), (103, .is (.bool false)), (104, .is (W6 t0 t1 t2 t3 t4 t5)), (105, .is (.pointer (some ⟨F, 0, none⟩))), (106, .is (W6 q0 q1 q2 q3 q4 q5)), (107, .is (W6 t0 t1 t2 t3 t4 t5)), (108, .is (.bool true)), (109, .is (.bool true)), (110, .is (.bool true)), (2, .is (.bool true))] (by kernel_rfl) (by kernel_rfl) (by rfl) ?_ ?_
      · refine seeOps_cons ?_ (seeOps_cons ?_ (seeOps_cons ?_ (seeOps_cons ?_ (seeOps_cons ?_ (seeOps_cons ?_ (seeOps_cons ?_ (seeOps_cons ?_ (seeOps_cons ?_ (seeOps_cons ?_ (seeOps_cons ?_ (seeOps_cons ?_ (seeOps_cons ?_ (seeOps_cons ?_ seeOps_nil)))))))))))))
        · intro w9 hb9 fr hout hin
          have h12 : fr.tmps.getD 12 undef = .bool true := hout 12 (by decide)
          clear hout hin
          exact relStep_move (.tmp 12) rfl (wanted_none rfl) (by show fr.tmps.getD 12 undef = _; rw [h12])
        · intro w9 hb9 fr hout hin
          have h98 : fr.tmps.getD 98 undef = .bool true := hin 98 (by decide) (by decide)
          clear hout hin
          exact relStep_move (.tmp 98) rfl (wanted_none rfl) (by show fr.tmps.getD 98 undef = _; rw [h98])
        · intro w9 hb9 fr hout hin
          have h11 : fr.tmps.getD 11 undef = .pointer (some ⟨u2.heap.size, 0, none⟩) := hout 11 (by decide)
          have h99 : fr.tmps.getD 99 undef = .bool true := hin 99 (by decide) (by decide)
          clear hout hin
          exact op_load6 (.tmp 11) rfl h11 (HT22.out.keepB (hb9.block _ HSZ22.out.1)) (wanted_some (g := 1) (t := 99) (b := true) rfl rfl h99) rfl
        · intro w9 hb9 fr hout hin
          have h13 : fr.tmps.getD 13 undef = .pointer (some ⟨u3.heap.size, 0, none⟩) := hout 13 (by decide)
          have h99 : fr.tmps.getD 99 undef = .bool true := hin 99 (by decide) (by decide)
          clear hout hin
          exact op_load6 (.tmp 13) rfl h13 (HQ22.out.keepB (hb9.block _ HSZ22.out.2.1)) (wanted_some (g := 1) (t := 99) (b := true) rfl rfl h99) rfl
        · intro w9 hb9 fr hout hin
          have h100 : fr.tmps.getD 100 undef = W6 t0 t1 t2 t3 t4 t5 := hin 100 (by decide) (by decide)
          have h101 : fr.tmps.getD 101 undef = W6 q0 q1 q2 q3 q4 q5 := hin 101 (by decide) (by decide)
          have h99 : fr.tmps.getD 99 undef = .bool true := hin 99 (by decide) (by decide)
          clear hout hin
          exact op_eqN6D (.tmp 100) (.tmp 101) _ HD.out rfl h100 h101 (wanted_some (g := 1) (t := 99) (b := true) rfl rfl h99) rfl
        · intro w9 hb9 fr hout hin
          have h102 : fr.tmps.getD 102 undef = .bool false := hin 102 (by decide) (by decide)
          have h99 : fr.tmps.getD 99 undef = .bool true := hin 99 (by decide) (by decide)
          clear hout hin
          exact relStep_move (.tmp 102) rfl (wanted_some (g := 1) (t := 99) (b := true) rfl rfl h99) (by show fr.tmps.getD 102 undef = _; rw [h102])
        · intro w9 hb9 fr hout hin
          have h11 : fr.tmps.getD 11 undef = .pointer (some ⟨u2.heap.size, 0, none⟩) := hout 11 (by decide)
          have h103 : fr.tmps.getD 103 undef = .bool false := hin 103 (by decide) (by decide)
          clear hout hin
          exact op_load6 (.tmp 11) rfl h11 (HT22.out.keepB (hb9.block _ HSZ22.out.1)) (wanted_some (g := 5) (t := 103) (b := false) rfl rfl h103) rfl
        · intro w9 hb9 fr hout hin
          have h3 : fr.tmps.getD 3 undef = .pointer (some ⟨F, 0, none⟩) := hout 3 (by decide)
          have h103 : fr.tmps.getD 103 undef = .bool false := hin 103 (by decide) (by decide)
          clear hout hin
          exact relStep_move (.tmp 3) rfl (wanted_some (g := 5) (t := 103) (b := false) rfl rfl h103) (by show fr.tmps.getD 3 undef = _; rw [h3])
        · intro w9 hb9 fr hout hin
          have h13 : fr.tmps.getD 13 undef = .pointer (some ⟨u3.heap.size, 0, none⟩) := hout 13 (by decide)
          have h103 : fr.tmps.getD 103 undef = .bool false := hin 103 (by decide) (by decide)
          clear hout hin
          exact op_load6 (.tmp 13) rfl h13 (HQ22.out.keepB (hb9.block _ HSZ22.out.2.1)) (wanted_some (g := 5) (t := 103) (b := false) rfl rfl h103) rfl
        · intro w9 hb9 fr hout hin
          have h105 : fr.tmps.getD 105 undef = .pointer (some ⟨F, 0, none⟩) := hin 105 (by decide) (by decide)
          have h106 : fr.tmps.getD 106 undef = W6 q0 q1 q2 q3 q4 q5 := hin 106 (by decide) (by decide)
          have h103 : fr.tmps.getD 103 undef = .bool false := hin 103 (by decide) (by decide)
          clear hout hin
          exact op_callB (.tmp 105) (.tmp 106) rfl en_fNeg (wanted_some (g := 5) (t := 103) (b := false) rfl rfl h103) (by rw [show fr.eval (.tmp 105) = _ from h105, show fr.eval (.tmp 106) = _ from h106]; exact HNG.out w9 (HF22.out.below hb9 HF22.out.lt)) (fun _ _ h => h)
        · intro w9 hb9 fr hout hin
          have h104 : fr.tmps.getD 104 undef = W6 t0 t1 t2 t3 t4 t5 := hin 104 (by decide) (by decide)
          have h107 : fr.tmps.getD 107 undef = W6 t0 t1 t2 t3 t4 t5 := hin 107 (by decide) (by decide)
          have h103 : fr.tmps.getD 103 undef = .bool false := hin 103 (by decide) (by decide)
          clear hout hin
          exact op_eqN6 (.tmp 104) (.tmp 107) _ rfl h104 h107 (wanted_some (g := 5) (t := 103) (b := false) rfl rfl h103) rfl
        · intro w9 hb9 fr hout hin
          have h103 : fr.tmps.getD 103 undef = .bool false := hin 103 (by decide) (by decide)
          have h108 : fr.tmps.getD 108 undef = .bool true := hin 108 (by decide) (by decide)
          have h99 : fr.tmps.getD 99 undef = .bool true := hin 99 (by decide) (by decide)
          clear hout hin
          exact relStep_pickF (.tmp 103) (.const (.bool true)) (.tmp 108) rfl h103 (wanted_some (g := 1) (t := 99) (b := true) rfl rfl h99) (by show fr.tmps.getD 108 undef = _; rw [h108])
        · intro w9 hb9 fr hout hin
          have h99 : fr.tmps.getD 99 undef = .bool true := hin 99 (by decide) (by decide)
          have h109 : fr.tmps.getD 109 undef = .bool true := hin 109 (by decide) (by decide)
          clear hout hin
          exact relStep_pick (.tmp 99) (.tmp 109) (.const (.bool false)) rfl h99 (wanted_none rfl) (by show fr.tmps.getD 109 undef = _; rw [h109])
        · intro w9 hb9 fr hout hin
          have h110 : fr.tmps.getD 110 undef = .bool true := hin 110 (by decide) (by decide)
          clear hout hin
          exact relStep_assign (.tmp 110) rfl (wanted_none rfl) (by show fr.tmps.getD 110 undef = _; rw [h110])
      intro wf hbn
      refine relAsk_in (by rfl) ?_
      intro v98 h98
      obtain rfl : v98 = .bool true := h98
      refine relAsk_in (by rfl) ?_
      intro v99 h99
      obtain rfl : v99 = .bool true := h99
      refine relAsk_in (by rfl) ?_
      intro v100 h100
      obtain rfl : v100 = W6 t0 t1 t2 t3 t4 t5 := h100
      refine relAsk_in (by rfl) ?_
      intro v101 h101
      obtain rfl : v101 = W6 q0 q1 q2 q3 q4 q5 := h101
      refine relAsk_in (by rfl) ?_
      intro v102 h102
      obtain rfl : v102 = .bool false := h102
      refine relAsk_in (by rfl) ?_
      intro v103 h103
      obtain rfl : v103 = .bool false := h103
      refine relAsk_in (by rfl) ?_
      intro v104 h104
      obtain rfl : v104 = W6 t0 t1 t2 t3 t4 t5 := h104
      refine relAsk_in (by rfl) ?_
      intro v105 h105
      obtain rfl : v105 = .pointer (some ⟨F, 0, none⟩) := h105
      refine relAsk_in (by rfl) ?_
      intro v106 h106
      obtain rfl : v106 = W6 q0 q1 q2 q3 q4 q5 := h106
      refine relAsk_in (by rfl) ?_
      intro v107 h107
      obtain rfl : v107 = W6 t0 t1 t2 t3 t4 t5 := h107
      refine relAsk_in (by rfl) ?_
      intro v108 h108
      obtain rfl : v108 = .bool true := h108
      refine relAsk_in (by rfl) ?_
      intro v109 h109
      obtain rfl : v109 = .bool true := h109
      refine relAsk_in (by rfl) ?_
      intro v110 h110
      obtain rfl : v110 = .bool true := h110
      refine relAsk_in (by rfl) ?_
      intro v2 h2
      obtain rfl : v2 = .bool true := h2
      refine relAsk_nil ?_
      refine wpList_nil ?_
      have HBF := Lib.hid (HW22.out.trans (hbn.mono (Nat.le_of_lt HSZ22.out.2.2)))
      clear hbn
      go_simp
      go_wp2_with fail
      go_ret
      exact ⟨rfl, HBF.out⟩
  · have HSS := Lib.hid (And.intro hs2 hss)
    have hPO := HPR.out.2
    have hP1 := HK.out.pos
    have HO1 : Hid (ordI (n6 s0 s1 s2 s3 s4 s5) (prm k) = -1) := if_pos (by omega)
    have HO2 : Hid (ordI (n6 s0 s1 s2 s3 s4 s5 * n6 s0 s1 s2 s3 s4 s5 % prm k) (n6 a0 a1 a2 a3 a4 a5 % prm k) = 0) := by
      show _ = _
      rw [hss]
      unfold ordI
      rw [if_neg (by omega), if_neg (by omega)]
    obtain ⟨o, ho⟩ : ∃ o, o = ordI (if n6 s0 s1 s2 s3 s4 s5 = 0 then 0 else prm k - n6 s0 s1 s2 s3 s4 s5) (n6 s0 s1 s2 s3 s4 s5) := ⟨_, rfl⟩
    have ho0 : ¬ o < 0 := by
      rw [ho]
      by_cases h : n6 s0 s1 s2 s3 s4 s5 = 0
      · rw [if_pos h, h]; decide
      · rw [if_neg h]
        unfold ordI
        rw [if_neg (by omega)]
        split <;> omega
    have hsP : n6 s0 s1 s2 s3 s4 s5 ≤ prm k := by omega
    have HO3 := Lib.hid ho
    have HSP := Lib.hid hsP
    clear hs2 hss hPO hP1 ho hsP HCA
    have CC := Lib.hid (rN_c w6 HLS.out)
    go_wp2_with fail
    (with_reducible refine (CC.out).mono ?_)
    rintro e w7 ⟨v10, rfl, hv10, HBN⟩
    have HBB7 := Lib.hid (HBB6.out.keepB (HBN.block w.heap.size HSZ6.out.2))
    have HR7 : Hid (w7.cell? ⟨w1.heap.size, 0, none⟩ = some (.slice A1 n1 c1) ∧ w7.cell? ⟨w1.heap.size, 1, none⟩ = some (.int .i64 (S : Nat))) := ⟨(HBN.cell (p := ⟨w1.heap.size, 0, none⟩) HSZ6.out.1).trans HR6.out.1, (HBN.cell (p := ⟨w1.heap.size, 1, none⟩) HSZ6.out.1).trans HR6.out.2⟩
    have HN7 := Lib.hid (HN6.out.below HBN)
    have HF7 := Lib.hid (HF6.out.below HBN HF6.out.lt)
    have HW7 := Lib.hid (HW6.out.trans (HBN.mono (Nat.le_of_lt HSZ6.out.2)))
    have HSZ7 : Hid (w1.heap.size < w7.heap.size ∧ w.heap.size < w7.heap.size) := ⟨Nat.lt_of_lt_of_le HSZ6.out.1 HBN.size, Nat.lt_of_lt_of_le HSZ6.out.2 HBN.size⟩
    have HV7 := Lib.hid (HV6.out.below HBN)
    clear HBB6 HR6 HN6 HF6 HW6 HSZ6 HV6 HBN
    have HT7 : Hid (Num w7 v10 (n6 s0 s1 s2 s3 s4 s5) 12) := hv10
    obtain ⟨g0, g1⟩ := HR7.out
    have CC := Lib.hid ((rcmp_n w7 HT7.out HN7.out (by omega)).mono fun e w' hk => (⟨_, hk.below.1, by rw [HO1.out], hk.below.2⟩ : RetR (fun _ v => v = .int .i64 (-1)) w7 e w'))
    clear hv10 HS6 e0 e1 e2 e3 e4 e5
    go_wp2_with fail
    (with_reducible refine (CC.out).mono ?_)
    rintro e w8 ⟨v58, rfl, rfl, HBN⟩
    have HBB8 := Lib.hid (HBB7.out.keepB (HBN.block w.heap.size HSZ7.out.2))
    have HR8 : Hid (w8.cell? ⟨w1.heap.size, 0, none⟩ = some (.slice A1 n1 c1) ∧ w8.cell? ⟨w1.heap.size, 1, none⟩ = some (.int .i64 (S : Nat))) := ⟨(HBN.cell (p := ⟨w1.heap.size, 0, none⟩) HSZ7.out.1).trans HR7.out.1, (HBN.cell (p := ⟨w1.heap.size, 1, none⟩) HSZ7.out.1).trans HR7.out.2⟩
    have HN8 := Lib.hid (HN7.out.below HBN)
    have HF8 := Lib.hid (HF7.out.below HBN HF7.out.lt)
    have HW8 := Lib.hid (HW7.out.trans (HBN.mono (Nat.le_of_lt HSZ7.out.2)))
    have HSZ8 : Hid (w1.heap.size < w8.heap.size ∧ w.heap.size < w8.heap.size) := ⟨Nat.lt_of_lt_of_le HSZ7.out.1 HBN.size, Nat.lt_of_lt_of_le HSZ7.out.2 HBN.size⟩
    have HV8 := Lib.hid (HV7.out.below HBN)
    have HT8 := Lib.hid (HT7.out.below HBN)
    clear HBB7 HR7 HN7 HF7 HW7 HSZ7 HV7 HT7 HBN
    clear g0 g1 CC
    obtain ⟨g0, g1⟩ := HR8.out
    have CC := Lib.hid (rFMul_c w8 (S : Nat) HT8.out HT8.out HN8.out (by omega) (by omega) (by omega) (by have := HK.out.pos; omega))
    go_wp2_with fail
    (with_reducible refine (CC.out).mono ?_)
    rintro e w9 ⟨v64, rfl, hv64, HBN⟩
    have HBB9 := Lib.hid (HBB8.out.keepB (HBN.block w.heap.size HSZ8.out.2))
    have HR9 : Hid (w9.cell? ⟨w1.heap.size, 0, none⟩ = some (.slice A1 n1 c1) ∧ w9.cell? ⟨w1.heap.size, 1, none⟩ = some (.int .i64 (S : Nat))) := ⟨(HBN.cell (p := ⟨w1.heap.size, 0, none⟩) HSZ8.out.1).trans HR8.out.1, (HBN.cell (p := ⟨w1.heap.size, 1, none⟩) HSZ8.out.1).trans HR8.out.2⟩
    have HN9 := Lib.hid (HN8.out.below HBN)
    have HF9 := Lib.hid (HF8.out.below HBN HF8.out.lt)
    have HW9 := Lib.hid (HW8.out.trans (HBN.mono (Nat.le_of_lt HSZ8.out.2)))
    have HSZ9 : Hid (w1.heap.size < w9.heap.size ∧ w.heap.size < w9.heap.size) := ⟨Nat.lt_of_lt_of_le HSZ8.out.1 HBN.size, Nat.lt_of_lt_of_le HSZ8.out.2 HBN.size⟩
    have HV9 := Lib.hid (HV8.out.below HBN)
    have HT9 := Lib.hid (HT8.out.below HBN)
    clear HBB8 HR8 HN8 HF8 HW8 HSZ8 HV8 HT8 HBN
    clear g0 g1 CC
    have CC := Lib.hid ((rcmp_n w9 hv64 HV9.out (by omega)).mono fun e w' hk => (⟨_, hk.below.1, by rw [HO2.out], hk.below.2⟩ : RetR (fun _ v => v = .int .i64 0) w9 e w'))
    clear hv64
    go_wp2_with fail
    (with_reducible refine (CC.out).mono ?_)
    rintro e w10 ⟨v66, rfl, rfl, HBN⟩
    have HBB10 := Lib.hid (HBB9.out.keepB (HBN.block w.heap.size HSZ9.out.2))
    have HR10 : Hid (w10.cell? ⟨w1.heap.size, 0, none⟩ = some (.slice A1 n1 c1) ∧ w10.cell? ⟨w1.heap.size, 1, none⟩ = some (.int .i64 (S : Nat))) := ⟨(HBN.cell (p := ⟨w1.heap.size, 0, none⟩) HSZ9.out.1).trans HR9.out.1, (HBN.cell (p := ⟨w1.heap.size, 1, none⟩) HSZ9.out.1).trans HR9.out.2⟩
    have HN10 := Lib.hid (HN9.out.below HBN)
    have HF10 := Lib.hid (HF9.out.below HBN HF9.out.lt)
    have HW10 := Lib.hid (HW9.out.trans (HBN.mono (Nat.le_of_lt HSZ9.out.2)))
    have HSZ10 : Hid (w1.heap.size < w10.heap.size ∧ w.heap.size < w10.heap.size) := ⟨Nat.lt_of_lt_of_le HSZ9.out.1 HBN.size, Nat.lt_of_lt_of_le HSZ9.out.2 HBN.size⟩
    have HV10 := Lib.hid (HV9.out.below HBN)
    have HT10 := Lib.hid (HT9.out.below HBN)
    clear HBB9 HR9 HN9 HF9 HW9 HSZ9 HV9 HT9 HBN
    clear CC
    obtain ⟨g0, g1⟩ := HR10.out
    have CC := Lib.hid (rFNeg_c w10 (S : Nat) HT10.out HN10.out (Nat.le_refl 12) (by omega) HSP.out)
    go_wp2_with fail
    (with_reducible refine (CC.out).mono ?_)
    rintro e w11 ⟨v72, rfl, hv72, HBN⟩
    have HBB11 := Lib.hid (HBB10.out.keepB (HBN.block w.heap.size HSZ10.out.2))
    have HR11 : Hid (w11.cell? ⟨w1.heap.size, 0, none⟩ = some (.slice A1 n1 c1) ∧ w11.cell? ⟨w1.heap.size, 1, none⟩ = some (.int .i64 (S : Nat))) := ⟨(HBN.cell (p := ⟨w1.heap.size, 0, none⟩) HSZ10.out.1).trans HR10.out.1, (HBN.cell (p := ⟨w1.heap.size, 1, none⟩) HSZ10.out.1).trans HR10.out.2⟩
    have HN11 := Lib.hid (HN10.out.below HBN)
    have HF11 := Lib.hid (HF10.out.below HBN HF10.out.lt)
    have HW11 := Lib.hid (HW10.out.trans (HBN.mono (Nat.le_of_lt HSZ10.out.2)))
    have HSZ11 : Hid (w1.heap.size < w11.heap.size ∧ w.heap.size < w11.heap.size) := ⟨Nat.lt_of_lt_of_le HSZ10.out.1 HBN.size, Nat.lt_of_lt_of_le HSZ10.out.2 HBN.size⟩
    have HV11 := Lib.hid (HV10.out.below HBN)
    have HT11 := Lib.hid (HT10.out.below HBN)
    clear HBB10 HR10 HN10 HF10 HW10 HSZ10 HV10 HT10 HBN
    clear g0 g1 CC
    have CC := Lib.hid ((rcmp_n w11 hv72 HT11.out (by omega)).mono fun e w' hk => (⟨_, hk.below.1, by rw [HO3.out], hk.below.2⟩ : RetR (fun _ v => v = .int .i64 o) w11 e w'))
    clear hv72
    go_wp2_with fail
    (with_reducible refine (CC.out).mono ?_)
    rintro e w12 ⟨v74, rfl, rfl, HBN⟩
    have HBB12 := Lib.hid (HBB11.out.keepB (HBN.block w.heap.size HSZ11.out.2))
    have HR12 : Hid (w12.cell? ⟨w1.heap.size, 0, none⟩ = some (.slice A1 n1 c1) ∧ w12.cell? ⟨w1.heap.size, 1, none⟩ = some (.int .i64 (S : Nat))) := ⟨(HBN.cell (p := ⟨w1.heap.size, 0, none⟩) HSZ11.out.1).trans HR11.out.1, (HBN.cell (p := ⟨w1.heap.size, 1, none⟩) HSZ11.out.1).trans HR11.out.2⟩
    have HN12 := Lib.hid (HN11.out.below HBN)
    have HF12 := Lib.hid (HF11.out.below HBN HF11.out.lt)
    have HW12 := Lib.hid (HW11.out.trans (HBN.mono (Nat.le_of_lt HSZ11.out.2)))
    have HSZ12 : Hid (w1.heap.size < w12.heap.size ∧ w.heap.size < w12.heap.size) := ⟨Nat.lt_of_lt_of_le HSZ11.out.1 HBN.size, Nat.lt_of_lt_of_le HSZ11.out.2 HBN.size⟩
    have HV12 := Lib.hid (HV11.out.below HBN)
    have HT12 := Lib.hid (HT11.out.below HBN)
    clear HBB11 HR11 HN11 HF11 HW11 HSZ11 HV11 HT11 HBN
    clear CC HV12 HT12
    obtain ⟨d0, d1, d2, d3, d4, d5⟩ := HBB12.out
    simp only [Nat.reduceAdd] at d0 d1 d2 d3 d4 d5
    have CC := Lib.hid (fMul_c w12 HK.out HF12.out HLB.out HLB.out)
    clear HR12 HN12
    go_wp2_with fail
    (with_reducible refine (CC.out).mono ?_)
    rintro e u1 ⟨m0, m1, m2, m3, m4, m5, rfl, lm, em, HBN⟩
    have HBB20 := Lib.hid (HBB12.out.keepB (HBN.block w.heap.size HSZ12.out.2))
    have hF20 := HF12.out.below HBN HF12.out.lt
    have hW20 := HW12.out.trans (HBN.mono (Nat.le_of_lt HSZ12.out.2))
    have HF20 := Lib.hid hF20
    have HW20 := Lib.hid hW20
    have HSZ20 : Hid (w.heap.size < u1.heap.size) := Nat.lt_of_lt_of_le HSZ12.out.2 HBN.size
    have HEM := Lib.hid em
    have CC := Lib.hid (CQ.out u1 F m0 m1 m2 m3 m4 m5 hW20 hF20 lm)
    clear HBN hF20 hW20 em lm HBB12 HF12 HW12 HSZ12 d0 d1 d2 d3 d4 d5
    go_wp2_with fail
    (with_reducible refine (CC.out).mono ?_)
    rintro e u2 ⟨t0, t1, t2, t3, t4, t5, two, rfl, lt, hc2, HBN⟩
    obtain ⟨X12, hX12⟩ : ∃ Z, Z = u2.alloc (.cells #[.int .u64 (t0 : Nat), .int .u64 (t1 : Nat), .int .u64 (t2 : Nat), .int .u64 (t3 : Nat), .int .u64 (t4 : Nat), .int .u64 (t5 : Nat)] 24) := ⟨_, rfl⟩
    obtain ⟨gx, -, gb, gs⟩ := box6 u2 t0 t1 t2 t3 t4 t5
    rw [show Box6 u2 t0 t1 t2 t3 t4 t5 = X12 from hX12.symm] at gx gb gs
    have HBN : Below u1.heap.size u1 X12 := HBN.trans (gb.mono HBN.size)
    have hP1 := HK.out.pos
    have hpr := HPR.out
    have hcc : two = true ∧ n6 t0 t1 t2 t3 t4 t5 < prm k ∧ n6 t0 t1 t2 t3 t4 t5 * n6 t0 t1 t2 t3 t4 t5 % prm k = n6 b0 b1 b2 b3 b4 b5 * n6 b0 b1 b2 b3 b4 b5 % prm k := by
      have e2 : (n6 b0 b1 b2 b3 b4 b5 * n6 b0 b1 b2 b3 b4 b5) % prm k = n6 m0 m1 m2 m3 m4 m5 % prm k := by rw [HEM.out, Nat.mod_mod]
      have hsq := is_sq hpr.1 hpr.2 e2
      rcases hc2 with ⟨-, -, -, -, -, -, -, h⟩ | ⟨h, -, h2, h3⟩
      · exact absurd hsq h
      · exact ⟨h, by omega, by rw [h3, ← e2]⟩
    obtain ⟨rfl, htl, htt⟩ := hcc
    have HTT := Lib.hid (And.intro htl htt)
    have HLT := Lib.hid lt
    have HBB21 := Lib.hid (HBB20.out.keepB (HBN.block w.heap.size HSZ20.out))
    have HF21 := Lib.hid (HF20.out.below HBN HF20.out.lt)
    have HW21 := Lib.hid (HW20.out.trans (HBN.mono (Nat.le_of_lt HSZ20.out)))
    have HT21 : Hid (L6 X12 u2.heap.size 0 t0 t1 t2 t3 t4 t5) := gx
    have HSZ21 : Hid (w.heap.size < X12.heap.size ∧ u2.heap.size < X12.heap.size) := ⟨Nat.lt_of_lt_of_le HSZ20.out HBN.size, by omega⟩
    obtain ⟨d0, d1, d2, d3, d4, d5⟩ := HBB21.out
    simp only [Nat.reduceAdd] at d0 d1 d2 d3 d4 d5
    have HX12 := Lib.hid hX12
    have CC := Lib.hid (fReduce_c X12 HK.out HF21.out HLB.out)
    clear HBN gx gb gs hX12 hP1 hpr htl htt lt hc2 HBB20 HF20 HW20 HSZ20 HEM
    go_upto_region 12 with (fail)
    rw [← HX12.out]
    clear HX12
    go_wp2_with fail
    (with_reducible refine (CC.out).mono ?_)
    rintro e u3 ⟨q0, q1, q2, q3, q4, q5, rfl, lq, eq, HBN⟩
    obtain ⟨X13, hX13⟩ : ∃ Z, Z = u3.alloc (.cells #[.int .u64 (q0 : Nat), .int .u64 (q1 : Nat), .int .u64 (q2 : Nat), .int .u64 (q3 : Nat), .int .u64 (q4 : Nat), .int .u64 (q5 : Nat)] 24) := ⟨_, rfl⟩
    obtain ⟨gx, -, gb, gs⟩ := box6 u3 q0 q1 q2 q3 q4 q5
    rw [show Box6 u3 q0 q1 q2 q3 q4 q5 = X13 from hX13.symm] at gx gb gs
    have HQ22 : Hid (L6 X13 u3.heap.size 0 q0 q1 q2 q3 q4 q5) := gx
    have hs12 : u2.heap.size < u3.heap.size := Nat.lt_of_lt_of_le HSZ21.out.2 HBN.size
    have HSZ22 : Hid (u2.heap.size < X13.heap.size ∧ u3.heap.size < X13.heap.size ∧ w.heap.size < X13.heap.size) := ⟨by omega, by omega, by have := Nat.lt_of_lt_of_le HSZ21.out.1 HBN.size; omega⟩
    have HBN : Below X12.heap.size X12 X13 := HBN.trans (gb.mono HBN.size)
    have HT22 := Lib.hid (HT21.out.keepB (HBN.block u2.heap.size HSZ21.out.2))
    have HF22 := Lib.hid (HF21.out.below HBN HF21.out.lt)
    have HW22 := Lib.hid (HW21.out.trans (HBN.mono (Nat.le_of_lt HSZ21.out.1)))
    have HLQ := Lib.hid lq
    have HEQ := Lib.hid eq
    have HX13 := Lib.hid hX13
    clear HBN gx gb gs hX13 lq eq hs12 HBB21 HF21 HW21 HSZ21 HT21 d0 d1 d2 d3 d4 d5 CC
    go_upto_region 13 with (fail)
    rw [← HX13.out]
    clear HX13
    by_cases htc : n6 t0 t1 t2 t3 t4 t5 = n6 q0 q1 q2 q3 q4 q5
    · obtain ⟨rfl, rfl, rfl, rfl, rfl, rfl⟩ := n6_parts HLT.out HLQ.out htc
      obtain ⟨e0, e1, e2, e3, e4, e5⟩ := HT22.out
      obtain ⟨f0, f1, f2, f3, f4, f5⟩ := HQ22.out
      simp only [Nat.zero_add] at e1 e2 e3 e4 e5 f1 f2 f3 f4 f5
      have q1 : ∀ w, (Op.equalIn 10000 24 (.agg #[.int .u64 (t0 : Nat), .int .u64 (t1 : Nat), .int .u64 (t2 : Nat), .int .u64 (t3 : Nat), .int .u64 (t4 : Nat), .int .u64 (t5 : Nat)]) (.agg #[.int .u64 (t0 : Nat), .int .u64 (t1 : Nat), .int .u64 (t2 : Nat), .int .u64 (t3 : Nat), .int .u64 (t4 : Nat), .int .u64 (t5 : Nat)])).run Tryd.prog w = .ok true w := eqIn6_same t0 t1 t2 t3 t4 t5
      clear htc
      go_quiet (fail)
      go_simp
      go_wp2_with fail
      go_ret
      exact ⟨rfl, ⟨HW22.out.os, HW22.out.tape, HW22.out.output, HW22.out.size, HW22.out.block⟩⟩
    · have hneg : (prm k - n6 q0 q1 q2 q3 q4 q5 % prm k) % prm k = n6 t0 t1 t2 t3 t4 t5 := by
        have hP1 := HK.out.pos
        have h1 := HTT.out.1
        have h2 := root_two HPR.out.1 HTT.out.2
        rw [Nat.mod_eq_of_lt h1, ← HEQ.out] at h2
        have h3 := h2.resolve_left htc
        have hq : n6 q0 q1 q2 q3 q4 q5 < prm k := by rw [HEQ.out]; exact Nat.mod_lt _ (by omega)
        have h4 : (n6 t0 t1 t2 t3 t4 t5 + n6 q0 q1 q2 q3 q4 q5) % prm k = 0 := by rw [HEQ.out, Nat.add_mod_mod]; exact h3
        rw [Nat.mod_eq_of_lt hq]
        clear h2 h3
        generalize n6 t0 t1 t2 t3 t4 t5 = t at *
        generalize n6 q0 q1 q2 q3 q4 q5 = q at *
        have h5 : t + q = prm k ∨ t + q = 0 := by
          rcases Nat.lt_or_ge (t + q) (prm k) with h | h
          · rw [Nat.mod_eq_of_lt h] at h4
            exact .inr h4
          · left
            rw [Nat.mod_eq_sub_mod h, Nat.mod_eq_of_lt (by omega)] at h4
            omega
        rcases h5 with h5 | h5
        · have : prm k - q = t := by omega
          rw [this, Nat.mod_eq_of_lt h1]
        · exact absurd (show t = q by omega) htc
      have HD : Hid (decide (t0 = q0 ∧ t1 = q1 ∧ t2 = q2 ∧ t3 = q3 ∧ t4 = q4 ∧ t5 = q5) = false) := decide_eq_false (fun ⟨h0, h1, h2, h3, h4, h5⟩ => htc (by rw [h0, h1, h2, h3, h4, h5]))
      have HNG : Hid (∀ W, FldAt (prm k) (plim k) W F → Calls Tryd.prog 18 #[.pointer (some ⟨F, 0, none⟩), W6 q0 q1 q2 q3 q4 q5] W (RetR (fun _ v => v = W6 t0 t1 t2 t3 t4 t5) W)) := fun W hW =>
        (fNeg_c W HK.out hW HLQ.out).mono (by
          rintro e w' ⟨z0, z1, z2, z3, z4, z5, rfl, lz, ez, hb⟩
          obtain ⟨rfl, rfl, rfl, rfl, rfl, rfl⟩ := n6_parts lz HLT.out (ez.trans hneg)
          exact ⟨_, rfl, rfl, hb⟩)
      clear htc hneg
      refine wp_region_see 14 [98, 99, 100, 101, 102, 103, 104, 105, 106, 107, 108, 109, 110, 2] [(98, .is (.bool true)), (99, .is (.bool true)), (100, .is (W6 t0 t1 t2 t3 t4 t5)), (101, .is (W6 q0 q1 q2 q3 q4 q5)), (102, .is (.bool false)), (103, .is (.bool false)), (104, .is (W6 t0 t1 t2 t3 t4 t5)), (105, .is (.pointer (some ⟨F, 0, none⟩))), (106, .is (W6 q0 q1 q2 q3 q4 q5)), (107, .is (W6 t0 t1 t2 t3 t4 t5)), (108, .is (.bool true)), (109, .is (.bool true)), (110, .is (.bool true)), (2, .is (.bool true))] (by kernel_rfl) (by kernel_rfl) (by rfl) ?_ ?_
      · refine seeOps_cons ?_ (seeOps_cons ?_ (seeOps_cons ?_ (seeOps_cons ?_ (seeOps_cons ?_ (seeOps_cons ?_ (seeOps_cons ?_ (seeOps_cons ?_ (seeOps_cons ?_ (seeOps_cons ?_ (seeOps_cons ?_ (seeOps_cons ?_ (seeOps_cons ?_ (seeOps_cons ?_ seeOps_nil)))))))))))))
        · intro w9 hb9 fr hout hin
          have h12 : fr.tmps.getD 12 undef = .bool true := hout 12 (by decide)
          clear hout hin
          exact relStep_move (.tmp 12) rfl (wanted_none rfl) (by show fr.tmps.getD 12 undef = _; rw [h12])
        · intro w9 hb9 fr hout hin
          have h98 : fr.tmps.getD 98 undef = .bool true := hin 98 (by decide) (by decide)
          clear hout hin
          exact relStep_move (.tmp 98) rfl (wanted_none rfl) (by show fr.tmps.getD 98 undef = _; rw [h98])
        · intro w9 hb9 fr hout hin
          have h11 : fr.tmps.getD 11 undef = .pointer (some ⟨u2.heap.size, 0, none⟩) := hout 11 (by decide)
          have h99 : fr.tmps.getD 99 undef = .bool true := hin 99 (by decide) (by decide)
          clear hout hin
          exact op_load6 (.tmp 11) rfl h11 (HT22.out.keepB (hb9.block _ HSZ22.out.1)) (wanted_some (g := 1) (t := 99) (b := true) rfl rfl h99) rfl
        · intro w9 hb9 fr hout hin
          have h13 : fr.tmps.getD 13 undef = .pointer (some ⟨u3.heap.size, 0, none⟩) := hout 13 (by decide)
          have h99 : fr.tmps.getD 99 undef = .bool true := hin 99 (by decide) (by decide)
          clear hout hin
          exact op_load6 (.tmp 13) rfl h13 (HQ22.out.keepB (hb9.block _ HSZ22.out.2.1)) (wanted_some (g := 1) (t := 99) (b := true) rfl rfl h99) rfl
        · intro w9 hb9 fr hout hin
          have h100 : fr.tmps.getD 100 undef = W6 t0 t1 t2 t3 t4 t5 := hin 100 (by decide) (by decide)
          have h101 : fr.tmps.getD 101 undef = W6 q0 q1 q2 q3 q4 q5 := hin 101 (by decide) (by decide)
          have h99 : fr.tmps.getD 99 undef = .bool true := hin 99 (by decide) (by decide)
          clear hout hin
          exact op_eqN6D (.tmp 100) (.tmp 101) _ HD.out rfl h100 h101 (wanted_some (g := 1) (t := 99) (b := true) rfl rfl h99) rfl
        · intro w9 hb9 fr hout hin
          have h102 : fr.tmps.getD 102 undef = .bool false := hin 102 (by decide) (by decide)
          have h99 : fr.tmps.getD 99 undef = .bool true := hin 99 (by decide) (by decide)
          clear hout hin
          exact relStep_move (.tmp 102) rfl (wanted_some (g := 1) (t := 99) (b := true) rfl rfl h99) (by show fr.tmps.getD 102 undef = _; rw [h102])
        · intro w9 hb9 fr hout hin
          have h11 : fr.tmps.getD 11 undef = .pointer (some ⟨u2.heap.size, 0, none⟩) := hout 11 (by decide)
          have h103 : fr.tmps.getD 103 undef = .bool false := hin 103 (by decide) (by decide)
          clear hout hin
          exact op_load6 (.tmp 11) rfl h11 (HT22.out.keepB (hb9.block _ HSZ22.out.1)) (wanted_some (g := 5) (t := 103) (b := false) rfl rfl h103) rfl
        · intro w9 hb9 fr hout hin
          have h3 : fr.tmps.getD 3 undef = .pointer (some ⟨F, 0, none⟩) := hout 3 (by decide)
          have h103 : fr.tmps.getD 103 undef = .bool false := hin 103 (by decide) (by decide)
          clear hout hin
          exact relStep_move (.tmp 3) rfl (wanted_some (g := 5) (t := 103) (b := false) rfl rfl h103) (by show fr.tmps.getD 3 undef = _; rw [h3])
        · intro w9 hb9 fr hout hin
          have h13 : fr.tmps.getD 13 undef = .pointer (some ⟨u3.heap.size, 0, none⟩) := hout 13 (by decide)
          have h103 : fr.tmps.getD 103 undef = .bool false := hin 103 (by decide) (by decide)
          clear hout hin
          exact op_load6 (.tmp 13) rfl h13 (HQ22.out.keepB (hb9.block _ HSZ22.out.2.1)) (wanted_some (g := 5) (t := 103) (b := false) rfl rfl h103) rfl
        · intro w9 hb9 fr hout hin
          have h105 : fr.tmps.getD 105 undef = .pointer (some ⟨F, 0, none⟩) := hin 105 (by decide) (by decide)
          have h106 : fr.tmps.getD 106 undef = W6 q0 q1 q2 q3 q4 q5 := hin 106 (by decide) (by decide)
          have h103 : fr.tmps.getD 103 undef = .bool false := hin 103 (by decide) (by decide)
          clear hout hin
          exact op_callB (.tmp 105) (.tmp 106) rfl en_fNeg (wanted_some (g := 5) (t := 103) (b := false) rfl rfl h103) (by rw [show fr.eval (.tmp 105) = _ from h105, show fr.eval (.tmp 106) = _ from h106]; exact HNG.out w9 (HF22.out.below hb9 HF22.out.lt)) (fun _ _ h => h)
        · intro w9 hb9 fr hout hin
          have h104 : fr.tmps.getD 104 undef = W6 t0 t1 t2 t3 t4 t5 := hin 104 (by decide) (by decide)
          have h107 : fr.tmps.getD 107 undef = W6 t0 t1 t2 t3 t4 t5 := hin 107 (by decide) (by decide)
          have h103 : fr.tmps.getD 103 undef = .bool false := hin 103 (by decide) (by decide)
          clear hout hin
          exact op_eqN6 (.tmp 104) (.tmp 107) _ rfl h104 h107 (wanted_some (g := 5) (t := 103) (b := false) rfl rfl h103) rfl
        · intro w9 hb9 fr hout hin
          have h103 : fr.tmps.getD 103 undef = .bool false := hin 103 (by decide) (by decide)
          have h108 : fr.tmps.getD 108 undef = .bool true := hin 108 (by decide) (by decide)
          have h99 : fr.tmps.getD 99 undef = .bool true := hin 99 (by decide) (by decide)
          clear hout hin
          exact relStep_pickF (.tmp 103) (.const (.bool true)) (.tmp 108) rfl h103 (wanted_some (g := 1) (t := 99) (b := true) rfl rfl h99) (by show fr.tmps.getD 108 undef = _; rw [h108])
        · intro w9 hb9 fr hout hin
          have h99 : fr.tmps.getD 99 undef = .bool true := hin 99 (by decide) (by decide)
          have h109 : fr.tmps.getD 109 undef = .bool true := hin 109 (by decide) (by decide)
          clear hout hin
          exact relStep_pick (.tmp 99) (.tmp 109) (.const (.bool false)) rfl h99 (wanted_none rfl) (by show fr.tmps.getD 109 undef = _; rw [h109])
        · intro w9 hb9 fr hout hin
          have h110 : fr.tmps.getD 110 undef = .bool true := hin 110 (by decide) (by decide)
          clear hout hin
          exact relStep_assign (.tmp 110) rfl (wanted_none rfl) (by show fr.tmps.getD 110 undef = _; rw [h110])
      intro wf hbn
      refine relAsk_in (by rfl) ?_
      intro v98 h98
      obtain rfl : v98 = .bool true := h98
      refine relAsk_in (by rfl) ?_
      intro v99 h99
      obtain rfl : v99 = .bool true := h99
      refine relAsk_in (by rfl) ?_
      intro v100 h100
      obtain rfl : v100 = W6 t0 t1 t2 t3 t4 t5 := h100
      refine relAsk_in (by rfl) ?_
      intro v101 h101
      obtain rfl : v101 = W6 q0 q1 q2 q3 q4 q5 := h101
      refine relAsk_in (by rfl) ?_
      intro v102 h102
      obtain rfl : v102 = .bool false := h102
      refine relAsk_in (by rfl) ?_
      intro v103 h103
      obtain rfl : v103 = .bool false := h103
      refine relAsk_in (by rfl) ?_
      intro v104 h104
      obtain rfl : v104 = W6 t0 t1 t2 t3 t4 t5 := h104
      refine relAsk_in (by rfl) ?_
      intro v105 h105
      obtain rfl : v105 = .pointer (some ⟨F, 0, none⟩) := h105
      refine relAsk_in (by rfl) ?_
      intro v106 h106
      obtain rfl : v106 = W6 q0 q1 q2 q3 q4 q5 := h106
      refine relAsk_in (by rfl) ?_
      intro v107 h107
      obtain rfl : v107 = W6 t0 t1 t2 t3 t4 t5 := h107
      refine relAsk_in (by rfl) ?_
      intro v108 h108
      obtain rfl : v108 = .bool true := h108
      refine relAsk_in (by rfl) ?_
      intro v109 h109
      obtain rfl : v109 = .bool true := h109
      refine relAsk_in (by rfl) ?_
      intro v110 h110
      obtain rfl : v110 = .bool true := h110
      refine relAsk_in (by rfl) ?_
      intro v2 h2
      obtain rfl : v2 = .bool true := h2
      refine relAsk_nil ?_
      refine wpList_nil ?_
      have HBF := Lib.hid (HW22.out.trans (hbn.mono (Nat.le_of_lt HSZ22.out.2.2)))
      clear hbn
      go_simp
      go_wp2_with fail
      go_ret
      exact ⟨rfl, HBF.out⟩
end Go.Proofs.YteaafnjflghlhaaDoor
