/- The contract of package nat's divide: Knuth's algorithm D over slices. -/
import Derived.Test.YteaafnjflghlhaaDoorNGuess
import Derived.Test.YteaafnjflghlhaaDoorNTake
import Derived.Test.YteaafnjflghlhaaDoorNGive
namespace Go.Proofs.YteaafnjflghlhaaDoor
open Go.RowKit

/-- What guess reckons. -/
def gv (zs ds : List Nat) (i n : Nat) : Nat := if n = 1 then guess1F (zs.getD (i + 1) 0) (zs.getD i 0) (ds.getD 0 0) else guessF (zs.getD (i + n) 0) (zs.getD (i + n - 1) 0) (zs.getD (i + n - 2) 0) (ds.getD (n - 1) 0) (ds.getD (n - 2) 0)
theorem guessA_c {g f off n : Nat} {tl td : TypeId} {xs ys : List Nat} {cl cd : Nat} (w : World) (hx : Row .u64 w g tl xs) (hy : Row .u64 w f td ys) (lx : Ds 18446744073709551616 xs) (ly : Ds 18446744073709551616 ys)
    (hn1 : 1 ≤ n) (hn : n ≤ ys.length) (hoff : off + n < xs.length) (hb : n ≤ 8388608) :
    Calls Tryd.prog 85 #[.slice (some ⟨g, off, none⟩) (n + 1) cl, .slice (some ⟨f, 0, none⟩) n cd] w (RetDrewV (.int .u64 (gv xs ys off n : Nat)) w) := by
  unfold gv
  by_cases h1 : n = 1
  · subst h1
    rw [if_pos rfl]
    exact nguess1_c w hx hy lx ly hn hoff
  · rw [if_neg h1]
    obtain ⟨top, rfl⟩ : ∃ top, n = top + 2 := ⟨n - 2, by omega⟩
    have h := nguess_c (top := top) (cl := cl) (cd := cd) w hx hy lx ly hn (by omega) (by omega)
    rw [show off + (top + 2) - 1 = off + (top + 1) by omega, show off + (top + 2) - 2 = off + top by omega, show top + 2 - 1 = top + 1 by omega, show top + 2 - 2 = top by omega]
    exact h
theorem guess1_lt {n2 n1 d1 : Nat} (h1 : n1 < 18446744073709551616) : guess1F n2 n1 d1 < 18446744073709551616 := by
  unfold guess1F
  by_cases hc : d1 ≤ n2
  · rw [if_pos hc]; omega
  · rw [if_neg hc]
    exact Nat.div_lt_of_lt_mul (by omega)
theorem guess2_lt {n2 n1 n0 d1 d0 : Nat} (h1 : n1 < 18446744073709551616) : guessF n2 n1 n0 d1 d0 < 18446744073709551616 := by
  unfold guessF
  by_cases hc : d1 ≤ n2
  · rw [if_pos hc]; omega
  · rw [if_neg hc]
    have hlt : (n2 * 18446744073709551616 + n1) / d1 < 18446744073709551616 := Nat.div_lt_of_lt_mul (by omega)
    split <;> omega
theorem gv_lt {zs ds : List Nat} {i n : Nat} (hz : Lims zs) : Lim (gv zs ds i n) := by
  unfold gv Lim
  split
  · exact guess1_lt (hz.get _)
  · exact guess2_lt (hz.get _)
theorem digit_one {zs ds : List Nat} {i D : Nat} (hds : Lims ds) (hl : 1 ≤ ds.length) (hi : i + 1 + 1 ≤ zs.length) (hD : D = vl (ds.take 1))
    (hL : vl zs < D * 18446744073709551616 ^ (i + 1)) :
    vl (zs.drop i) / D ≤ guess1F (zs.getD (i + 1) 0) (zs.getD i 0) (ds.getD 0 0) ∧ guess1F (zs.getD (i + 1) 0) (zs.getD i 0) (ds.getD 0 0) ≤ vl (zs.drop i) / D + 1 := by
  have hDl : D < 18446744073709551616 ^ 1 := by rw [hD]; exact vl_take_lt hds 1 hl
  have hbig : vl zs < 18446744073709551616 ^ (i + 1 + 1) := by
    refine Nat.lt_of_lt_of_le hL ?_
    have e : (18446744073709551616 : Nat) ^ (i + 1 + 1) = 18446744073709551616 ^ 1 * 18446744073709551616 ^ (i + 1) := by rw [← Nat.pow_add]; congr 1; omega
    rw [e]
    exact Nat.mul_le_mul_right _ (Nat.le_of_lt hDl)
  have hsp := val_split zs i (by omega)
  have hR : vl (zs.drop i) < D * 18446744073709551616 := by
    rw [Nat.pow_succ] at hL
    apply Nat.lt_of_mul_lt_mul_left (a := 18446744073709551616 ^ i)
    generalize 18446744073709551616 ^ i * vl (zs.drop i) = t at *
    have e : 18446744073709551616 ^ i * (D * 18446744073709551616) = D * (18446744073709551616 ^ i * 18446744073709551616) := by rw [Nat.mul_left_comm]
    omega
  have ht : vl (zs.drop i) = vl ((zs.drop i).take 2) := vl_take_eq (by rw [List.length_drop]; omega) fun j hj => by
    have := tail_zero hbig (show i + 1 + 1 ≤ i + j by omega)
    rw [List.getD_eq_getElem?_getD] at this ⊢
    rw [List.getElem?_drop]; exact this
  have h2 : vl ((zs.drop i).take 2) = zs.getD i 0 + 18446744073709551616 * zs.getD (i + 1) 0 := by
    have gd : ∀ j, (zs.drop i).getD j 0 = zs.getD (i + j) 0 := fun j => by rw [List.getD_eq_getElem?_getD, List.getElem?_drop, List.getD_eq_getElem?_getD]
    rw [val_take_succ _ 1 (by rw [List.length_drop]; omega), val_take_succ _ 0 (by rw [List.length_drop]; omega), gd, gd]
    simp [vl]
  have hD1 : D = ds.getD 0 0 := by rw [hD, val_take_succ ds 0 (by omega)]; simp [vl]
  have e : vl (zs.drop i) = zs.getD (i + 1) 0 * 18446744073709551616 + zs.getD i 0 := by rw [ht, h2]; omega
  rw [e] at hR ⊢
  rw [← hD1]
  unfold guess1F
  rw [if_neg (by omega)]
  exact ⟨Nat.le_refl _, Nat.le_succ _⟩
theorem gv_digit {zs ds : List Nat} {i n D : Nat} (hz : Lims zs) (hds : Lims ds) (hn1 : 1 ≤ n) (hl : n ≤ ds.length) (hi : i + n + 1 ≤ zs.length) (hD : D = vl (ds.take n)) (hn : 9223372036854775808 ≤ ds.getD (n - 1) 0)
    (hL : vl zs < D * 18446744073709551616 ^ (i + 1)) : vl (zs.drop i) / D ≤ gv zs ds i n ∧ gv zs ds i n ≤ vl (zs.drop i) / D + 1 := by
  unfold gv
  by_cases h1 : n = 1
  · subst h1
    rw [if_pos rfl]
    exact digit_one hds hl hi hD hL
  · rw [if_neg h1]
    exact digit_of hz hds (by omega) hl hi hD hn hL
/-- What divide has done when k digits are still to come. -/
def KnD (N D k : Nat) (qs zs : List Nat) : Prop := N = D * (18446744073709551616 ^ k * vl (qs.drop k)) + vl zs ∧ vl zs < D * 18446744073709551616 ^ k
theorem knd_step {N D i q : Nat} {qs zs z2 : List Nat} (h : KnD N D (i + 1) qs zs) (hq : i < qs.length) (e : vl z2 + 18446744073709551616 ^ i * (q * D) = vl zs) (hl : vl z2 < D * 18446744073709551616 ^ i) : KnD N D i (qs.set i q) z2 := by
  refine ⟨?_, hl⟩
  have e1 : vl ((qs.set i q).drop i) = q + 18446744073709551616 * vl (qs.drop (i + 1)) := by
    rw [vl_drop_get _ i (by rw [List.length_set]; exact hq), getD_set_self hq, List.drop_set_of_lt (by omega)]
  rw [e1, h.1, ← e, Nat.pow_succ]
  generalize 18446744073709551616 ^ i = P
  generalize vl (qs.drop (i + 1)) = V
  clear e1 e h hl
  grind
/-- Blocks g and f alone may have changed. -/
structure Tch2 (g f : Nat) (w w' : World) : Prop where
  os : w'.os = w.os
  tape : w'.tape = w.tape
  output : w'.output = w.output
  size : w'.heap.size = w.heap.size
  block : ∀ i, i ≠ g → i ≠ f → w'.heap[i]? = w.heap[i]?
section
variable {g f : Nat} {a b c : World}
theorem Tch2.refl (g f : Nat) (w : World) : Tch2 g f w w := ⟨rfl, rfl, rfl, rfl, fun _ _ _ => rfl⟩
theorem Tch2.trans (h : Tch2 g f a b) (k : Tch2 g f b c) : Tch2 g f a c :=
  ⟨k.os.trans h.os, k.tape.trans h.tape, k.output.trans h.output, k.size.trans h.size, fun i h1 h2 => (k.block i h1 h2).trans (h.block i h1 h2)⟩
theorem Tch2.l (h : Touch g a b) : Tch2 g f a b := ⟨h.os, h.tape, h.output, h.size, fun i h1 _ => h.block i h1⟩
theorem Tch2.r (h : Touch f a b) : Tch2 g f a b := ⟨h.os, h.tape, h.output, h.size, fun i _ h2 => h.block i h2⟩
theorem Tch2.tl (h : Tch g a b) : Tch2 g f a b := ⟨h.os, h.tape, h.output, h.size, fun i h1 _ => h.block i h1⟩
theorem Tch2.row {k : IntKind} {t : TypeId} {xs : List Nat} {i : Nat} (h : Tch2 g f a b) (r : Row k a i t xs) (h1 : i ≠ g) (h2 : i ≠ f) : Row k b i t xs := (h.block i h1 h2).trans r
theorem Tch2.below {B : Nat} (h : Tch2 g f b c) (k : Below B a b) (h1 : B ≤ g) (h2 : B ≤ f) : Below B a c :=
  k.trans ⟨h.os, h.tape, h.output, by rw [h.size]; exact Nat.le_refl _, fun i hi => h.block i (by omega) (by omega)⟩
end
/-- What divide leaves. -/
def RetNQR (gq gl : Nat) (tq tl : TypeId) (Q R N M : Nat) (w : World) (e : Ending) (w' : World) : Prop := ∃ qs zs, e = .returned (.tuple #[]) ∧ Row .u64 w' gq tq qs ∧ Row .u64 w' gl tl zs ∧ Ds 18446744073709551616 qs ∧ Ds 18446744073709551616 zs ∧
  dv 18446744073709551616 qs = Q ∧ dv 18446744073709551616 zs = R ∧ qs.length = N ∧ zs.length = M ∧ Tch2 gq gl w w'

set_option maxRecDepth 100000 in
set_option maxHeartbeats 6400000 in
theorem ndivide_c {gq gl gd n D : Nat} {tq tl td : TypeId} {qs xs ds : List Nat} {cq cl cd : Nat} (w : World) (hq : Row .u64 w gq tq qs) (hx : Row .u64 w gl tl xs) (hd : Row .u64 w gd td ds) (n1 : gq ≠ gl) (n2 : gd ≠ gq) (n3 : gd ≠ gl)
    (lq : Ds 18446744073709551616 qs) (lx : Ds 18446744073709551616 xs) (ld : Ds 18446744073709551616 ds) (hn1 : 1 ≤ n) (hn : n ≤ ds.length) (hds : ds.length ≤ 8388608) (hxs : xs.length ≤ 16777216) (hD : D = dv 18446744073709551616 (ds.take n))
    (htop : 9223372036854775808 ≤ ds.getD (n - 1) 0) (hX : dv 18446744073709551616 xs < D * 18446744073709551616 ^ qs.length) (hql : qs.length = xs.length - n) (hcl : xs.length ≤ cl) :
    Calls Tryd.prog 80 #[.slice (some ⟨gq, 0, none⟩) qs.length cq, .slice (some ⟨gl, 0, none⟩) xs.length cl, .slice (some ⟨gd, 0, none⟩) n cd] w (RetNQR gq gl tq tl (dv 18446744073709551616 xs / D) (dv 18446744073709551616 xs % D) qs.length xs.length w) := by
  obtain ⟨Q, hQ⟩ : ∃ Q, Q = qs.length := ⟨_, rfl⟩
  obtain ⟨Z, hZ⟩ : ∃ Z, Z = xs.length := ⟨_, rfl⟩
  obtain ⟨N, hN⟩ : ∃ N, N = dv 18446744073709551616 xs := ⟨_, rfl⟩
  have hN' : N = vl xs := by rw [hN, vl_dv]
  have hD' : D = vl (ds.take n) := by rw [hD, vl_dv]
  rw [← hQ] at hX hql
  rw [← hN] at hX
  rw [← hZ] at hql hxs hcl
  rw [← hQ, ← hZ, ← hN]
  have hDp : 0 < D := by
    rcases Nat.eq_zero_or_pos D with h | h
    · rw [h, Nat.zero_mul] at hX; omega
    · exact h
  have hinit : KnD N D Q qs xs := ⟨by rw [hQ, List.drop_length, hN']; simp [vl], by rw [← hN']; exact hX⟩
  have HI := Lib.hid hinit
  have HD := Lib.hid hD'
  have HDP := Lib.hid hDp
  have HQ := Lib.hid hQ
  have HZ := Lib.hid hZ
  have HT := Lib.hid htop
  have HRD := Lib.hid hd
  have HLD := Lib.hid ld
  have HND := Lib.hid hn
  have HDS := Lib.hid hds
  have HLQ := Lib.hid lq
  have HLX := Lib.hid lx
  have HQL := Lib.hid hql
  have hn8 : (n : Int) ≤ 8388608 := by omega
  have hn1i : (1 : Int) ≤ (n : Int) := by omega
  have hz8 : (Z : Int) ≤ 16777216 := by omega
  have hcli : (Z : Int) ≤ (cl : Int) := by omega
  have ew : IntKind.i64.wrap ((Z : Int) - (n : Int) - 1) = (Z : Int) - (n : Int) - 1 := IntWalk.i64_in _ (by omega)
  clear hinit hD' hD hN hN' hDp hQ hZ htop hd ld hn hds lq lx hql hX hxs hcl
  go_enter Tryd.func80, Tryd.ntmps80
  go_wp2_with fail
  clear ew
  go_loopw [6] (fun i wr => ∃ (v : Int) (k : Nat) (ps zs : List Nat), i = .int .i64 v ∧ Hid (k = (v + 1).toNat) ∧ v + 1 ≤ (Q : Int) ∧ -8388610 ≤ v ∧ Hid (ps.length = Q) ∧ Hid (zs.length = Z) ∧ Hid (Ds 18446744073709551616 ps) ∧ Hid (Ds 18446744073709551616 zs) ∧ Hid (KnD N D k ps zs) ∧ Row .u64 wr gq tq ps ∧ Row .u64 wr gl tl zs ∧ Hid (Tch2 gq gl w wr))
    (fun i _ => (intOf i + 1).toNat)
  case atStart =>
    exact ⟨(Z : Int) - n - 1, Q, qs, xs, rfl, by show Q = _; have := HQL.out; omega, by have := HQL.out; omega, by omega, by show qs.length = Q; exact HQ.out.symm, by show xs.length = Z; exact HZ.out.symm, HLQ, HLX, HI, hq, hx, Tch2.refl _ _ _⟩
  case round =>
    clear hq hx
    obtain ⟨v, k, ps, zs, rfl, hk, hvQ, hvl, HPL, HZL, HPD, HZD, hinv, hrq, hrx, htch⟩ := hrel
    by_cases h0 : 0 ≤ v
    · obtain ⟨o, rfl⟩ := Int.eq_ofNat_of_zero_le h0
      obtain rfl : k = o + 1 := by have := hk.out; omega
      have hrd := htch.out.row HRD.out n2 n3
      have hQZ : Q + n = Z := by have := HQL.out; omega
      have hon : (o : Int) + (n : Int) + 1 ≤ (Z : Int) := by omega
      have e1 : IntKind.i64.wrap ((o : Int) + (n : Int)) = (o : Int) + (n : Int) := IntWalk.i64_in _ (by omega)
      have e2 : IntKind.i64.wrap ((o : Int) + (n : Int) + 1) = ((o + n + 1 : Nat) : Int) := by rw [IntWalk.i64_in _ (by omega)]; omega
      have hocl : (o : Int) < (cl : Int) := by omega
      have C1 := Lib.hid (guessA_c (cl := cl - o) (cd := cd) wr hrx hrd HZD.out HLD.out hn1 HND.out (by rw [HZL.out]; omega) (by have := HND.out; have := HDS.out; omega) (off := o))
      have hdig := Lib.hid (gv_digit (zs := zs) (ds := ds) (i := o) (n := n) (D := D) HZD.out HLD.out hn1 HND.out (by rw [HZL.out]; omega) HD.out HT.out hinv.out.2)
      have lg : Lim (gv zs ds o n) := gv_lt HZD.out
      obtain ⟨g, eg⟩ : ∃ g, g = gv zs ds o n := ⟨_, rfl⟩
      rw [← eg] at C1 hdig lg
      have HQZ := Lib.hid hQZ
      clear eg hQZ h0
      go_upto_region 4 with (fail)
      rw [show o + n + 1 - o = n + 1 by omega]
      clear e1 e2
      go_wp2_with fail
      (with_reducible refine C1.out.mono ?_)
      rintro e w1 ⟨rfl, m, hw1⟩
      have hrq := hrq.drewN m
      have hrx := hrx.drewN m
      have hrd := hrd.drewN m
      have htch := Lib.hid (htch.out.trans (Tch2.tl (Tch.drewN gq wr m)))
      rw [← hw1] at hrq hrx hrd htch
      clear hw1 C1
      have C2 := Lib.hid (ntake_c (cl := cl - o) (cd := cd) (off := o) (n := n) w1 hrx hrd n3 HZD.out HLD.out lg HND.out HDS.out (by rw [HZL.out]; have := HQZ.out; omega) (by rw [HZL.out]; omega) (by have := HQZ.out; omega))
      go_wp2_with fail
      (with_reducible refine C2.out.mono ?_)
      rintro e w2 ⟨b, z1, rfl, hb1, hl1, hlim1, hv1, ht1, harr1, htouch1⟩
      have hrq := (Tch2.l (g := gl) (f := gl) htouch1).row hrq n1 n1
      have hrd := (Tch2.l (g := gl) (f := gl) htouch1).row hrd n3 n3
      have htch := Lib.hid (htch.out.trans (Tch2.r htouch1))
      have cq := hrq.cell o (by rw [HPL.out]; omega)
      have fq := hrq.frozen o
      have HV1 := Lib.hid hv1
      have HT1 := Lib.hid ht1
      have HL1 := Lib.hid hl1
      have HM1 := Lib.hid hlim1
      clear C2 hv1 ht1 hl1 hlim1 hrx htouch1
      rcases (show b = 0 ∨ b = 1 by omega) with rfl | rfl
      · have hbf : (((0 : Nat) : Int) == 1) = false := rfl
        rw [hbf]
        obtain ⟨r1, r2⟩ := round_right HZD.out (by rw [HZL.out]; have := HQZ.out; omega) HDP.out hdig.out HD.out HV1.out
        have hst := Lib.hid (knd_step (q := g) hinv.out (by rw [HPL.out]; omega) r1 r2)
        have hrx : Row .u64 w2 gl tl z1 := harr1
        clear r1 r2 hdig harr1
        go_wp2_with fail
        go_roundw
        case rel =>
          exact ⟨(o : Int) - 1, o, ps.set o g, z1, rfl, by show o = _; omega, by omega, by omega, by show (ps.set o g).length = Q; rw [List.length_set]; exact HPL.out, HL1.out.trans HZL.out, HPD.out.set _ _ lg, HM1.out, hst.out, hrq.set o g, hrx.far (p := ⟨gq, o, none⟩) (Ne.symm n1) _, htch.out.trans (Tch2.tl (Tch.put gq o w2 _))⟩
        case measure => simp [intOf]
      · have hbt : (((1 : Nat) : Int) == 1) = true := rfl
        rw [hbt]
        have C3 := Lib.hid (ngive_c (cl := cl - o) (cd := cd) (off := o) (n := n) w2 harr1 hrd n3 HM1.out HLD.out HND.out HDS.out (by rw [HL1.out, HZL.out]; have := HQZ.out; omega) (by rw [HL1.out, HZL.out]; omega))
        clear cq fq harr1
        go_wp2_with fail
        (with_reducible refine C3.out.mono ?_)
        rintro e w3 ⟨c, z2, rfl, hl2, hlim2, hv2, ht2, harr2, htouch2⟩
        have hrq := (Tch2.l (g := gl) (f := gl) htouch2).row hrq n1 n1
        have htch := Lib.hid (htch.out.trans (Tch2.r htouch2))
        have cq := hrq.cell o (by rw [HPL.out]; omega)
        have fq := hrq.frozen o
        obtain ⟨r0, r1, r2⟩ := round_wrong HM1.out hlim2 (by rw [HZL.out]; have := HQZ.out; omega) HL1.out (hl2.trans HL1.out) HDP.out HLD.out HND.out hdig.out HD.out hinv.out.2 HT1.out ht2 HV1.out hv2
        have hgw := wrap_pred lg r0
        have hst := Lib.hid (knd_step (q := g - 1) hinv.out (by rw [HPL.out]; omega) r1 r2)
        have HL2 := Lib.hid (hl2.trans HL1.out)
        have HM2 := Lib.hid hlim2
        have hrx : Row .u64 w3 gl tl z2 := harr2
        have lg1 := Lib.hid (show Lim (g - 1) by unfold Lim at *; omega)
        clear r1 r2 hdig C3 hv2 ht2 hl2 hlim2 htouch2 harr2 hrd
        go_wp2_with fail
        go_roundw
        case rel =>
          exact ⟨(o : Int) - 1, o, ps.set o (g - 1), z2, rfl, by show o = _; omega, by omega, by omega, by show (ps.set o (g - 1)).length = Q; rw [List.length_set]; exact HPL.out, HL2.out.trans HZL.out, HPD.out.set _ _ lg1.out, HM2.out, hst.out, hrq.set o (g - 1), hrx.far (p := ⟨gq, o, none⟩) (Ne.symm n1) _, htch.out.trans (Tch2.tl (Tch.put gq o w3 _))⟩
        case measure => simp [intOf]
    · have hk0 : k = 0 := by have := hk.out; omega
      subst hk0
      have hv0 : ¬ ((0 : Int) ≤ v) := h0
      obtain ⟨i1, i2⟩ := hinv.out
      rw [Nat.pow_zero, Nat.one_mul, List.drop_zero] at i1
      rw [Nat.pow_zero, Nat.mul_one] at i2
      have q1 : vl ps = N / D := by
        rw [i1, Nat.mul_comm, Nat.add_comm, Nat.add_mul_div_right _ _ HDP.out, Nat.div_eq_of_lt i2, Nat.zero_add]
      have q2 : vl zs = N % D := by
        rw [i1, Nat.mul_comm, Nat.add_comm, Nat.add_mul_mod_self_right, Nat.mod_eq_of_lt i2]
      rw [vl_dv] at q1 q2
      have Q1 := Lib.hid q1
      have Q2 := Lib.hid q2
      have HRQ := Lib.hid hrq
      have HRX := Lib.hid hrx
      clear i1 i2 q1 q2 hinv hrq hrx hk
      go_wp2_with fail
      go_end0
      exact ⟨ps, zs, rfl, HRQ.out, HRX.out, HPD.out, HZD.out, Q1.out, Q2.out, HPL.out, HZL.out, htch.out⟩
end Go.Proofs.YteaafnjflghlhaaDoor
