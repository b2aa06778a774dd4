/- The contracts of package nat's raised and guess. -/
import Derived.Test.YteaafnjflghlhaaDoorNUp
import Derived.Test.YteaafnjflghlhaaDoorKnuthMath
import Derived.Test.YteaafnjflghlhaaDoorRefN
import Derived.Deep.QuietTactic
import Derived.BigQuiet
namespace Go.Proofs.YteaafnjflghlhaaDoor
open Go.RowKit

/-- What raised tells: the number's limbs shifted until the highest bit stands, and by how much. -/
def RetRaised (n K : Nat) (w : World) (e : Ending) (w' : World) : Prop := ∃ G es s, e = .returned (.tuple #[.slice (some ⟨G, 0, none⟩) K (K + 1), .int .i64 (s : Nat)]) ∧ Row .u64 w' G 22 es ∧ w.heap.size ≤ G ∧ Ds 18446744073709551616 es ∧ es.length = K + 1 ∧
  dv 18446744073709551616 es = n * 2 ^ s ∧ dv 18446744073709551616 es < 18446744073709551616 ^ K ∧ 9223372036854775808 ≤ es.getD (K - 1) 0 ∧ dv 18446744073709551616 es = dv 18446744073709551616 (es.take K) ∧ s ≤ 63 ∧ Below w.heap.size w w'

set_option maxRecDepth 100000 in
set_option maxHeartbeats 1600000 in
theorem raised_c {A : Option Addr} {c n : Nat} {ds : List Nat} (w : World) (h : Rd .u64 w A c ds) (hd : Can 18446744073709551616 ds n) (hl : ds.length ≤ 8388608) (h0 : 0 < ds.length) :
    Calls Tryd.prog 78 #[.slice A ds.length c] w (RetRaised n ds.length w) := by
  obtain ⟨K, hK⟩ : ∃ K, K = ds.length := ⟨_, rfl⟩
  have htop : IsTop ds K := ⟨by omega, fun j hj => by rw [List.getD_eq_getElem?_getD, List.getElem?_eq_none (by omega)]; rfl, fun _ => by rw [hK]; exact hd.2.2 h0⟩
  obtain ⟨y, ey⟩ : ∃ y, y = ds.getD (K - 1) 0 := ⟨_, rfl⟩
  have ly : Lim y := by rw [ey]; exact hd.1.get (by omega) _
  have y0 : 0 < y := by have := htop.2.2 (by omega); rw [← ey] at this; omega
  have hlz := isLz y ly y0
  obtain ⟨s, es⟩ : ∃ s, s = 64 - Lib.bitLen y := ⟨_, rfl⟩
  rw [← es] at hlz
  have C1 := lz64_c y ly
  rw [← es] at C1
  have C2 := shiftUp_c w h hd.1 hl s hlz.1
  rw [← hK] at C2
  rw [hd.2.1] at C2
  obtain ⟨b, o, hA, hbb, hcell⟩ := h.at_ h0
  have cy := hcell (K - 1) (by omega)
  rw [← ey] at cy
  rw [← hK] at hl h0 ⊢
  have hK1 : (K : Int) - 1 = ((K - 1 : Nat) : Int) := by omega
  have hKb : (K : Int) ≤ 8388608 := by omega
  have hKp : (1 : Int) ≤ (K : Int) := by omega
  have hidx : ((K - 1 : Nat) : Int) < (K : Int) := by omega
  have e1 : IntKind.i64.wrap ((K : Int) - 1) = ((K - 1 : Nat) : Int) := by rw [IntWalk.i64_in _ (by omega)]; omega
  subst hA
  have HC1 := Lib.hid C1
  have HC2 := Lib.hid C2
  have HLZ := Lib.hid hlz
  have HEY := Lib.hid ey
  have HT := Lib.hid htop
  have HD := Lib.hid hd
  have HK := Lib.hid hK
  clear C1 C2 hlz ey htop hd hK es h hcell ly y0
  go_enter Tryd.func78, Tryd.ntmps78
  go_wp2_with fail
  (with_reducible refine (HC1.out _).mono ?_)
  rintro e w1 ⟨rfl, rfl⟩
  go_wp2_with fail
  (with_reducible refine HC2.out.mono ?_)
  rintro e w1 ⟨G, ls, rfl, hr, hg, hds, hv, hlen, hb⟩
  rw [hlen]
  have hvl : vl ls = vl ds * 2 ^ s := by rw [vl_dv, vl_dv, hv, HD.out.2.1]
  obtain ⟨n1, n2, n3⟩ := norm_top (fun x hx => HD.out.1 x hx) (fun x hx => hds x hx) (by omega) HT.out (by omega) (by rw [← HEY.out]; exact HLZ.out) hvl
  rw [vl_dv] at n1 n3
  rw [vl_dv] at n3
  have HR : Hid (RetRaised n K w (.returned (.tuple #[.slice (some ⟨G, 0, none⟩) K (K + 1), .int .i64 (s : Nat)])) w1) := ⟨G, ls, s, rfl, hr, hg, hds, hlen, hv, n1, n2, n3, HLZ.out.1, hb⟩
  clear hr hg hds hv hlen hb hvl n1 n2 n3 HC1 HC2 cy
  go_wp2_with fail
  go_ret2
  exact HR.out

/-- What guess reckons by two limbs of what is left and one of the divisor. -/
def guess1F (n2 n1 d1 : Nat) : Nat := if d1 ≤ n2 then 18446744073709551615 else (n2 * 18446744073709551616 + n1) / d1

set_option maxRecDepth 100000 in
set_option maxHeartbeats 3200000 in
theorem nguess1_c {g f off : Nat} {tl td : TypeId} {xs ys : List Nat} {cl cd : Nat} (w : World) (hx : Row .u64 w g tl xs) (hy : Row .u64 w f td ys) (lx : Ds 18446744073709551616 xs) (ly : Ds 18446744073709551616 ys)
    (hn : 1 ≤ ys.length) (hoff : off + 1 < xs.length) :
    Calls Tryd.prog 85 #[.slice (some ⟨g, off, none⟩) 2 cl, .slice (some ⟨f, 0, none⟩) 1 cd] w (RetDrewV (.int .u64 (guess1F (xs.getD (off + 1) 0) (xs.getD off 0) (ys.getD 0 0) : Nat)) w) := by
  have c2 := hx.cell (off + 1) (by omega)
  have c1 := hx.cell off (by omega)
  have b1 := hy.cell 0 (by omega)
  obtain ⟨n2, e2⟩ : ∃ v, v = xs.getD (off + 1) 0 := ⟨_, rfl⟩
  obtain ⟨n1, e1⟩ : ∃ v, v = xs.getD off 0 := ⟨_, rfl⟩
  obtain ⟨d1, e3⟩ : ∃ v, v = ys.getD 0 0 := ⟨_, rfl⟩
  have l1 : Lim n1 := by rw [e1]; exact lx.get (by omega) _
  have k1 : Lim d1 := by rw [e3]; exact ly.get (by omega) _
  rw [← e2] at c2
  rw [← e1] at c1
  rw [← e3] at b1
  rw [← e2, ← e1, ← e3]
  clear e1 e2 e3 hx hy lx ly hn hoff
  by_cases hge : (d1 : Int) ≤ (n2 : Int)
  · have hF : guess1F n2 n1 d1 = 18446744073709551615 := by unfold guess1F; rw [if_pos (by omega)]
    rw [hF]
    have hd : decide ((d1 : Int) ≤ (n2 : Int)) = true := by simp; omega
    clear hF c1
    go_enter Tryd.func85, Tryd.ntmps85
    go_wp2_with fail
    go_quiet (fail)
    go_wp2_with fail
    go_ret
    exact ⟨rfl, _, rfl⟩
  · obtain ⟨Q, eQ⟩ : ∃ Q, Q = (n2 * 18446744073709551616 + n1) / d1 := ⟨_, rfl⟩
    have hF : guess1F n2 n1 d1 = Q := by unfold guess1F; rw [if_neg (by omega), eQ]
    rw [hF]
    have hD := div64_c n2 n1 d1 l1 k1 (by omega)
    have hd : decide ((d1 : Int) ≤ (n2 : Int)) = false := by simp; omega
    obtain ⟨R, eR⟩ : ∃ R, R = (n2 * 18446744073709551616 + n1) % d1 := ⟨_, rfl⟩
    have cD : ∀ w : World, Calls Tryd.prog 89 #[.int .u64 n2, .int .u64 n1, .int .u64 d1] w fun e w'' => e = .returned (.tuple #[.int .u64 Q, .int .u64 R]) ∧ ∃ m, w'' = w.drewN m := fun w =>
      (hD w).mono fun e w'' ⟨q, r, n, h1, h2, h3, _, h5⟩ => ⟨by rw [h1, h2, h3, eQ, eR], n, h5⟩
    have CD := Lib.hid cD
    clear hF hD eQ eR cD
    go_enter Tryd.func85, Tryd.ntmps85
    go_wp2_with fail
    go_quiet (fail)
    have c2 : (w.drewN nq).cell? ⟨g, off + 1, none⟩ = some (.int .u64 (n2 : Nat)) := c2
    have c1 : (w.drewN nq).cell? ⟨g, off, none⟩ = some (.int .u64 (n1 : Nat)) := c1
    have b1 : (w.drewN nq).cell? ⟨f, 0, none⟩ = some (.int .u64 (d1 : Nat)) := b1
    have HW : Hid (∃ n, w.drewN nq = w.drewN n) := ⟨_, rfl⟩
    clear hd
    generalize w.drewN nq = wk at *
    go_wp2_with fail
    have cG : ∀ n, Calls Tryd.prog 89 #[.int .u64 n2, .int .u64 n1, .int .u64 d1] (wk.drewN n) fun e w'' => e = .returned (.tuple #[.int .u64 Q, .int .u64 R]) ∧ ∃ m, w'' = wk.drewN m := fun n => Calls.quiet_of (CD.out _)
    go_quiet (with_reducible exact cG _)
    clear cG c2 c1 b1
    have HW2 : Hid (∃ n, wk.drewN nq = w.drewN n) := by
      obtain ⟨m, hm⟩ := HW.out
      exact ⟨m + nq, by rw [hm, World.drewN_drewN]⟩
    clear HW
    generalize wk.drewN nq = wj at *
    go_wp2_with fail
    go_ret
    exact ⟨rfl, HW2.out⟩

set_option maxRecDepth 100000 in
set_option maxHeartbeats 6400000 in
theorem nguess_c {g f off top : Nat} {tl td : TypeId} {xs ys : List Nat} {cl cd : Nat} (w : World) (hx : Row .u64 w g tl xs) (hy : Row .u64 w f td ys) (lx : Ds 18446744073709551616 xs) (ly : Ds 18446744073709551616 ys)
    (hn : top + 2 ≤ ys.length) (hoff : off + top + 2 < xs.length) (htop : top ≤ 8388608) :
    Calls Tryd.prog 85 #[.slice (some ⟨g, off, none⟩) (top + 3) cl, .slice (some ⟨f, 0, none⟩) (top + 2) cd] w (RetDrewV (.int .u64 (guessF (xs.getD (off + (top + 2)) 0) (xs.getD (off + (top + 1)) 0) (xs.getD (off + top) 0) (ys.getD (top + 1) 0) (ys.getD top 0) : Nat)) w) := by
  have c2 := hx.cell (off + (top + 2)) (by omega)
  have c1 := hx.cell (off + (top + 1)) (by omega)
  have c0 := hx.cell (off + top) (by omega)
  have b1 := hy.cell (top + 1) (by omega)
  have b0 := hy.cell top (by omega)
  obtain ⟨n2, e2⟩ : ∃ v, v = xs.getD (off + (top + 2)) 0 := ⟨_, rfl⟩
  obtain ⟨n1, e1⟩ : ∃ v, v = xs.getD (off + (top + 1)) 0 := ⟨_, rfl⟩
  obtain ⟨n0, e0⟩ : ∃ v, v = xs.getD (off + top) 0 := ⟨_, rfl⟩
  obtain ⟨d1, e3⟩ : ∃ v, v = ys.getD (top + 1) 0 := ⟨_, rfl⟩
  obtain ⟨d0, e4⟩ : ∃ v, v = ys.getD top 0 := ⟨_, rfl⟩
  have l1 : Lim n1 := by rw [e1]; exact lx.get (by omega) _
  have l0 : Lim n0 := by rw [e0]; exact lx.get (by omega) _
  have k1 : Lim d1 := by rw [e3]; exact ly.get (by omega) _
  have k0 : Lim d0 := by rw [e4]; exact ly.get (by omega) _
  rw [← e2] at c2
  rw [← e1] at c1
  rw [← e0] at c0
  rw [← e3] at b1
  rw [← e4] at b0
  rw [← e2, ← e1, ← e0, ← e3, ← e4]
  obtain ⟨t1, et1⟩ : ∃ t, t = top + 1 := ⟨_, rfl⟩
  obtain ⟨t2, et2⟩ : ∃ t, t = top + 2 := ⟨_, rfl⟩
  rw [← et2] at c2
  rw [← et1] at c1 b1
  rw [← et2, show top + 3 = t2 + 1 by omega]
  have j1 : IntKind.i64.wrap ((t2 : Int) - 1) = (t1 : Int) := by rw [IntWalk.i64_in _ (by omega)]; omega
  have j2 : IntKind.i64.wrap ((t1 : Int) + 1) = (t2 : Int) := by rw [IntWalk.i64_in _ (by omega)]; omega
  have j3 : IntKind.i64.wrap ((t1 : Int) - 1) = (top : Int) := by rw [IntWalk.i64_in _ (by omega)]; omega
  have i1 : (t2 : Int) < (t2 : Int) + 1 := by omega
  have i2 : (t1 : Int) < (t2 : Int) + 1 := by omega
  have i3 : (t1 : Int) < (t2 : Int) := by omega
  have i4 : (top : Int) < (t2 : Int) := by omega
  have i5 : (top : Int) < (t2 : Int) + 1 := by omega
  have i6 : (1 : Int) ≤ (t1 : Int) := by omega
  have i7 : (t2 : Int) ≤ 8388610 := by omega
  have i8 : ((t1 : Int) == 0) = false := by simp; omega
  have i9 : ((t2 : Int) - 1) = (t1 : Int) := by omega
  have i10 : ((t1 : Int) + 1) = (t2 : Int) := by omega
  clear e1 e2 e3 e0 e4 hx hy lx ly hn hoff et1 et2 htop
  by_cases hge : (d1 : Int) ≤ (n2 : Int)
  · have hF : guessF n2 n1 n0 d1 d0 = 18446744073709551615 := by unfold guessF; rw [if_pos (by omega)]
    rw [hF]
    have hd : decide ((d1 : Int) ≤ (n2 : Int)) = true := by simp; omega
    clear hF c1 c0 b0
    have J9 := Lib.hid i9
    have J10 := Lib.hid i10
    clear i9 i10
    go_enter Tryd.func85, Tryd.ntmps85
    go_wp2_with fail
    go_quiet (fail)
    go_wp2_with fail
    go_ret
    exact ⟨rfl, _, rfl⟩
  · obtain ⟨Q, eQ⟩ : ∃ Q, Q = (n2 * 18446744073709551616 + n1) / d1 := ⟨_, rfl⟩
    obtain ⟨R, eR⟩ : ∃ R, R = (n2 * 18446744073709551616 + n1) % d1 := ⟨_, rfl⟩
    have hD := div64_c n2 n1 d1 l1 k1 (by omega)
    have hd : decide ((d1 : Int) ≤ (n2 : Int)) = false := by simp; omega
    have cD : ∀ w : World, Calls Tryd.prog 89 #[.int .u64 n2, .int .u64 n1, .int .u64 d1] w fun e w'' => e = .returned (.tuple #[.int .u64 Q, .int .u64 R]) ∧ ∃ m, w'' = w.drewN m := fun w =>
      (hD w).mono fun e w'' ⟨q, r, n, h1, h2, h3, _, h5⟩ => ⟨by rw [h1, h2, h3, eQ, eR], n, h5⟩
    have lq : Lim Q := by
      unfold Lim at l1 k1 ⊢
      rw [eQ]; exact Nat.div_lt_of_lt_mul (by omega)
    have lr : Lim R := by rw [eR]; exact Nat.lt_trans (Nat.mod_lt _ (by omega)) k1
    have hFF : guessF n2 n1 n0 d1 d0 = if R * 18446744073709551616 + n0 < Q * d0 then Q - 1 else Q := by unfold guessF; rw [if_neg (by omega), eQ, eR]
    have HFF := Lib.hid hFF
    have CD := Lib.hid cD
    obtain ⟨F, eF⟩ : ∃ F, F = guessF n2 n1 n0 d1 d0 := ⟨_, rfl⟩
    rw [← eF] at HFF ⊢
    have J9 := Lib.hid i9
    have J10 := Lib.hid i10
    clear hFF hD eQ eR cD eF i9 i10
    go_enter Tryd.func85, Tryd.ntmps85
    go_wp2_with fail
    go_quiet (fail)
    have c2 : (w.drewN nq).cell? ⟨g, off + t2, none⟩ = some (.int .u64 (n2 : Nat)) := c2
    have c1 : (w.drewN nq).cell? ⟨g, off + t1, none⟩ = some (.int .u64 (n1 : Nat)) := c1
    have c0 : (w.drewN nq).cell? ⟨g, off + top, none⟩ = some (.int .u64 (n0 : Nat)) := c0
    have b1 : (w.drewN nq).cell? ⟨f, t1, none⟩ = some (.int .u64 (d1 : Nat)) := b1
    have b0 : (w.drewN nq).cell? ⟨f, top, none⟩ = some (.int .u64 (d0 : Nat)) := b0
    have HW : Hid (∃ n, w.drewN nq = w.drewN n) := ⟨_, rfl⟩
    clear hd
    generalize w.drewN nq = wk at *
    go_wp2_with fail
    have cG : ∀ n, Calls Tryd.prog 89 #[.int .u64 n2, .int .u64 n1, .int .u64 d1] (wk.drewN n) fun e w'' => e = .returned (.tuple #[.int .u64 Q, .int .u64 R]) ∧ ∃ m, w'' = wk.drewN m := fun n => Calls.quiet_of (CD.out _)
    go_quiet (with_reducible exact cG _)
    have c0 : (wk.drewN nq).cell? ⟨g, off + top, none⟩ = some (.int .u64 (n0 : Nat)) := c0
    have b0 : (wk.drewN nq).cell? ⟨f, top, none⟩ = some (.int .u64 (d0 : Nat)) := b0
    clear cG c2 c1 b1
    have HW2 : Hid (∃ n, wk.drewN nq = w.drewN n) := by
      obtain ⟨m, hm⟩ := HW.out
      exact ⟨m + nq, by rw [hm, World.drewN_drewN]⟩
    clear HW
    generalize wk.drewN nq = wj at *
    go_wp2_with fail
    (with_reducible refine (mul64_c Q d0 lq k0 _).mono ?_)
    rintro e w2 ⟨h, l, rfl, hP, rfl⟩
    have hc := two_cmp (r := R) (n0 := n0) hP.1 hP.2.1 l0
    have hq1 : R < h ∨ (h = R ∧ n0 < l) → 1 ≤ Q := fun hh => by
      have := hc.2 hh
      rcases Nat.eq_zero_or_pos Q with rfl | h'
      · rw [Nat.zero_mul] at this; omega
      · exact h'
    have hF : R < h ∨ (h = R ∧ n0 < l) → IntKind.u64.wrap ((Q : Int) - 1) = (F : Int) := fun hh => by
      have := HFF.out
      rw [if_pos (hc.2 hh)] at this
      rw [this]; exact wrap_pred lq (hq1 hh)
    have hG : ¬ (R < h ∨ (h = R ∧ n0 < l)) → Q = F := fun hh => by
      have := HFF.out
      rw [if_neg (fun h' => hh (hc.1 h'))] at this
      exact this.symm
    have HF := Lib.hid hF
    have HG := Lib.hid hG
    clear hP hc hF hG hq1 HFF
    by_cases cc1 : (R : Int) < (h : Int)
    · have hw := HF.out (.inl (by omega))
      go_wp2_with fail
      go_ret
      exact ⟨rfl, HW2.out⟩
    · by_cases cc2 : h = R
      · subst cc2
        by_cases cc3 : (n0 : Int) < (l : Int)
        · have hw := HF.out (.inr ⟨by trivial, by omega⟩)
          go_wp2_with fail
          go_ret
          exact ⟨rfl, HW2.out⟩
        · have hw := HG.out (by omega)
          subst hw
          go_wp2_with fail
          go_ret
          exact ⟨rfl, HW2.out⟩
      · have hb : ((h : Int) == R) = false := by simp; omega
        have hw := HG.out (by omega)
        subst hw
        go_wp2_with fail
        go_ret
        exact ⟨rfl, HW2.out⟩
end Go.Proofs.YteaafnjflghlhaaDoor
