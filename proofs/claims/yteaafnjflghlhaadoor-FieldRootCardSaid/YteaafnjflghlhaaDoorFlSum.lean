/- Package field's lower, add and sub. -/
import Derived.Test.YteaafnjflghlhaaDoorFlMinus
namespace Go.Proofs.YteaafnjflghlhaaDoor
open Go.RowKit

theorem L6.drewN {w : World} {g o x0 x1 x2 x3 x4 x5 : Nat} (h : L6 w g o x0 x1 x2 x3 x4 x5) (n : Nat) : L6 (w.drewN n) g o x0 x1 x2 x3 x4 x5 := h.keep (fun _ _ => rfl)
/-- A number of another block stands as it did. -/
theorem Put6.apart {g o f p x0 x1 x2 x3 x4 x5 : Nat} {w w' : World} (h : Put6 g o w w') (hx : L6 w f p x0 x1 x2 x3 x4 x5) (hn : g ≠ f) : L6 w' f p x0 x1 x2 x3 x4 x5 := hx.keep (fun _ _ => h.far _ (fun e => hn e.symm))
/-- What lower tells: the rest of a number below twice the prime. -/
def LowR (x y s : Nat) : Prop := (x < y → s = x) ∧ (¬ x < y → s + y = x)

set_option maxRecDepth 100000 in
set_option maxHeartbeats 3200000 in
theorem flower_c {B O g o p0 p1 p2 p3 p4 p5 x0 x1 x2 x3 x4 x5 : Nat} (w : World) (hp : L6 w B O p0 p1 p2 p3 p4 p5) (lp : Lim6 p0 p1 p2 p3 p4 p5) (hx : L6 w g o x0 x1 x2 x3 x4 x5) (lx : Lim6 x0 x1 x2 x3 x4 x5) (hf : ∀ k, w.frozen? ⟨g, k, none⟩ = false) (hn : g ≠ B) :
    Calls Tryd.prog 60 #[.pointer (some ⟨B, O, none⟩), .pointer (some ⟨g, o, none⟩)] w fun e w' => e = .returned (.tuple #[]) ∧ Put6 g o w w' ∧
      ∃ s0 s1 s2 s3 s4 s5, L6 w' g o s0 s1 s2 s3 s4 s5 ∧ Lim6 s0 s1 s2 s3 s4 s5 ∧ LowR (n6 x0 x1 x2 x3 x4 x5) (n6 p0 p1 p2 p3 p4 p5) (n6 s0 s1 s2 s3 s4 s5) := by
  have C1 := Lib.hid (below_c w hx hp lx lp)
  by_cases hlt : n6 x0 x1 x2 x3 x4 x5 < n6 p0 p1 p2 p3 p4 p5
  · have HD := Lib.hid (decide_eq_true hlt)
    have HE : Hid (LowR (n6 x0 x1 x2 x3 x4 x5) (n6 p0 p1 p2 p3 p4 p5) (n6 x0 x1 x2 x3 x4 x5)) := ⟨fun _ => rfl, fun h => absurd hlt h⟩
    have HX := Lib.hid hx
    have HLX := Lib.hid lx
    clear hlt hp lp hx lx hf hn
    go_enter Tryd.func60, Tryd.ntmps60
    go_wp2_with fail
    (with_reducible refine (C1.out).mono ?_)
    rintro e w' ⟨he, n, rfl⟩
    rw [HD.out] at he
    subst he
    go_wp2_with fail
    go_end0
    exact ⟨rfl, (Put6.refl g o w).drewN n, _, _, _, _, _, _, HX.out.drewN n, HLX.out, HE.out⟩
  · have HD := Lib.hid (decide_eq_false hlt)
    have C2 : Hid (∀ n : Nat, _) := fun n => fminus_c (w.drewN n) (hx.drewN n) (hp.drewN n) lx lp ⟨_, _, _, _, _, _, hx.drewN n⟩ hf (Or.inl ⟨rfl, rfl⟩) (Or.inr hn)
    have HN := Lib.hid hlt
    clear hlt hp lp hx lx hf hn
    go_enter Tryd.func60, Tryd.ntmps60
    go_wp2_with fail
    (with_reducible refine (C1.out).mono ?_)
    rintro e w' ⟨he, n, rfl⟩
    rw [HD.out] at he
    subst he
    go_wp2_with fail
    (with_reducible refine (C2.out n).mono ?_)
    rintro e w' ⟨rfl, hput, s0, s1, s2, s3, s4, s5, hs, ls, hr⟩
    have HS := Lib.hid hs
    have HP := Lib.hid hput
    have HR := Lib.hid hr
    have HLS := Lib.hid ls
    clear hs hput hr ls
    go_wp2_with fail
    go_end0
    exact ⟨rfl, ((Put6.refl g o w).drewN n).trans HP.out, _, _, _, _, _, _, HS.out, HLS.out, fun h => absurd h HN.out, fun h => HR.out.2 h⟩

set_option maxRecDepth 100000 in
set_option maxHeartbeats 3200000 in
theorem fadd_c {B O g o f p h q p0 p1 p2 p3 p4 p5 x0 x1 x2 x3 x4 x5 y0 y1 y2 y3 y4 y5 : Nat} (w : World) (hp : L6 w B O p0 p1 p2 p3 p4 p5) (lp : Lim6 p0 p1 p2 p3 p4 p5) (hx : L6 w f p x0 x1 x2 x3 x4 x5) (hy : L6 w h q y0 y1 y2 y3 y4 y5) (lx : Lim6 x0 x1 x2 x3 x4 x5) (ly : Lim6 y0 y1 y2 y3 y4 y5)
    (hz : ∃ z0 z1 z2 z3 z4 z5, L6 w g o z0 z1 z2 z3 z4 z5) (hf : ∀ k, w.frozen? ⟨g, k, none⟩ = false) (a1 : Apart g o f p) (a2 : Apart g o h q) (hn : g ≠ B)
    (bx : n6 x0 x1 x2 x3 x4 x5 < n6 p0 p1 p2 p3 p4 p5) (by_ : n6 y0 y1 y2 y3 y4 y5 < n6 p0 p1 p2 p3 p4 p5) (bp : 2 * n6 p0 p1 p2 p3 p4 p5 ≤ 39402006196394479212279040100143613805079739270465446667948293404245721771497210611414266254884915640806627990306816) :
    Calls Tryd.prog 53 #[.pointer (some ⟨B, O, none⟩), .pointer (some ⟨g, o, none⟩), .pointer (some ⟨f, p, none⟩), .pointer (some ⟨h, q, none⟩)] w fun e w' => e = .returned (.tuple #[]) ∧ Put6 g o w w' ∧
      ∃ s0 s1 s2 s3 s4 s5, L6 w' g o s0 s1 s2 s3 s4 s5 ∧ Lim6 s0 s1 s2 s3 s4 s5 ∧ n6 s0 s1 s2 s3 s4 s5 = (n6 x0 x1 x2 x3 x4 x5 + n6 y0 y1 y2 y3 y4 y5) % n6 p0 p1 p2 p3 p4 p5 := by
  have C1 := Lib.hid (fplus_c w hx hy lx ly hz hf a1 a2)
  have C2 : Hid (∀ (w' : World), Put6 g o w w' → ∀ s0 s1 s2 s3 s4 s5, L6 w' g o s0 s1 s2 s3 s4 s5 → Lim6 s0 s1 s2 s3 s4 s5 → _) := fun w' k s0 s1 s2 s3 s4 s5 hs ls => flower_c w' (k.apart hp hn) lp hs ls (fun j => (k.frozen j).trans (hf j)) hn
  have HM : Hid (∀ s t, s = (n6 x0 x1 x2 x3 x4 x5 + n6 y0 y1 y2 y3 y4 y5) % 39402006196394479212279040100143613805079739270465446667948293404245721771497210611414266254884915640806627990306816 → LowR s (n6 p0 p1 p2 p3 p4 p5) t → t = (n6 x0 x1 x2 x3 x4 x5 + n6 y0 y1 y2 y3 y4 y5) % n6 p0 p1 p2 p3 p4 p5) := by
    show ∀ s t, _
    generalize n6 x0 x1 x2 x3 x4 x5 = x at *
    generalize n6 y0 y1 y2 y3 y4 y5 = y at *
    generalize n6 p0 p1 p2 p3 p4 p5 = P at *
    intro s t hs ht
    rw [Nat.mod_eq_of_lt (by omega)] at hs
    by_cases hlt : s < P
    · rw [ht.1 hlt, ← hs, Nat.mod_eq_of_lt hlt]
    · have e := ht.2 hlt
      rw [← hs, ← e, Nat.add_mod_right, Nat.mod_eq_of_lt (by omega)]
  clear hp lp hx hy lx ly hz hf a1 a2 hn bx by_ bp
  go_enter Tryd.func53, Tryd.ntmps53
  go_wp2_with fail
  (with_reducible refine (C1.out).mono ?_)
  rintro e w1 ⟨rfl, hput, s0, s1, s2, s3, s4, s5, hs, ls, hr⟩
  have HP := Lib.hid hput
  have HR := Lib.hid hr
  have C3 := Lib.hid (C2.out w1 hput s0 s1 s2 s3 s4 s5 hs ls)
  clear hs hput hr ls C2
  go_wp2_with fail
  (with_reducible refine (C3.out).mono ?_)
  rintro e w2 ⟨rfl, hput, t0, t1, t2, t3, t4, t5, hs, ls, hr⟩
  have HP2 := Lib.hid hput
  have HR2 := Lib.hid hr
  have HS := Lib.hid hs
  have HLS := Lib.hid ls
  clear hs hput hr ls C3
  go_wp2_with fail
  go_end0
  exact ⟨rfl, HP.out.trans HP2.out, _, _, _, _, _, _, HS.out, HLS.out, HM.out _ _ HR.out HR2.out⟩

set_option maxRecDepth 100000 in
set_option maxHeartbeats 3200000 in
theorem fsub_c {B O g o f p h q p0 p1 p2 p3 p4 p5 x0 x1 x2 x3 x4 x5 y0 y1 y2 y3 y4 y5 : Nat} (w : World) (hp : L6 w B O p0 p1 p2 p3 p4 p5) (lp : Lim6 p0 p1 p2 p3 p4 p5) (hx : L6 w f p x0 x1 x2 x3 x4 x5) (hy : L6 w h q y0 y1 y2 y3 y4 y5) (lx : Lim6 x0 x1 x2 x3 x4 x5) (ly : Lim6 y0 y1 y2 y3 y4 y5)
    (hz : ∃ z0 z1 z2 z3 z4 z5, L6 w g o z0 z1 z2 z3 z4 z5) (hf : ∀ k, w.frozen? ⟨g, k, none⟩ = false) (a1 : Apart g o f p) (a2 : Apart g o h q) (hn : g ≠ B)
    (by_ : n6 y0 y1 y2 y3 y4 y5 < n6 p0 p1 p2 p3 p4 p5) :
    Calls Tryd.prog 57 #[.pointer (some ⟨B, O, none⟩), .pointer (some ⟨g, o, none⟩), .pointer (some ⟨f, p, none⟩), .pointer (some ⟨h, q, none⟩)] w fun e w' => e = .returned (.tuple #[]) ∧ Put6 g o w w' ∧
      ∃ s0 s1 s2 s3 s4 s5, L6 w' g o s0 s1 s2 s3 s4 s5 ∧ Lim6 s0 s1 s2 s3 s4 s5 ∧ (n6 x0 x1 x2 x3 x4 x5 < n6 y0 y1 y2 y3 y4 y5 → n6 s0 s1 s2 s3 s4 s5 + n6 y0 y1 y2 y3 y4 y5 = n6 x0 x1 x2 x3 x4 x5 + n6 p0 p1 p2 p3 p4 p5) ∧ (¬ n6 x0 x1 x2 x3 x4 x5 < n6 y0 y1 y2 y3 y4 y5 → n6 s0 s1 s2 s3 s4 s5 + n6 y0 y1 y2 y3 y4 y5 = n6 x0 x1 x2 x3 x4 x5) := by
  have C1 := Lib.hid (fminus_c w hx hy lx ly hz hf a1 a2)
  have C2 : Hid (∀ (w' : World), Put6 g o w w' → ∀ s0 s1 s2 s3 s4 s5, L6 w' g o s0 s1 s2 s3 s4 s5 → Lim6 s0 s1 s2 s3 s4 s5 → _) := fun w' k s0 s1 s2 s3 s4 s5 hs ls => fplus_c w' hs (k.apart hp hn) ls lp ⟨_, _, _, _, _, _, hs⟩ (fun j => (k.frozen j).trans (hf j)) (Or.inl ⟨rfl, rfl⟩) (Or.inr hn)
  have HLP := Lib.hid (n6_lim lp)
  have HLX := Lib.hid (n6_lim lx)
  by_cases hlt : n6 x0 x1 x2 x3 x4 x5 < n6 y0 y1 y2 y3 y4 y5
  · have HD := Lib.hid (decide_eq_true hlt)
    have HN := Lib.hid hlt
    have HY := Lib.hid by_
    clear hlt hp lp hx hy lx ly hz hf a1 a2 hn by_
    go_enter Tryd.func57, Tryd.ntmps57
    go_wp2_with fail
    (with_reducible refine (C1.out).mono ?_)
    rintro e w1 ⟨he, hput, s0, s1, s2, s3, s4, s5, hs, ls, hr⟩
    rw [HD.out] at he
    subst he
    have HP := Lib.hid hput
    have HR := Lib.hid hr
    have C3 := Lib.hid (C2.out w1 hput s0 s1 s2 s3 s4 s5 hs ls)
    clear hs hput hr ls C2
    go_wp2_with fail
    (with_reducible refine (C3.out).mono ?_)
    rintro e w2 ⟨rfl, hput, t0, t1, t2, t3, t4, t5, hs, ls, hr⟩
    have HP2 := Lib.hid hput
    have HR2 := Lib.hid hr
    have HS := Lib.hid hs
    have HLS := Lib.hid ls
    clear hs hput hr ls C3
    go_wp2_with fail
    go_end0
    refine ⟨rfl, HP.out.trans HP2.out, _, _, _, _, _, _, HS.out, HLS.out, fun h => ?_, fun h => absurd HN.out h⟩
    have r1 := HR.out.1 HN.out
    have r2 := HR2.out
    have l1 := HLP.out
    have l2 := HLX.out
    have l3 := HY.out
    clear HP HP2 HS HLS C1 HD HR HR2 HLP HLX HY HN
    generalize n6 x0 x1 x2 x3 x4 x5 = x at *
    generalize n6 y0 y1 y2 y3 y4 y5 = y at *
    generalize n6 p0 p1 p2 p3 p4 p5 = P at *
    generalize n6 s0 s1 s2 s3 s4 s5 = s at *
    generalize n6 t0 t1 t2 t3 t4 t5 = t at *
    omega
  · have HD := Lib.hid (decide_eq_false hlt)
    have HN := Lib.hid hlt
    clear hlt hp lp hx hy lx ly hz hf a1 a2 hn by_ C2
    go_enter Tryd.func57, Tryd.ntmps57
    go_wp2_with fail
    (with_reducible refine (C1.out).mono ?_)
    rintro e w1 ⟨he, hput, s0, s1, s2, s3, s4, s5, hs, ls, hr⟩
    rw [HD.out] at he
    subst he
    have HP := Lib.hid hput
    have HR := Lib.hid hr
    have HS := Lib.hid hs
    have HLS := Lib.hid ls
    clear hs hput hr ls
    go_wp2_with fail
    go_end0
    exact ⟨rfl, HP.out, _, _, _, _, _, _, HS.out, HLS.out, fun h => absurd h HN.out, fun h => HR.out.2 h⟩
end Go.Proofs.YteaafnjflghlhaaDoor
