/- The contract of package word's Wide. -/
import Derived.Test.YtihffojljbgpcaaProduct
import Derived.Test.YtihffojljbgpcaaDivide
import Derived.Deep.RegionHeld3
namespace Go.Proofs.Ytihffojljbgpcaa
open Go.RowKit

def RetWide (n : Nat) (w : World) (e : Ending) (w' : World) : Prop := ∃ h0 h1 h2 h3 l0 l1 l2 l3 : Nat, e = .returned (.tuple #[W4 h0 h1 h2 h3, W4 l0 l1 l2 l3]) ∧
  IsW h0 h1 h2 h3 (n / 115792089237316195423570985008687907853269984665640564039457584007913129639936) ∧ IsW l0 l1 l2 l3 (n % 115792089237316195423570985008687907853269984665640564039457584007913129639936) ∧ Below w.heap.size w w'

theorem wide_math {p0 p1 p2 p3 p4 p5 p6 p7 n : Nat} (hl : Lims [p0, p1, p2, p3, p4, p5, p6, p7]) (hv : vl [p0, p1, p2, p3, p4, p5, p6, p7] = n) :
    IsW p4 p5 p6 p7 (n / 115792089237316195423570985008687907853269984665640564039457584007913129639936) ∧ vl [p0, p1, p2, p3] = n % 115792089237316195423570985008687907853269984665640564039457584007913129639936 := by
  have hh : IsW p4 p5 p6 p7 (vl [p4, p5, p6, p7]) := isW_val (fun x hx => hl x (by simp at hx ⊢; omega))
  have hlo : IsW p0 p1 p2 p3 (vl [p0, p1, p2, p3]) := isW_val (fun x hx => hl x (by simp at hx ⊢; omega))
  have hb := hlo.big
  unfold Big at hb
  have e : n = vl [p0, p1, p2, p3] + 115792089237316195423570985008687907853269984665640564039457584007913129639936 * vl [p4, p5, p6, p7] := by
    rw [← hv]
    simp only [vl]
    grind
  generalize vl [p0, p1, p2, p3] = L at *
  generalize vl [p4, p5, p6, p7] = H at *
  clear hv
  have e1 : n / 115792089237316195423570985008687907853269984665640564039457584007913129639936 = H := by omega
  have e2 : n % 115792089237316195423570985008687907853269984665640564039457584007913129639936 = L := by omega
  rw [e1, e2]
  exact ⟨hh, rfl⟩

set_option maxRecDepth 100000 in
set_option maxHeartbeats 2000000 in
theorem wide_c {a0 a1 a2 a3 b0 b1 b2 b3 a b : Nat} (ha : IsW a0 a1 a2 a3 a) (hb : IsW b0 b1 b2 b3 b) (w : World) :
    Calls Try.prog 36 #[W4 a0 a1 a2 a3, W4 b0 b1 b2 b3] w (RetWide (a * b) w) := by
  go_enter Try.func36, Try.ntmps36
  go_wp2_with fail
  obtain ⟨gA, gB, gR, gS, gW⟩ := start3 w 24 a0 a1 a2 a3 b0 b1 b2 b3 _ rfl
  generalize ((w.alloc (.cells #[.int .u64 (a0 : Nat), .int .u64 (a1 : Nat), .int .u64 (a2 : Nat), .int .u64 (a3 : Nat)] 24)).alloc (.cells #[.int .u64 (b0 : Nat), .int .u64 (b1 : Nat), .int .u64 (b2 : Nat), .int .u64 (b3 : Nat)] 24)).alloc (.cells #[.int .u64 0, .int .u64 0, .int .u64 0, .int .u64 0] 24) = X at *
  have hH := gR.alloc (.cells #[.int .u64 0, .int .u64 0, .int .u64 0, .int .u64 0] 24)
  have hL := Arr.new4z X 24
  rw [gS] at hL
  have hW := gW.alloc (by omega) (.cells #[.int .u64 0, .int .u64 0, .int .u64 0, .int .u64 0] 24)
  have hS : (X.alloc (.cells #[.int .u64 0, .int .u64 0, .int .u64 0, .int .u64 0] 24)).heap.size = w.heap.size + 1 + 1 + 1 + 1 := by simp [gS]
  generalize X.alloc (.cells #[.int .u64 0, .int .u64 0, .int .u64 0, .int .u64 0] 24) = Y at *
  refine (product_c ha hb _).mono ?_
  rintro e w2 ⟨p0, p1, p2, p3, p4, p5, p6, p7, rfl, lp, hp, hb2⟩
  obtain ⟨hhi, hlo⟩ := wide_math lp hp
  have HLO := Lib.hid hlo
  clear hp hlo
  have kH := hH.below hb2 hH.lt
  have kL := hL.below hb2 hL.lt
  have kW := hW.trans (hb2.mono (by omega))
  have kS := kL.lt
  go_wp2_with fail
  have mP := Arr.new8 w2 94 p0 p1 p2 p3 p4 p5 p6 p7
  have mH := kH.alloc (.cells #[.int .u64 (p0 : Nat), .int .u64 (p1 : Nat), .int .u64 (p2 : Nat), .int .u64 (p3 : Nat), .int .u64 (p4 : Nat), .int .u64 (p5 : Nat), .int .u64 (p6 : Nat), .int .u64 (p7 : Nat)] 94)
  have mL := kL.alloc (.cells #[.int .u64 (p0 : Nat), .int .u64 (p1 : Nat), .int .u64 (p2 : Nat), .int .u64 (p3 : Nat), .int .u64 (p4 : Nat), .int .u64 (p5 : Nat), .int .u64 (p6 : Nat), .int .u64 (p7 : Nat)] 94)
  have mW := kW.alloc (by omega) (.cells #[.int .u64 (p0 : Nat), .int .u64 (p1 : Nat), .int .u64 (p2 : Nat), .int .u64 (p3 : Nat), .int .u64 (p4 : Nat), .int .u64 (p5 : Nat), .int .u64 (p6 : Nat), .int .u64 (p7 : Nat)] 94)
  generalize w2.alloc (.cells #[.int .u64 (p0 : Nat), .int .u64 (p1 : Nat), .int .u64 (p2 : Nat), .int .u64 (p3 : Nat), .int .u64 (p4 : Nat), .int .u64 (p5 : Nat), .int .u64 (p6 : Nat), .int .u64 (p7 : Nat)] 94) = Z at *
  obtain ⟨x0, x1, x2, x3, x4, x5, x6, x7⟩ := mP.cells8
  have HHI := Lib.hid hhi
  have ne3 : w2.heap.size ≠ w.heap.size + 1 + 1 := by omega
  have ne4 : w2.heap.size ≠ w.heap.size + 1 + 1 + 1 := by omega
  clear hhi gA gB gR gS gW hH hL hW kH kL kW hb2 hS x0 x1 x2 x3 x4 x5 x6 x7 kS
  obtain ⟨G, hG⟩ : ∃ G, G = w2.heap.size := ⟨_, rfl⟩
  rw [← hG] at mP ne3 ne4 ⊢
  clear hG
  obtain ⟨x0, x1, x2, x3, x4, x5, x6, x7⟩ := mP.cells8
  go_region_held3 (fun w' => w'.cell? ⟨G, 0, none⟩ = some (.int .u64 (p0 : Nat)) ∧ w'.cell? ⟨G, 1, none⟩ = some (.int .u64 (p1 : Nat)) ∧ w'.cell? ⟨G, 2, none⟩ = some (.int .u64 (p2 : Nat)) ∧ w'.cell? ⟨G, 3, none⟩ = some (.int .u64 (p3 : Nat)) ∧ w'.cell? ⟨G, 4, none⟩ = some (.int .u64 (p4 : Nat)) ∧ w'.cell? ⟨G, 5, none⟩ = some (.int .u64 (p5 : Nat)) ∧ w'.cell? ⟨G, 6, none⟩ = some (.int .u64 (p6 : Nat)) ∧ w'.cell? ⟨G, 7, none⟩ = some (.int .u64 (p7 : Nat)))
    (first | (with_reducible exact mP.drew.cells8) | (with_reducible exact mP.cells8) | (with_reducible exact n1.cells8) | (with_reducible exact (n1.far4 ne3 _ _ _ _).cells8) | (with_reducible exact ((n1.far4 ne3 _ _ _ _).far4 ne4 _ _ _ _).cells8))
    (first
      | (go_at_call 108; refine (low_c lp _).mono ?_; rintro e w3 ⟨r0, r1, r2, r3, rfl, hr, hb3⟩
         have n1 := mP.drew.below hb3 mP.drew.lt
         have n2 := mH.drew.below hb3 mH.drew.lt
         have n3 := mL.drew.below hb3 mL.drew.lt
         obtain ⟨y0, y1, y2, y3, y4, y5, y6, y7⟩ := n1.cells8
         obtain ⟨z0, z1, z2, z3⟩ := n2.cells4
         obtain ⟨f0, f1, f2, f3⟩ := n2.free4
         obtain ⟨v0, v1, v2, v3⟩ := n3.cells4
         obtain ⟨g0, g1, g2, g3⟩ := n3.free4))
  go_wp2_with fail
  have oB := below_put4 (below_put4 (mW.drew.trans (hb3.mono (Nat.le_of_lt (Nat.lt_trans (by omega) mH.drew.lt)))) (f := w.heap.size + 1 + 1) (by omega) (.int .u64 (p4 : Int)) (.int .u64 (p5 : Int)) (.int .u64 (p6 : Int)) (.int .u64 (p7 : Int))) (f := w.heap.size + 1 + 1 + 1) (by omega) (.int .u64 (r0 : Int)) (.int .u64 (r1 : Int)) (.int .u64 (r2 : Int)) (.int .u64 (r3 : Int))
  have oH := (n2.put4 p4 p5 p6 p7).far4 (f := w.heap.size + 1 + 1 + 1) (by omega) (.int .u64 (r0 : Int)) (.int .u64 (r1 : Int)) (.int .u64 (r2 : Int)) (.int .u64 (r3 : Int))
  have oL := (n3.far4 (f := w.heap.size + 1 + 1) (by omega) (.int .u64 (p4 : Int)) (.int .u64 (p5 : Int)) (.int .u64 (p6 : Int)) (.int .u64 (p7 : Int))).put4 r0 r1 r2 r3
  clear x0 x1 x2 x3 x4 x5 x6 x7 z0 z1 z2 z3 f0 f1 f2 f3 v0 v1 v2 v3 g0 g1 g2 g3 y0 y1 y2 y3 y4 y5 y6 y7
  generalize (((((((w3.setCell ⟨w.heap.size + 1 + 1, 0, none⟩ (.int .u64 (p4 : Int))).setCell ⟨w.heap.size + 1 + 1, 1, none⟩ (.int .u64 (p5 : Int))).setCell ⟨w.heap.size + 1 + 1, 2, none⟩ (.int .u64 (p6 : Int))).setCell ⟨w.heap.size + 1 + 1, 3, none⟩ (.int .u64 (p7 : Int))).setCell ⟨w.heap.size + 1 + 1 + 1, 0, none⟩ (.int .u64 (r0 : Int))).setCell ⟨w.heap.size + 1 + 1 + 1, 1, none⟩ (.int .u64 (r1 : Int))).setCell ⟨w.heap.size + 1 + 1 + 1, 2, none⟩ (.int .u64 (r2 : Int))).setCell ⟨w.heap.size + 1 + 1 + 1, 3, none⟩ (.int .u64 (r3 : Int)) = V at *
  obtain ⟨x0, x1, x2, x3⟩ := oH.cells4
  obtain ⟨y0, y1, y2, y3⟩ := oL.cells4
  exact bodyPost_ret (v := .tuple #[W4 p4 p5 p6 p7, W4 r0 r1 r2 r3]) (by simp [results, Try.results36, go_sem, x0, x1, x2, x3, y0, y1, y2, y3]) rfl
    ⟨p4, p5, p6, p7, r0, r1, r2, r3, rfl, HHI.out, hr.eq HLO.out, oB⟩
end Go.Proofs.Ytihffojljbgpcaa
