/- The contracts of package word's Sdiv and Smod. -/
import Derived.Test.YtihffojljbgpcaaSigned
import Derived.Test.YtihffojljbgpcaaRelKW
import Derived.Test.YtihffojljbgpcaaFacts
namespace Go.Proofs.Ytihffojljbgpcaa
open Go.RowKit

/-- Is the signed value below 0? -/
def sgn (a : Nat) : Bool := decide (57896044618658097711785492504343953926634992332820282019728792003956564819968 ≤ a)
/-- The signed value without its sign. -/
def siz (a : Nat) : Nat := if 57896044618658097711785492504343953926634992332820282019728792003956564819968 ≤ a then 115792089237316195423570985008687907853269984665640564039457584007913129639936 - a else a
theorem siz_big {a : Nat} (h : Big a) : Big (siz a) := by
  unfold Big at *
  unfold siz
  split <;> omega
theorem mod0_big {a b : Nat} (h : Big a) : Big (if b = 0 then 0 else a % b) := by
  unfold Big at *
  split
  · omega
  · exact Nat.lt_of_le_of_lt (Nat.mod_le _ _) h
/-- A number with a sign. -/
def sig (t : Bool) (q : Nat) : Nat := if t = true then (115792089237316195423570985008687907853269984665640564039457584007913129639936 - q) % 115792089237316195423570985008687907853269984665640564039457584007913129639936 else q
theorem siz_W {a : Nat} (h : Big a) (w : World) : Calls Try.prog 116 #[W a] w (RetW (siz a) w) := size_c (isW_lim h) w
theorem sgn_W {a : Nat} (h : Big a) (w : World) : Calls Try.prog 117 #[W a] w (RetV (.bool (sgn a)) w) := negative_c (isW_lim h) w
theorem neg_W {a : Nat} (h : Big a) (w : World) : Calls Try.prog 118 #[W a] w (RetW (sig true a) w) := neg_c (isW_lim h) w
end Go.Proofs.Ytihffojljbgpcaa
namespace Go.Proofs.Ytihffojljbgpcaa.RK
open Go.RowKit

set_option maxRecDepth 100000 in
set_option maxHeartbeats 3200000 in
theorem smod_c {a b q : Nat} (ha : Big a) (hb : Big b) (hq : q = if siz b = 0 then 0 else siz a % siz b) (w : World) : Calls Try.prog 50 #[W a, W b] w (RetW (sig (sgn a) q) w) := by
  have bQ : Big q := by rw [hq]; exact mod0_big (siz_big ha)
  obtain ⟨t, ht⟩ : ∃ t, t = (sgn a) := ⟨_, rfl⟩
  rw [← ht]
  have bA := siz_big ha
  have bB := siz_big hb
  have hN : ∀ w, Calls Try.prog 118 #[.agg #[.int .u64 (lim 0 q : Nat), .int .u64 (lim 1 q : Nat), .int .u64 (lim 2 q : Nat), .int .u64 (lim 3 q : Nat)]] w (RetW (sig true q) w) := fun w => neg_W bQ w
  have hS : IsW (lim 0 (sig true q)) (lim 1 (sig true q)) (lim 2 (sig true q)) (lim 3 (sig true q)) (sig true q) := isW_lim (by unfold sig; rw [if_pos rfl]; exact big_mod _)
  have hI : IsW (lim 0 q) (lim 1 q) (lim 2 q) (lim 3 q) q := isW_lim bQ
  have KN := Lib.hid hN
  have iS := Lib.hid hS
  have iQ := Lib.hid hI
  have HA := Lib.hid ha
  have HBB := Lib.hid hb
  have HT := Lib.hid ht
  clear hN hS hI bQ ht ha hb
  have HQ := Lib.hid hq
  clear hq
  go_enter Try.func50, Try.ntmps50
  go_wp2_with fail
  obtain ⟨gA, gB, gR, gS, gW⟩ := start3 w 24 (lim 0 a) (lim 1 a) (lim 2 a) (lim 3 a) (lim 0 b) (lim 1 b) (lim 2 b) (lim 3 b) _ rfl
  generalize ((w.alloc (.cells #[.int .u64 (lim 0 a : Nat), .int .u64 (lim 1 a : Nat), .int .u64 (lim 2 a : Nat), .int .u64 (lim 3 a : Nat)] 24)).alloc (.cells #[.int .u64 (lim 0 b : Nat), .int .u64 (lim 1 b : Nat), .int .u64 (lim 2 b : Nat), .int .u64 (lim 3 b : Nat)] 24)).alloc (.cells #[.int .u64 0, .int .u64 0, .int .u64 0, .int .u64 0] 24) = X at *
  refine wp_region_rel (R := Kept X.heap.size) 6 [(6, (.is (W a))), (7, (.is (W (siz a)))), (8, (.is (W b))), (9, (.is (W (siz b)))), (10, (.is (W (q)))), (5, .pnt X.heap.size 24 4)] (by kernel_rfl) (by kernel_rfl) ?_ ?_
  · refine relOps_cons ?_ (relOps_cons ?_ (relOps_cons ?_ (relOps_cons ?_ (relOps_cons ?_ (relOps_cons ?_ relOps_nil)))))
    · intro w' hb'
      refine relAsk_out (by rfl) ?_
      refine relAsk_nil ?_
      refine relStep_go (by rfl) ?_
      obtain ⟨x0, x1, x2, x3⟩ := (gA.below hb'.1 gA.lt).cells4
      clear gA gB gR
      go_simp
      exact rel_val rfl
    · intro w' hb'
      refine relAsk_in (by rfl) ?_
      intro v6 h6
      obtain rfl : v6 = (W a) := h6
      refine relAsk_nil ?_
      refine relStep_go (by rfl) ?_
      have hB' : X.heap.size ≤ w'.heap.size := hb'.1.size
      go_simp
      exact rel_callW hB' (siz_W HA.out _) (fun _ => rfl)
    · intro w' hb'
      refine relAsk_out (by rfl) ?_
      refine relAsk_nil ?_
      refine relStep_go (by rfl) ?_
      obtain ⟨x0, x1, x2, x3⟩ := (gB.below hb'.1 gB.lt).cells4
      clear gA gB gR
      go_simp
      exact rel_val rfl
    · intro w' hb'
      refine relAsk_in (by rfl) ?_
      intro v8 h8
      obtain rfl : v8 = (W b) := h8
      refine relAsk_nil ?_
      refine relStep_go (by rfl) ?_
      have hB' : X.heap.size ≤ w'.heap.size := hb'.1.size
      go_simp
      exact rel_callW hB' (siz_W HBB.out _) (fun _ => rfl)
    · intro w' hb'
      refine relAsk_in (by rfl) ?_
      intro v7 h7
      obtain rfl : v7 = (W (siz a)) := h7
      refine relAsk_in (by rfl) ?_
      intro v9 h9
      obtain rfl : v9 = (W (siz b)) := h9
      refine relAsk_nil ?_
      refine relStep_go (by rfl) ?_
      have hB' : X.heap.size ≤ w'.heap.size := hb'.1.size
      go_simp
      exact rel_callW hB' (by rw [HQ.out]; exact mod_c (isW_lim bA) (isW_lim bB) _) (fun _ => rfl)
    · intro w' hb'
      refine relAsk_nil ?_
      refine relStep_go (by rfl) ?_
      have hB' : X.heap.size ≤ w'.heap.size := hb'.1.size
      go_simp
      exact ⟨kept_alloc hB' _, _, rfl, hB', _, rfl, Arr.new4z _ _⟩
  · intro w' hb'
    refine relAsk_in (by rfl) ?_
    intro v6 h6
    obtain rfl : v6 = (W a) := h6
    refine relAsk_in (by rfl) ?_
    intro v7 h7
    obtain rfl : v7 = (W (siz a)) := h7
    refine relAsk_in (by rfl) ?_
    intro v8 h8
    obtain rfl : v8 = (W b) := h8
    refine relAsk_in (by rfl) ?_
    intro v9 h9
    obtain rfl : v9 = (W (siz b)) := h9
    refine relAsk_in (by rfl) ?_
    intro v10 h10
    obtain rfl : v10 = (W (q)) := h10
    refine relAsk_in (by rfl) ?_
    intro v5 h5
    refine relAsk_nil ?_
    obtain ⟨g5, rfl, hg5, n5⟩ := h5
    obtain ⟨z0, z1, z2, z3, m5⟩ := n5.cells4
    have gA := gA.below hb'.1 gA.lt
    have gB := gB.below hb'.1 gB.lt
    have gR := gR.below hb'.1 gR.lt
    have gW := gW.trans (hb'.1.mono (by omega))
    have neA : w.heap.size ≠ g5 := by omega
    have neB : w.heap.size + 1 ≠ g5 := by omega
    have neR : w.heap.size + 1 + 1 ≠ g5 := by omega
    have lt5 : w.heap.size ≤ g5 := by omega
    obtain ⟨c0, c1, c2, c3⟩ := m5.cells4
    obtain ⟨d0, d1, d2, d3⟩ := m5.free4
    clear hb' hg5 n5 gS
    go_upto_region 2 with (fail)
    have m5 := m5.put4 (lim 0 q) (lim 1 q) (lim 2 q) (lim 3 q)
    have gA := gA.far4 (f := g5) neA (.int .u64 ((lim 0 q : Nat) : Int)) (.int .u64 ((lim 1 q : Nat) : Int)) (.int .u64 ((lim 2 q : Nat) : Int)) (.int .u64 ((lim 3 q : Nat) : Int))
    have gB := gB.far4 (f := g5) neB (.int .u64 ((lim 0 q : Nat) : Int)) (.int .u64 ((lim 1 q : Nat) : Int)) (.int .u64 ((lim 2 q : Nat) : Int)) (.int .u64 ((lim 3 q : Nat) : Int))
    have gR := gR.far4 (f := g5) neR (.int .u64 ((lim 0 q : Nat) : Int)) (.int .u64 ((lim 1 q : Nat) : Int)) (.int .u64 ((lim 2 q : Nat) : Int)) (.int .u64 ((lim 3 q : Nat) : Int))
    have gW := below_put4 gW (f := g5) lt5 (.int .u64 ((lim 0 q : Nat) : Int)) (.int .u64 ((lim 1 q : Nat) : Int)) (.int .u64 ((lim 2 q : Nat) : Int)) (.int .u64 ((lim 3 q : Nat) : Int))
    clear c0 c1 c2 c3 d0 d1 d2 d3
    generalize (((w'.setCell ⟨g5, 0, none⟩ (.int .u64 ((lim 0 q : Nat) : Int))).setCell ⟨g5, 1, none⟩ (.int .u64 ((lim 1 q : Nat) : Int))).setCell ⟨g5, 2, none⟩ (.int .u64 ((lim 2 q : Nat) : Int))).setCell ⟨g5, 3, none⟩ (.int .u64 ((lim 3 q : Nat) : Int)) = Y at *
    obtain ⟨x0, x1, x2, x3⟩ := gA.cells4
    have hng : ∀ w, Calls Try.prog 117 #[.agg #[.int .u64 (lim 0 a : Nat), .int .u64 (lim 1 a : Nat), .int .u64 (lim 2 a : Nat), .int .u64 (lim 3 a : Nat)]] w (RetV (.bool t) w) := fun w => by have h := sgn_W HA.out w; rw [← HT.out] at h; exact h
    have HNG := Lib.hid hng
    clear hng
    try go_wp2_with fail
    clear x0 x1 x2 x3
    (with_reducible refine (HNG.out _).mono ?_)
    rintro e w1 ⟨rfl, hb1⟩
    have gR := gR.below hb1 gR.lt
    have gW := gW.trans (hb1.mono gW.size)
    have m5 := m5.below hb1 m5.lt
    clear hb1 HNG HT
    obtain ⟨e0, e1, e2, e3⟩ := m5.cells4
    cases t with
    | true =>
      go_wp2_with fail
      (with_reducible refine (KN.out _).mono ?_)
      rintro e w2 hw
      obtain ⟨rfl, hb2⟩ := hw.val
      have kR := gR.below hb2 gR.lt
      have kW := gW.trans (hb2.mono gW.size)
      clear e0 e1 e2 e3 gR gA gB m5 hw
      obtain ⟨y0, y1, y2, y3⟩ := kR.cells4
      obtain ⟨f0, f1, f2, f3⟩ := kR.free4
      go_wp2_with fail
      refine bodyPost_ret (v := W (sig true q)) (by simp [results, Try.results50, go_sem, y0, y1, y2, y3]) rfl ⟨_, _, _, _, rfl, iS.out, ?_⟩
      repeat (first | exact kW | refine Below.setCell ?_ (by simp; try omega) _)
    | false =>
      obtain ⟨y0, y1, y2, y3⟩ := gR.cells4
      obtain ⟨f0, f1, f2, f3⟩ := gR.free4
      go_wp2_with fail
      refine bodyPost_ret (v := W q) (by simp [results, Try.results50, go_sem, y0, y1, y2, y3]) rfl ⟨_, _, _, _, rfl, iQ.out, ?_⟩
      repeat (first | exact gW | refine Below.setCell ?_ (by simp; try omega) _)
set_option maxRecDepth 100000 in
set_option maxHeartbeats 3200000 in
theorem sdiv_c {a b q : Nat} (ha : Big a) (hb : Big b) (hq : q = siz a / siz b) (w : World) : Calls Try.prog 48 #[W a, W b] w (RetW (sig (sgn a != sgn b) q) w) := by
  have bQ : Big q := by rw [hq]; exact Nat.lt_of_le_of_lt (Nat.div_le_self _ _) (siz_big ha)
  obtain ⟨t, ht⟩ : ∃ t, t = (sgn a != sgn b) := ⟨_, rfl⟩
  rw [← ht]
  have bA := siz_big ha
  have bB := siz_big hb
  have hN : ∀ w, Calls Try.prog 118 #[.agg #[.int .u64 (lim 0 q : Nat), .int .u64 (lim 1 q : Nat), .int .u64 (lim 2 q : Nat), .int .u64 (lim 3 q : Nat)]] w (RetW (sig true q) w) := fun w => neg_W bQ w
  have hS : IsW (lim 0 (sig true q)) (lim 1 (sig true q)) (lim 2 (sig true q)) (lim 3 (sig true q)) (sig true q) := isW_lim (by unfold sig; rw [if_pos rfl]; exact big_mod _)
  have hI : IsW (lim 0 q) (lim 1 q) (lim 2 q) (lim 3 q) q := isW_lim bQ
  have KN := Lib.hid hN
  have iS := Lib.hid hS
  have iQ := Lib.hid hI
  have HA := Lib.hid ha
  have HBB := Lib.hid hb
  have HT := Lib.hid ht
  clear hN hS hI bQ ht ha hb
  have HQ := Lib.hid hq
  clear hq
  go_enter Try.func48, Try.ntmps48
  go_wp2_with fail
  obtain ⟨gA, gB, gR, gS, gW⟩ := start3 w 24 (lim 0 a) (lim 1 a) (lim 2 a) (lim 3 a) (lim 0 b) (lim 1 b) (lim 2 b) (lim 3 b) _ rfl
  generalize ((w.alloc (.cells #[.int .u64 (lim 0 a : Nat), .int .u64 (lim 1 a : Nat), .int .u64 (lim 2 a : Nat), .int .u64 (lim 3 a : Nat)] 24)).alloc (.cells #[.int .u64 (lim 0 b : Nat), .int .u64 (lim 1 b : Nat), .int .u64 (lim 2 b : Nat), .int .u64 (lim 3 b : Nat)] 24)).alloc (.cells #[.int .u64 0, .int .u64 0, .int .u64 0, .int .u64 0] 24) = X at *
  refine wp_region_rel (R := Kept X.heap.size) 6 [(6, (.is (W a))), (7, (.is (W (siz a)))), (8, (.is (W b))), (9, (.is (W (siz b)))), (10, (.is (W (q)))), (5, .pnt X.heap.size 24 4)] (by kernel_rfl) (by kernel_rfl) ?_ ?_
  · refine relOps_cons ?_ (relOps_cons ?_ (relOps_cons ?_ (relOps_cons ?_ (relOps_cons ?_ (relOps_cons ?_ relOps_nil)))))
    · intro w' hb'
      refine relAsk_out (by rfl) ?_
      refine relAsk_nil ?_
      refine relStep_go (by rfl) ?_
      obtain ⟨x0, x1, x2, x3⟩ := (gA.below hb'.1 gA.lt).cells4
      clear gA gB gR
      go_simp
      exact rel_val rfl
    · intro w' hb'
      refine relAsk_in (by rfl) ?_
      intro v6 h6
      obtain rfl : v6 = (W a) := h6
      refine relAsk_nil ?_
      refine relStep_go (by rfl) ?_
      have hB' : X.heap.size ≤ w'.heap.size := hb'.1.size
      go_simp
      exact rel_callW hB' (siz_W HA.out _) (fun _ => rfl)
    · intro w' hb'
      refine relAsk_out (by rfl) ?_
      refine relAsk_nil ?_
      refine relStep_go (by rfl) ?_
      obtain ⟨x0, x1, x2, x3⟩ := (gB.below hb'.1 gB.lt).cells4
      clear gA gB gR
      go_simp
      exact rel_val rfl
    · intro w' hb'
      refine relAsk_in (by rfl) ?_
      intro v8 h8
      obtain rfl : v8 = (W b) := h8
      refine relAsk_nil ?_
      refine relStep_go (by rfl) ?_
      have hB' : X.heap.size ≤ w'.heap.size := hb'.1.size
      go_simp
      exact rel_callW hB' (siz_W HBB.out _) (fun _ => rfl)
    · intro w' hb'
      refine relAsk_in (by rfl) ?_
      intro v7 h7
      obtain rfl : v7 = (W (siz a)) := h7
      refine relAsk_in (by rfl) ?_
      intro v9 h9
      obtain rfl : v9 = (W (siz b)) := h9
      refine relAsk_nil ?_
      refine relStep_go (by rfl) ?_
      have hB' : X.heap.size ≤ w'.heap.size := hb'.1.size
      go_simp
      exact rel_callW hB' (by rw [HQ.out]; exact div_c (isW_lim bA) (isW_lim bB) _) (fun _ => rfl)
    · intro w' hb'
      refine relAsk_nil ?_
      refine relStep_go (by rfl) ?_
      have hB' : X.heap.size ≤ w'.heap.size := hb'.1.size
      go_simp
      exact ⟨kept_alloc hB' _, _, rfl, hB', _, rfl, Arr.new4z _ _⟩
  · intro w' hb'
    refine relAsk_in (by rfl) ?_
    intro v6 h6
    obtain rfl : v6 = (W a) := h6
    refine relAsk_in (by rfl) ?_
    intro v7 h7
    obtain rfl : v7 = (W (siz a)) := h7
    refine relAsk_in (by rfl) ?_
    intro v8 h8
    obtain rfl : v8 = (W b) := h8
    refine relAsk_in (by rfl) ?_
    intro v9 h9
    obtain rfl : v9 = (W (siz b)) := h9
    refine relAsk_in (by rfl) ?_
    intro v10 h10
    obtain rfl : v10 = (W (q)) := h10
    refine relAsk_in (by rfl) ?_
    intro v5 h5
    refine relAsk_nil ?_
    obtain ⟨g5, rfl, hg5, n5⟩ := h5
    obtain ⟨z0, z1, z2, z3, m5⟩ := n5.cells4
    have gA := gA.below hb'.1 gA.lt
    have gB := gB.below hb'.1 gB.lt
    have gR := gR.below hb'.1 gR.lt
    have gW := gW.trans (hb'.1.mono (by omega))
    have neA : w.heap.size ≠ g5 := by omega
    have neB : w.heap.size + 1 ≠ g5 := by omega
    have neR : w.heap.size + 1 + 1 ≠ g5 := by omega
    have lt5 : w.heap.size ≤ g5 := by omega
    obtain ⟨c0, c1, c2, c3⟩ := m5.cells4
    obtain ⟨d0, d1, d2, d3⟩ := m5.free4
    clear hb' hg5 n5 gS
    go_upto_region 2 with (fail)
    have m5 := m5.put4 (lim 0 q) (lim 1 q) (lim 2 q) (lim 3 q)
    have gA := gA.far4 (f := g5) neA (.int .u64 ((lim 0 q : Nat) : Int)) (.int .u64 ((lim 1 q : Nat) : Int)) (.int .u64 ((lim 2 q : Nat) : Int)) (.int .u64 ((lim 3 q : Nat) : Int))
    have gB := gB.far4 (f := g5) neB (.int .u64 ((lim 0 q : Nat) : Int)) (.int .u64 ((lim 1 q : Nat) : Int)) (.int .u64 ((lim 2 q : Nat) : Int)) (.int .u64 ((lim 3 q : Nat) : Int))
    have gR := gR.far4 (f := g5) neR (.int .u64 ((lim 0 q : Nat) : Int)) (.int .u64 ((lim 1 q : Nat) : Int)) (.int .u64 ((lim 2 q : Nat) : Int)) (.int .u64 ((lim 3 q : Nat) : Int))
    have gW := below_put4 gW (f := g5) lt5 (.int .u64 ((lim 0 q : Nat) : Int)) (.int .u64 ((lim 1 q : Nat) : Int)) (.int .u64 ((lim 2 q : Nat) : Int)) (.int .u64 ((lim 3 q : Nat) : Int))
    clear c0 c1 c2 c3 d0 d1 d2 d3
    generalize (((w'.setCell ⟨g5, 0, none⟩ (.int .u64 ((lim 0 q : Nat) : Int))).setCell ⟨g5, 1, none⟩ (.int .u64 ((lim 1 q : Nat) : Int))).setCell ⟨g5, 2, none⟩ (.int .u64 ((lim 2 q : Nat) : Int))).setCell ⟨g5, 3, none⟩ (.int .u64 ((lim 3 q : Nat) : Int)) = Y at *
    obtain ⟨u, hu⟩ : ∃ u, u = sgn a := ⟨_, rfl⟩
    obtain ⟨v, hv⟩ : ∃ v, v = sgn b := ⟨_, rfl⟩
    have hU : ∀ w, Calls Try.prog 117 #[W a] w (RetV (.bool u) w) := fun w => by rw [hu]; exact sgn_W HA.out w
    have hV : ∀ w, Calls Try.prog 117 #[W b] w (RetV (.bool v) w) := fun w => by rw [hv]; exact sgn_W HBB.out w
    have HU := Lib.hid hU
    have HV := Lib.hid hV
    rw [← hu, ← hv] at HT
    clear hu hv hU hV
    refine Go.Proofs.Ytihffojljbgpcaa.wp_region_rel 5 [(11, (Go.Proofs.Ytihffojljbgpcaa.Fact.is (W a))), (12, (Go.Proofs.Ytihffojljbgpcaa.Fact.is (.bool (u)))), (13, (Go.Proofs.Ytihffojljbgpcaa.Fact.is (W b))), (14, (Go.Proofs.Ytihffojljbgpcaa.Fact.is (.bool (v)))), (15, (Go.Proofs.Ytihffojljbgpcaa.Fact.is (.bool t)))] (by kernel_rfl) (by kernel_rfl) ?_ ?_
    · refine Go.Proofs.Ytihffojljbgpcaa.relOps_cons ?_ (Go.Proofs.Ytihffojljbgpcaa.relOps_cons ?_ (Go.Proofs.Ytihffojljbgpcaa.relOps_cons ?_ (Go.Proofs.Ytihffojljbgpcaa.relOps_cons ?_ (Go.Proofs.Ytihffojljbgpcaa.relOps_cons ?_ Go.Proofs.Ytihffojljbgpcaa.relOps_nil))))
      · intro w' hb'
        refine Go.Proofs.Ytihffojljbgpcaa.relAsk_out (by rfl) ?_
        refine Go.Proofs.Ytihffojljbgpcaa.relAsk_nil ?_
        refine Go.Proofs.Ytihffojljbgpcaa.relStep_go (by rfl) ?_
        obtain ⟨x0, x1, x2, x3⟩ := (gA.below hb' gA.lt).cells4
        clear gA gB gR m5
        go_simp
        exact Go.Proofs.Ytihffojljbgpcaa.rel_val rfl
      · intro w' hb'
        refine Go.Proofs.Ytihffojljbgpcaa.relAsk_in (by rfl) ?_
        intro v11 h11
        obtain rfl : v11 = (W a) := h11
        refine Go.Proofs.Ytihffojljbgpcaa.relAsk_nil ?_
        refine Go.Proofs.Ytihffojljbgpcaa.relStep_go (by rfl) ?_
        go_simp
        exact Go.Proofs.Ytihffojljbgpcaa.rel_callV (HU.out _) (fun _ => rfl)
      · intro w' hb'
        refine Go.Proofs.Ytihffojljbgpcaa.relAsk_out (by rfl) ?_
        refine Go.Proofs.Ytihffojljbgpcaa.relAsk_nil ?_
        refine Go.Proofs.Ytihffojljbgpcaa.relStep_go (by rfl) ?_
        obtain ⟨x0, x1, x2, x3⟩ := (gB.below hb' gB.lt).cells4
        clear gA gB gR m5
        go_simp
        exact Go.Proofs.Ytihffojljbgpcaa.rel_val rfl
      · intro w' hb'
        refine Go.Proofs.Ytihffojljbgpcaa.relAsk_in (by rfl) ?_
        intro v13 h13
        obtain rfl : v13 = (W b) := h13
        refine Go.Proofs.Ytihffojljbgpcaa.relAsk_nil ?_
        refine Go.Proofs.Ytihffojljbgpcaa.relStep_go (by rfl) ?_
        go_simp
        exact Go.Proofs.Ytihffojljbgpcaa.rel_callV (HV.out _) (fun _ => rfl)
      · intro w' hb'
        refine Go.Proofs.Ytihffojljbgpcaa.relAsk_in (by rfl) ?_
        intro v12 h12
        obtain rfl : v12 = (.bool (u)) := h12
        refine Go.Proofs.Ytihffojljbgpcaa.relAsk_in (by rfl) ?_
        intro v14 h14
        obtain rfl : v14 = (.bool (v)) := h14
        refine Go.Proofs.Ytihffojljbgpcaa.relAsk_nil ?_
        refine Go.Proofs.Ytihffojljbgpcaa.relStep_go (by rfl) ?_
        rw [HT.out]
        clear KN iS iQ HU HV HT gA gB gR gW m5
        cases u <;> cases v <;> (go_simp; exact Go.Proofs.Ytihffojljbgpcaa.rel_val rfl)
    · intro w' hb'
      refine Go.Proofs.Ytihffojljbgpcaa.relAsk_in (by rfl) ?_
      intro v11 h11
      obtain rfl : v11 = (W a) := h11
      refine Go.Proofs.Ytihffojljbgpcaa.relAsk_in (by rfl) ?_
      intro v12 h12
      obtain rfl : v12 = (.bool (u)) := h12
      refine Go.Proofs.Ytihffojljbgpcaa.relAsk_in (by rfl) ?_
      intro v13 h13
      obtain rfl : v13 = (W b) := h13
      refine Go.Proofs.Ytihffojljbgpcaa.relAsk_in (by rfl) ?_
      intro v14 h14
      obtain rfl : v14 = (.bool (v)) := h14
      refine Go.Proofs.Ytihffojljbgpcaa.relAsk_in (by rfl) ?_
      intro v15 h15
      obtain rfl : v15 = (.bool t) := h15
      refine Go.Proofs.Ytihffojljbgpcaa.relAsk_nil ?_
      refine wpList_nil ?_
      have gR := gR.below hb' gR.lt
      have gW := gW.trans (hb'.mono gW.size)
      have m5 := m5.below hb' m5.lt
      clear hb' HU HV HT
      go_simp
      obtain ⟨e0, e1, e2, e3⟩ := m5.cells4
      cases t with
      | true =>
        go_wp2_with fail
        (with_reducible refine (KN.out _).mono ?_)
        rintro e w2 hw
        obtain ⟨rfl, hb2⟩ := hw.val
        have kR := gR.below hb2 gR.lt
        have kW := gW.trans (hb2.mono gW.size)
        clear e0 e1 e2 e3 gR gA gB m5 hw
        obtain ⟨y0, y1, y2, y3⟩ := kR.cells4
        obtain ⟨f0, f1, f2, f3⟩ := kR.free4
        go_wp2_with fail
        refine bodyPost_ret (v := W (sig true q)) (by simp [results, Try.results48, go_sem, y0, y1, y2, y3]) rfl ⟨_, _, _, _, rfl, iS.out, ?_⟩
        repeat (first | exact kW | refine Below.setCell ?_ (by simp; try omega) _)
      | false =>
        obtain ⟨y0, y1, y2, y3⟩ := gR.cells4
        obtain ⟨f0, f1, f2, f3⟩ := gR.free4
        go_wp2_with fail
        refine bodyPost_ret (v := W q) (by simp [results, Try.results48, go_sem, y0, y1, y2, y3]) rfl ⟨_, _, _, _, rfl, iQ.out, ?_⟩
        repeat (first | exact gW | refine Below.setCell ?_ (by simp; try omega) _)
end Go.Proofs.Ytihffojljbgpcaa.RK
