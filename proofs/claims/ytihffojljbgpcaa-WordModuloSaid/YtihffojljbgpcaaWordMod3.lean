/- The contract of package word's Mulmod. -/
import Derived.Test.YtihffojljbgpcaaRelKW
namespace Go.Proofs.Ytihffojljbgpcaa.RK
open Go.RowKit

theorem mulmod_big {n c : Nat} (h : Big c) : Big (if c = 0 then 0 else n % c) := by
  unfold Big at *
  split
  · omega
  · exact Nat.lt_trans (Nat.mod_lt _ (by omega)) h

set_option maxRecDepth 100000 in
set_option maxHeartbeats 3200000 in
theorem mulmod_c {a b c : Nat} (ha : Big a) (hb : Big b) (hc : Big c) (w : World) : Calls Try.prog 54 #[W a, W b, W c] w (RetW (if c = 0 then 0 else a * b % c) w) := by
  have iA := isW_lim ha
  have iB := isW_lim hb
  have iC := isW_lim hc
  obtain ⟨R, hR⟩ : ∃ R, R = if c = 0 then 0 else a * b % c := ⟨_, rfl⟩
  obtain ⟨Q, hQ⟩ : ∃ Q, Q = a * b / c := ⟨_, rfl⟩
  rw [← hR]
  have HR := Lib.hid hR
  have HQ := Lib.hid hQ
  clear hR hQ
  go_enter Try.func54, Try.ntmps54
  go_wp2_with fail
  obtain ⟨gA, gB, gC, gR, gS, gW⟩ := start4 w 24 (lim 0 a) (lim 1 a) (lim 2 a) (lim 3 a) (lim 0 b) (lim 1 b) (lim 2 b) (lim 3 b) (lim 0 c) (lim 1 c) (lim 2 c) (lim 3 c) _ rfl
  generalize (((w.alloc (.cells #[.int .u64 (lim 0 a : Nat), .int .u64 (lim 1 a : Nat), .int .u64 (lim 2 a : Nat), .int .u64 (lim 3 a : Nat)] 24)).alloc (.cells #[.int .u64 (lim 0 b : Nat), .int .u64 (lim 1 b : Nat), .int .u64 (lim 2 b : Nat), .int .u64 (lim 3 b : Nat)] 24)).alloc (.cells #[.int .u64 (lim 0 c : Nat), .int .u64 (lim 1 c : Nat), .int .u64 (lim 2 c : Nat), .int .u64 (lim 3 c : Nat)] 24)).alloc (.cells #[.int .u64 0, .int .u64 0, .int .u64 0, .int .u64 0] 24) = X at *
  refine wp_region_rel (R := Kept X.heap.size) 11 [(10, (.is (W a))), (11, (.is (W b))), (12, .lng (a * b)), (13, (.is (W c))), (14, .qr Q R), (9, .qr Q R), (15, .lng Q), (16, (.is (W R))), (7, .pnt X.heap.size 94 8), (8, .pnt X.heap.size 24 4)] (by kernel_rfl) (by kernel_rfl) ?_ ?_
  · refine relOps_cons ?_ (relOps_cons ?_ (relOps_cons ?_ (relOps_cons ?_ (relOps_cons ?_ (relOps_cons ?_ (relOps_cons ?_ (relOps_cons ?_ (relOps_cons ?_ (relOps_cons ?_ (relOps_cons ?_ relOps_nil))))))))))
    · intro w' hb'
      refine relAsk_out (by rfl) ?_
      refine relAsk_nil ?_
      refine relStep_go (by rfl) ?_
      obtain ⟨x0, x1, x2, x3⟩ := (gA.below hb'.1 gA.lt).cells4
      clear gA gB gC gR
      go_simp
      exact rel_val rfl
    · intro w' hb'
      refine relAsk_out (by rfl) ?_
      refine relAsk_nil ?_
      refine relStep_go (by rfl) ?_
      obtain ⟨x0, x1, x2, x3⟩ := (gB.below hb'.1 gB.lt).cells4
      clear gA gB gC gR
      go_simp
      exact rel_val rfl
    · intro w' hb'
      refine relAsk_in (by rfl) ?_
      intro v10 h10
      obtain rfl : v10 = (W a) := h10
      refine relAsk_in (by rfl) ?_
      intro v11 h11
      obtain rfl : v11 = (W b) := h11
      refine relAsk_nil ?_
      refine relStep_go (by rfl) ?_
      have hB' : X.heap.size ≤ w'.heap.size := hb'.1.size
      go_simp
      exact rel_callL hB' (product_c iA iB _) (fun _ _ h => h)
    · intro w' hb'
      refine relAsk_out (by rfl) ?_
      refine relAsk_nil ?_
      refine relStep_go (by rfl) ?_
      obtain ⟨x0, x1, x2, x3⟩ := (gC.below hb'.1 gC.lt).cells4
      clear gA gB gC gR
      go_simp
      exact rel_val rfl
    · intro w' hb'
      refine relAsk_in (by rfl) ?_
      intro v12 h12
      refine relAsk_in (by rfl) ?_
      intro v13 h13
      obtain rfl : v13 = (W c) := h13
      refine relAsk_nil ?_
      refine relStep_go (by rfl) ?_
      have hB' : X.heap.size ≤ w'.heap.size := hb'.1.size
      obtain ⟨p0, p1, p2, p3, p4, p5, p6, p7, rfl, lp, hp⟩ := h12
      have hD := divide_c lp iC w'
      rw [hp, ← HR.out, ← HQ.out] at hD
      go_simp
      exact rel_callQ hB' hD (fun _ _ h => h)
    · intro w' hb'
      refine relAsk_in (by rfl) ?_
      intro v14 h14
      refine relAsk_nil ?_
      refine relStep_go (by rfl) ?_
      go_simp
      exact rel_val h14
    · intro w' hb'
      refine relAsk_in (by rfl) ?_
      intro v9 h9
      refine relAsk_nil ?_
      refine relStep_go (by rfl) ?_
      obtain ⟨x, rfl, hx⟩ := h9
      go_simp
      exact rel_val hx
    · intro w' hb'
      refine relAsk_in (by rfl) ?_
      intro v9 h9
      refine relAsk_nil ?_
      refine relStep_go (by rfl) ?_
      obtain ⟨x, rfl, hx⟩ := h9
      go_simp
      exact rel_val rfl
    · intro w' hb'
      refine relAsk_nil ?_
      refine relStep_go (by rfl) ?_
      have hB' : X.heap.size ≤ w'.heap.size := hb'.1.size
      go_simp
      exact ⟨kept_alloc hB' _, _, rfl, hB', _, rfl, Arr.new8z _ _⟩
    · intro w' hb'
      refine relAsk_nil ?_
      refine relStep_go (by rfl) ?_
      have hB' : X.heap.size ≤ w'.heap.size := hb'.1.size
      go_simp
      exact ⟨kept_alloc hB' _, _, rfl, hB', _, rfl, Arr.new4z _ _⟩
    · intro w' hb'
      refine relAsk_in (by rfl) ?_
      intro v7 h7
      refine relAsk_in (by rfl) ?_
      intro v15 h15
      refine relAsk_nil ?_
      refine relStep_go (by rfl) ?_
      obtain ⟨c0, c1, c2, c3, c4, c5, c6, c7, rfl, lc, hc'⟩ := h15
      obtain ⟨g, rfl, hg, hs⟩ := h7
      obtain ⟨x0, x1, x2, x3, x4, x5, x6, x7, hx⟩ := hs.cells8
      obtain ⟨a0, a1, a2, a3, a4, a5, a6, a7⟩ := hx.cells8
      obtain ⟨b0, b1, b2, b3, b4, b5, b6, b7⟩ := hx.free8
      clear hx gA gB gC gR lc hc'
      go_simp
      exact rel_skip (kept_put8 hg hs) trivial
  · intro w' hb'
    refine relAsk_in (by rfl) ?_
    intro v10 h10
    obtain rfl : v10 = (W a) := h10
    refine relAsk_in (by rfl) ?_
    intro v11 h11
    obtain rfl : v11 = (W b) := h11
    refine relAsk_in (by rfl) ?_
    intro v12 h12
    refine relAsk_in (by rfl) ?_
    intro v13 h13
    obtain rfl : v13 = (W c) := h13
    refine relAsk_in (by rfl) ?_
    intro v14 h14
    refine relAsk_in (by rfl) ?_
    intro v9 h9
    refine relAsk_in (by rfl) ?_
    intro v15 h15
    refine relAsk_in (by rfl) ?_
    intro v16 h16
    obtain rfl : v16 = (W R) := h16
    refine relAsk_in (by rfl) ?_
    intro v7 h7
    refine relAsk_in (by rfl) ?_
    intro v8 h8
    refine relAsk_nil ?_
    obtain ⟨g8, rfl, hg8, n8⟩ := h8
    obtain ⟨z0, z1, z2, z3, m8⟩ := n8.cells4
    have kR := gR.below hb'.1 gR.lt
    have kW := gW.trans (hb'.1.mono (by omega))
    have neR8 : w.heap.size + 1 + 1 + 1 ≠ g8 := by omega
    have lt8 : w.heap.size ≤ g8 := by omega
    obtain ⟨c0, c1, c2, c3⟩ := m8.cells4
    obtain ⟨d0, d1, d2, d3⟩ := m8.free4
    clear gA gB gC gR iA iB iC hb' h15 h9 h14 h12 h7 hg8 n8
    go_upto_region 2 with (fail)
    have k8 := m8.put4 (lim 0 R) (lim 1 R) (lim 2 R) (lim 3 R)
    have kR := kR.far4 (f := g8) neR8 (.int .u64 ((lim 0 R : Nat) : Int)) (.int .u64 ((lim 1 R : Nat) : Int)) (.int .u64 ((lim 2 R : Nat) : Int)) (.int .u64 ((lim 3 R : Nat) : Int))
    have kW := below_put4 kW (f := g8) lt8 (.int .u64 ((lim 0 R : Nat) : Int)) (.int .u64 ((lim 1 R : Nat) : Int)) (.int .u64 ((lim 2 R : Nat) : Int)) (.int .u64 ((lim 3 R : Nat) : Int))
    clear c0 c1 c2 c3 d0 d1 d2 d3 m8
    generalize (((w'.setCell ⟨g8, 0, none⟩ (.int .u64 ((lim 0 R : Nat) : Int))).setCell ⟨g8, 1, none⟩ (.int .u64 ((lim 1 R : Nat) : Int))).setCell ⟨g8, 2, none⟩ (.int .u64 ((lim 2 R : Nat) : Int))).setCell ⟨g8, 3, none⟩ (.int .u64 ((lim 3 R : Nat) : Int)) = Y at *
    have iR : IsW (lim 0 R) (lim 1 R) (lim 2 R) (lim 3 R) R := isW_lim (by rw [HR.out]; exact mulmod_big hc)
    obtain ⟨c0, c1, c2, c3⟩ := k8.cells4
    obtain ⟨y0, y1, y2, y3⟩ := kR.cells4
    obtain ⟨f0, f1, f2, f3⟩ := kR.free4
    clear k8 kR HR HQ ha hb hc
    go_wp2_with fail
    refine bodyPost_ret (v := W R) (by simp [results, Try.results54, go_sem, y0, y1, y2, y3]) rfl ⟨_, _, _, _, rfl, iR, ?_⟩
    repeat (first | exact kW | refine Below.setCell ?_ (by simp; try omega) _)
end Go.Proofs.Ytihffojljbgpcaa.RK
