/- The law WordPower, by the contracts of Of, Add, Mul and Exp: for any word and any two exponents it answers true. -/
import Derived.Test.YtihffojljbgpcaaWakes
import Derived.Test.YtihffojljbgpcaaWordExp
import Derived.Test.YtihffojljbgpcaaLaid
import Derived.Deep.DeepCutAuto
namespace Go.Proofs.Ytihffojljbgpcaa
open Go.RowKit Go.Sort

set_option maxRecDepth 100000 in
set_option maxHeartbeats 20000000 in
theorem power_c {a : Nat} (ha : Big a) (m n : Nat) (hm : Lim m) (hn : Lim n) (w : World) :
    Calls Try.prog 10 #[W a, .int .u64 m, .int .u64 n] w (RetV (.bool true) w) := by
  have iA := isW_lim ha
  go_enter Try.func10, Try.ntmps10
  go_upto_region 1 with (fail)
  have L : Laid w (w.alloc (.cells #[.int .u64 (lim 0 a), .int .u64 (lim 1 a), .int .u64 (lim 2 a), .int .u64 (lim 3 a)] 24)) [(w.heap.size, a)] := ⟨fun p hp => by (rw [List.mem_singleton.1 hp]; exact Cells.new w _ a), by simp, (Below.refl _ _).alloc (Nat.le_refl _) _⟩
  generalize w.alloc (.cells #[.int .u64 (lim 0 a), .int .u64 (lim 1 a), .int .u64 (lim 2 a), .int .u64 (lim 3 a)] 24) = wr at *
  obtain ⟨l0, hl0⟩ : ∃ l, l = [(w.heap.size, a)] := ⟨_, rfl⟩
  rw [← hl0] at L
  have HM : (w.heap.size, a) ∈ l0 := by rw [hl0]; simp
  clear hl0
  go_upto_region 1 with (fail)
  go_cut [7] (fun v wx => ∃ g : Nat, v = .pointer (some ⟨g, 0, none⟩) ∧ Laid w wx ((g, a ^ m % 115792089237316195423570985008687907853269984665640564039457584007913129639936) :: l0))
  case first =>
    have M0 := L.mid
    have M1 := L.mid1 (.cells #[.int .u64 0, .int .u64 0, .int .u64 0, .int .u64 0] 24)
    have Z1 := (Arr.new4z wr 24).drew
    have CA : Cells wr w.heap.size a := L.1 _ HM
    have hlt : w.heap.size < wr.heap.size := CA.lt
    have hlt1 : w.heap.size < wr.heap.size + 1 := Nat.lt_succ_of_lt hlt
    obtain ⟨x0, x1, x2, x3⟩ := CA
    go_region_with (first
      | (go_at_call 29; refine (of_c m hm _).mono ?_; rintro e w1 ⟨p10, p11, p12, p13, rfl, hp1, hb1⟩
         have N1 : Mid w w1 wr.heap.size l0 := (by first | (with_reducible exact M0.call hb1) | (with_reducible exact M1.call hb1))
         (try (have Y1 : Arr w1 wr.heap.size 24 [0, 0, 0, 0] := (by exact zeros_call Z1 hb1)))
         obtain ⟨x10, x11, x12, x13⟩ := (N1.1 _ HM).2
         have hl1 : w.heap.size < w1.heap.size := (N1.1 _ HM).2.lt
         (try (obtain ⟨ya1, yb1, yc1, yd1⟩ := Y1.cells4))
         (try (obtain ⟨yf1, yg1, yh1, yi1⟩ := Y1.free4))
         (try (obtain ⟨va1, vb1, vc1, vd1⟩ := V1.cells4))
         (try (obtain ⟨vf1, vg1, vh1, vi1⟩ := V1.free4))
         obtain ⟨hc1, hf1, hs1, hn1⟩ := after_ hb1)
      | (go_at_call 56; refine (exp_c iA hp1 _).mono ?_; rintro e w2 ⟨p20, p21, p22, p23, rfl, hp2, hb2⟩
         have N2 : Mid w w2 wr.heap.size l0 := (by first | (with_reducible exact N1.call hb2) | (with_reducible exact (N1.alloc _).call hb2))
         (try (have V2 : Arr w2 w1.heap.size 24 [0, 0, 0, 0] := (by exact zeros_call (Arr.new4z w1 _) hb2)))
         (try (have Y2 : Arr w2 wr.heap.size 24 [0, 0, 0, 0] := (by exact zeros_call Y1 hb2)))
         obtain ⟨x20, x21, x22, x23⟩ := (N2.1 _ HM).2
         have hl2 : w.heap.size < w2.heap.size := (N2.1 _ HM).2.lt
         (try (obtain ⟨ya2, yb2, yc2, yd2⟩ := Y2.cells4))
         (try (obtain ⟨yf2, yg2, yh2, yi2⟩ := Y2.free4))
         (try (obtain ⟨va2, vb2, vc2, vd2⟩ := V2.cells4))
         (try (obtain ⟨vf2, vg2, vh2, vi2⟩ := V2.free4))
         obtain ⟨hc2, hf2, hs2, hn2⟩ := after_ hb2))
    all_goals
      go_wp2_with fail
      go_meet
      obtain ⟨rfl, rfl, rfl, rfl⟩ := hp2.canon
      first
        | (with_reducible exact ⟨_, rfl, laid_late N2 _ _⟩)
        | (refine ⟨_, rfl, ?_⟩; refine laid_early N2 Y2 (Nat.le_refl _) _)
        | (refine ⟨_, rfl, ?_⟩; refine laid_early N2 V2 N1.2.1 _)
  case rest =>
    obtain ⟨g7, rfl, L'⟩ := hcut
    clear L
    have L := L'
    clear L'
    obtain ⟨l7, hl7⟩ : ∃ x, x = (g7, a ^ m % 115792089237316195423570985008687907853269984665640564039457584007913129639936) :: l0 := ⟨_, rfl⟩
    rw [← hl7] at L
    have Hl7 : Hid (l7 = (g7, a ^ m % 115792089237316195423570985008687907853269984665640564039457584007913129639936) :: l0) := hl7
    replace HM : (w.heap.size, a) ∈ l7 := by rw [hl7]; exact List.mem_cons_of_mem _ HM
    clear hl7
    go_upto_region 2 with (fail)
    go_cut [8] (fun v wx => ∃ g : Nat, v = .pointer (some ⟨g, 0, none⟩) ∧ Laid w wx ((g, a ^ n % 115792089237316195423570985008687907853269984665640564039457584007913129639936) :: l7))
    case first =>
      have M0 := L.mid
      have M1 := L.mid1 (.cells #[.int .u64 0, .int .u64 0, .int .u64 0, .int .u64 0] 24)
      have Z1 := (Arr.new4z wc 24).drew
      have CA : Cells wc w.heap.size a := L.1 _ HM
      have hlt : w.heap.size < wc.heap.size := CA.lt
      have hlt1 : w.heap.size < wc.heap.size + 1 := Nat.lt_succ_of_lt hlt
      obtain ⟨x0, x1, x2, x3⟩ := CA
      go_region_with (first
        | (go_at_call 29; refine (of_c n hn _).mono ?_; rintro e w1 ⟨p10, p11, p12, p13, rfl, hp1, hb1⟩
           have N1 : Mid w w1 wc.heap.size l7 := (by first | (with_reducible exact M0.call hb1) | (with_reducible exact M1.call hb1))
           (try (have Y1 : Arr w1 wc.heap.size 24 [0, 0, 0, 0] := (by exact zeros_call Z1 hb1)))
           obtain ⟨x10, x11, x12, x13⟩ := (N1.1 _ HM).2
           have hl1 : w.heap.size < w1.heap.size := (N1.1 _ HM).2.lt
           (try (obtain ⟨ya1, yb1, yc1, yd1⟩ := Y1.cells4))
           (try (obtain ⟨yf1, yg1, yh1, yi1⟩ := Y1.free4))
           (try (obtain ⟨va1, vb1, vc1, vd1⟩ := V1.cells4))
           (try (obtain ⟨vf1, vg1, vh1, vi1⟩ := V1.free4))
           obtain ⟨hc1, hf1, hs1, hn1⟩ := after_ hb1)
        | (go_at_call 56; refine (exp_c iA hp1 _).mono ?_; rintro e w2 ⟨p20, p21, p22, p23, rfl, hp2, hb2⟩
           have N2 : Mid w w2 wc.heap.size l7 := (by first | (with_reducible exact N1.call hb2) | (with_reducible exact (N1.alloc _).call hb2))
           (try (have V2 : Arr w2 w1.heap.size 24 [0, 0, 0, 0] := (by exact zeros_call (Arr.new4z w1 _) hb2)))
           (try (have Y2 : Arr w2 wc.heap.size 24 [0, 0, 0, 0] := (by exact zeros_call Y1 hb2)))
           obtain ⟨x20, x21, x22, x23⟩ := (N2.1 _ HM).2
           have hl2 : w.heap.size < w2.heap.size := (N2.1 _ HM).2.lt
           (try (obtain ⟨ya2, yb2, yc2, yd2⟩ := Y2.cells4))
           (try (obtain ⟨yf2, yg2, yh2, yi2⟩ := Y2.free4))
           (try (obtain ⟨va2, vb2, vc2, vd2⟩ := V2.cells4))
           (try (obtain ⟨vf2, vg2, vh2, vi2⟩ := V2.free4))
           obtain ⟨hc2, hf2, hs2, hn2⟩ := after_ hb2))
      all_goals
        go_wp2_with fail
        go_meet
        obtain ⟨rfl, rfl, rfl, rfl⟩ := hp2.canon
        first
          | (with_reducible exact ⟨_, rfl, laid_late N2 _ _⟩)
          | (refine ⟨_, rfl, ?_⟩; refine laid_early N2 Y2 (Nat.le_refl _) _)
          | (refine ⟨_, rfl, ?_⟩; refine laid_early N2 V2 N1.2.1 _)
    case rest =>
      obtain ⟨g8, rfl, L'⟩ := hcut
      clear L
      have L := L'
      clear L'
      obtain ⟨l8, hl8⟩ : ∃ x, x = (g8, a ^ n % 115792089237316195423570985008687907853269984665640564039457584007913129639936) :: l7 := ⟨_, rfl⟩
      rw [← hl8] at L
      have Hl8 : Hid (l8 = (g8, a ^ n % 115792089237316195423570985008687907853269984665640564039457584007913129639936) :: l7) := hl8
      replace HM : (w.heap.size, a) ∈ l8 := by rw [hl8]; exact List.mem_cons_of_mem _ HM
      clear hl8
      go_upto_region 3 with (fail)
      go_cut [9] (fun v wx => ∃ g : Nat, v = .pointer (some ⟨g, 0, none⟩) ∧ Laid w wx ((g, a ^ ((m + n) % 115792089237316195423570985008687907853269984665640564039457584007913129639936) % 115792089237316195423570985008687907853269984665640564039457584007913129639936) :: l8))
      case first =>
        have M0 := L.mid
        have M1 := L.mid1 (.cells #[.int .u64 0, .int .u64 0, .int .u64 0, .int .u64 0] 24)
        have Z1 := (Arr.new4z wc 24).drew
        have CA : Cells wc w.heap.size a := L.1 _ HM
        have hlt : w.heap.size < wc.heap.size := CA.lt
        have hlt1 : w.heap.size < wc.heap.size + 1 := Nat.lt_succ_of_lt hlt
        obtain ⟨x0, x1, x2, x3⟩ := CA
        go_region_with (first
          | (go_at_call_of 29 m; refine (of_c m hm _).mono ?_; rintro e w1 ⟨p10, p11, p12, p13, rfl, hp1, hb1⟩
             have N1 : Mid w w1 wc.heap.size l8 := (by first | (with_reducible exact M0.call hb1) | (with_reducible exact M1.call hb1))
             (try (have Y1 : Arr w1 wc.heap.size 24 [0, 0, 0, 0] := (by exact zeros_call Z1 hb1)))
             obtain ⟨x10, x11, x12, x13⟩ := (N1.1 _ HM).2
             have hl1 : w.heap.size < w1.heap.size := (N1.1 _ HM).2.lt
             (try (obtain ⟨ya1, yb1, yc1, yd1⟩ := Y1.cells4))
             (try (obtain ⟨yf1, yg1, yh1, yi1⟩ := Y1.free4))
             (try (obtain ⟨va1, vb1, vc1, vd1⟩ := V1.cells4))
             (try (obtain ⟨vf1, vg1, vh1, vi1⟩ := V1.free4))
             obtain ⟨hc1, hf1, hs1, hn1⟩ := after_ hb1)
          | (go_at_call_of 29 n; refine (of_c n hn _).mono ?_; rintro e w2 ⟨p20, p21, p22, p23, rfl, hp2, hb2⟩
             have N2 : Mid w w2 wc.heap.size l8 := (by first | (with_reducible exact N1.call hb2) | (with_reducible exact (N1.alloc _).call hb2))
             (try (have V2 : Arr w2 w1.heap.size 24 [0, 0, 0, 0] := (by exact zeros_call (Arr.new4z w1 _) hb2)))
             (try (have Y2 : Arr w2 wc.heap.size 24 [0, 0, 0, 0] := (by exact zeros_call Y1 hb2)))
             obtain ⟨x20, x21, x22, x23⟩ := (N2.1 _ HM).2
             have hl2 : w.heap.size < w2.heap.size := (N2.1 _ HM).2.lt
             (try (obtain ⟨ya2, yb2, yc2, yd2⟩ := Y2.cells4))
             (try (obtain ⟨yf2, yg2, yh2, yi2⟩ := Y2.free4))
             (try (obtain ⟨va2, vb2, vc2, vd2⟩ := V2.cells4))
             (try (obtain ⟨vf2, vg2, vh2, vi2⟩ := V2.free4))
             obtain ⟨hc2, hf2, hs2, hn2⟩ := after_ hb2)
          | (go_at_call 38; refine (add_c hp1 hp2 _).mono ?_; rintro e w3 ⟨p30, p31, p32, p33, rfl, hp3, hb3⟩
             have N3 : Mid w w3 wc.heap.size l8 := (by first | (with_reducible exact N2.call hb3) | (with_reducible exact (N2.alloc _).call hb3))
             (try (have V3 : Arr w3 w2.heap.size 24 [0, 0, 0, 0] := (by exact zeros_call (Arr.new4z w2 _) hb3)))
             (try (have Y3 : Arr w3 wc.heap.size 24 [0, 0, 0, 0] := (by exact zeros_call Y2 hb3)))
             (try (have V3 : Arr w3 w1.heap.size 24 [0, 0, 0, 0] := (by exact zeros_call V2 hb3)))
             obtain ⟨x30, x31, x32, x33⟩ := (N3.1 _ HM).2
             have hl3 : w.heap.size < w3.heap.size := (N3.1 _ HM).2.lt
             (try (obtain ⟨ya3, yb3, yc3, yd3⟩ := Y3.cells4))
             (try (obtain ⟨yf3, yg3, yh3, yi3⟩ := Y3.free4))
             (try (obtain ⟨va3, vb3, vc3, vd3⟩ := V3.cells4))
             (try (obtain ⟨vf3, vg3, vh3, vi3⟩ := V3.free4))
             obtain ⟨hc3, hf3, hs3, hn3⟩ := after_ hb3)
          | (go_at_call 56; refine (exp_c iA hp3 _).mono ?_; rintro e w4 ⟨p40, p41, p42, p43, rfl, hp4, hb4⟩
             have N4 : Mid w w4 wc.heap.size l8 := (by first | (with_reducible exact N3.call hb4) | (with_reducible exact (N3.alloc _).call hb4))
             (try (have V4 : Arr w4 w3.heap.size 24 [0, 0, 0, 0] := (by exact zeros_call (Arr.new4z w3 _) hb4)))
             (try (have Y4 : Arr w4 wc.heap.size 24 [0, 0, 0, 0] := (by exact zeros_call Y3 hb4)))
             (try (have V4 : Arr w4 w1.heap.size 24 [0, 0, 0, 0] := (by exact zeros_call V3 hb4)))
             (try (have V4 : Arr w4 w2.heap.size 24 [0, 0, 0, 0] := (by exact zeros_call V3 hb4)))
             obtain ⟨x40, x41, x42, x43⟩ := (N4.1 _ HM).2
             have hl4 : w.heap.size < w4.heap.size := (N4.1 _ HM).2.lt
             (try (obtain ⟨ya4, yb4, yc4, yd4⟩ := Y4.cells4))
             (try (obtain ⟨yf4, yg4, yh4, yi4⟩ := Y4.free4))
             (try (obtain ⟨va4, vb4, vc4, vd4⟩ := V4.cells4))
             (try (obtain ⟨vf4, vg4, vh4, vi4⟩ := V4.free4))
             obtain ⟨hc4, hf4, hs4, hn4⟩ := after_ hb4))
        all_goals
          go_wp2_with fail
          go_meet
          obtain ⟨rfl, rfl, rfl, rfl⟩ := hp4.canon
          first
            | (with_reducible exact ⟨_, rfl, laid_late N4 _ _⟩)
            | (refine ⟨_, rfl, ?_⟩; refine laid_early N4 Y4 (Nat.le_refl _) _)
            | (refine ⟨_, rfl, ?_⟩; refine laid_early N4 V4 N1.2.1 _)
            | (refine ⟨_, rfl, ?_⟩; refine laid_early N4 V4 N2.2.1 _)
            | (refine ⟨_, rfl, ?_⟩; refine laid_early N4 V4 N3.2.1 _)
      case rest =>
        obtain ⟨g9, rfl, L'⟩ := hcut
        clear L
        have L := L'
        clear L'
        obtain ⟨l9, hl9⟩ : ∃ x, x = (g9, a ^ ((m + n) % 115792089237316195423570985008687907853269984665640564039457584007913129639936) % 115792089237316195423570985008687907853269984665640564039457584007913129639936) :: l8 := ⟨_, rfl⟩
        rw [← hl9] at L
        have Hl9 : Hid (l9 = (g9, a ^ ((m + n) % 115792089237316195423570985008687907853269984665640564039457584007913129639936) % 115792089237316195423570985008687907853269984665640564039457584007913129639936) :: l8) := hl9
        replace HM : (w.heap.size, a) ∈ l9 := by rw [hl9]; exact List.mem_cons_of_mem _ HM
        clear hl9
        have C7 : Cells wc g7 (a ^ m % 115792089237316195423570985008687907853269984665640564039457584007913129639936) := L.1 _ (by rw [Hl9.out, Hl8.out, Hl7.out]; exact List.mem_cons_of_mem _ (List.mem_cons_of_mem _ List.mem_cons_self))
        have C8 : Cells wc g8 (a ^ n % 115792089237316195423570985008687907853269984665640564039457584007913129639936) := L.1 _ (by rw [Hl9.out, Hl8.out]; exact List.mem_cons_of_mem _ List.mem_cons_self)
        have C9 : Cells wc g9 (a ^ ((m + n) % 115792089237316195423570985008687907853269984665640564039457584007913129639936) % 115792089237316195423570985008687907853269984665640564039457584007913129639936) := L.1 _ (by rw [Hl9.out]; exact List.mem_cons_self)
        have CA : Cells wc w.heap.size a := L.1 _ HM
        have e9 : a ^ m % 115792089237316195423570985008687907853269984665640564039457584007913129639936 * (a ^ n % 115792089237316195423570985008687907853269984665640564039457584007913129639936) % 115792089237316195423570985008687907853269984665640564039457584007913129639936 = a ^ ((m + n) % 115792089237316195423570985008687907853269984665640564039457584007913129639936) % 115792089237316195423570985008687907853269984665640564039457584007913129639936 := by
          rw [← Nat.mul_mod, ← Nat.pow_add, Nat.mod_eq_of_lt (show m + n < 115792089237316195423570985008687907853269984665640564039457584007913129639936 by unfold Lim at hm hn; omega)]
        have e0 : a ^ 0 % 115792089237316195423570985008687907853269984665640564039457584007913129639936 = 1 := by rw [Nat.pow_zero]
        have e1 : a ^ 1 % 115792089237316195423570985008687907853269984665640564039457584007913129639936 = a := by rw [Nat.pow_one]; exact Nat.mod_eq_of_lt ha
        obtain ⟨X, hX⟩ : ∃ X, X = a ^ m % 115792089237316195423570985008687907853269984665640564039457584007913129639936 := ⟨_, rfl⟩
        obtain ⟨Y, hY⟩ : ∃ Y, Y = a ^ n % 115792089237316195423570985008687907853269984665640564039457584007913129639936 := ⟨_, rfl⟩
        obtain ⟨Zn, hZ⟩ : ∃ Z, Z = a ^ ((m + n) % 115792089237316195423570985008687907853269984665640564039457584007913129639936) % 115792089237316195423570985008687907853269984665640564039457584007913129639936 := ⟨_, rfl⟩
        rw [← hX] at C7 e9
        rw [← hY] at C8 e9
        rw [← hZ] at C9 e9
        have iX : IsW (lim 0 X) (lim 1 X) (lim 2 X) (lim 3 X) X := isW_lim (by rw [hX]; exact big_mod _)
        have iY : IsW (lim 0 Y) (lim 1 Y) (lim 2 Y) (lim 3 Y) Y := isW_lim (by rw [hY]; exact big_mod _)
        have c7 := fun d os => C7.grown d os
        have c8 := fun d os => C8.grown d os
        have c9 := fun d os => C9.grown d os
        have ca := fun d os => CA.grown d os
        simp only [Cells] at c7 c8 c9 ca
        have i0 : IsW 0 0 0 0 0 := by unfold IsW; omega
        have i1 : IsW (lim 0 1) (lim 1 1) (lim 2 1) (lim 3 1) 1 := isW_lim (by unfold Big; omega)
        have kM : ∀ d os, Calls Try.prog 42 #[W X, W Y] (grow (redrawn wc d) os) fun e w'' => e = .returned (W Zn) ∧ ∃ p : Regrown, w'' = grow (redrawn wc p.d) p.os := fun d os => Calls.quietW ((mul_c iX iY _).mono fun _ _ h => by rw [← e9]; exact h)
        have k0 : ∀ d os, Calls Try.prog 56 #[W a, .agg #[.int .u64 0, .int .u64 0, .int .u64 0, .int .u64 0]] (grow (redrawn wc d) os) fun e w'' => e = .returned (W 1) ∧ ∃ p : Regrown, w'' = grow (redrawn wc p.d) p.os := fun d os => Calls.quietW ((exp_c iA i0 _).mono fun _ _ h => by rw [← e0]; exact h)
        have k1 : ∀ d os, Calls Try.prog 56 #[W a, W 1] (grow (redrawn wc d) os) fun e w'' => e = .returned (W a) ∧ ∃ p : Regrown, w'' = grow (redrawn wc p.d) p.os := fun d os => Calls.quietW ((exp_c iA i1 _).mono fun _ _ h => by rw [e1] at h; exact h)
        have kO : ∀ d os, Calls Try.prog 29 #[.int .u64 1] (grow (redrawn wc d) os) fun e w'' => e = .returned (W 1) ∧ ∃ p : Regrown, w'' = grow (redrawn wc p.d) p.os := fun d os => Calls.quietW (of_c 1 (by unfold Lim; omega) _)
        have kW : ∀ d os, Calls Try.prog 35 #[] (grow (redrawn wc d) os) fun e w'' => e = .returned (.bool true) ∧ ∃ p : Regrown, w'' = grow (redrawn wc p.d) p.os := fun d os => Calls.quietV (wakes_c _)
        have qZ : ∀ w, (Op.equalIn 10000 24 (W Zn) (W Zn)).run Try.prog w = .ok true w := eqIn_same _ _ _ _
        have q1 : ∀ w, (Op.equalIn 10000 24 (W 1) (W 1)).run Try.prog w = .ok true w := eqIn_same _ _ _ _
        have qa : ∀ w, (Op.equalIn 10000 24 (W a) (W a)).run Try.prog w = .ok true w := eqIn_same _ _ _ _
        have bel := L.2.2
        have sz := L.2.1
        clear hX hY hZ e9 e0 e1 C7 C8 C9 CA L iX iY i0 i1 iA
        go_upto_region 4 with (fail)
        refine wp_region_quiet_below (by kernel_rfl) (by kernel_rfl) ?_
        repeat (quiet_step (first | (with_reducible exact kM _ _) | (with_reducible exact k0 _ _) | (with_reducible exact k1 _ _) | (with_reducible exact kO _ _) | (with_reducible exact kW _ _)))
        refine wpQuiet_nil ?_
        intro _ hw'
        obtain ⟨⟨dq, osq⟩, hw''⟩ := hw'
        subst hw''
        go_wp2_with fail
        go_ret
        exact ⟨rfl, bel.trans ((below_regrown wc dq osq).mono sz)⟩
end Go.Proofs.Ytihffojljbgpcaa
