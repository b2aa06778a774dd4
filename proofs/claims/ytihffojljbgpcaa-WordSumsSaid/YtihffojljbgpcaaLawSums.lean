/- The law WordSums, by the contracts of its callees. -/
import Derived.Test.YtihffojljbgpcaaOps
import Derived.Test.YtihffojljbgpcaaRef1
import Derived.Test.YtihffojljbgpcaaRef2
import Derived.Test.YtihffojljbgpcaaWide
import Derived.Test.YtihffojljbgpcaaWordMul
import Derived.Test.YtihffojljbgpcaaWakes
namespace Go.Proofs.Ytihffojljbgpcaa
open Go.RowKit

set_option maxRecDepth 100000 in
set_option maxHeartbeats 12800000 in
theorem sums_c {a b c : Nat} (ha : Big a) (hb : Big b) (w : World) : Calls Try.prog 4 #[V3 a b c] w (RetV (.bool true) w) := by
  have iA := isW_lim ha
  have iB := isW_lim hb
  obtain ⟨p, hp⟩ : ∃ p, p = a * b / 115792089237316195423570985008687907853269984665640564039457584007913129639936 := ⟨_, rfl⟩
  obtain ⟨q, hq⟩ : ∃ q, q = a * b % 115792089237316195423570985008687907853269984665640564039457584007913129639936 := ⟨_, rfl⟩
  obtain ⟨s, hs⟩ : ∃ s, s = (a + b) % 115792089237316195423570985008687907853269984665640564039457584007913129639936 := ⟨_, rfl⟩
  obtain ⟨d, hd⟩ : ∃ d, d = (115792089237316195423570985008687907853269984665640564039457584007913129639936 + a - b) % 115792089237316195423570985008687907853269984665640564039457584007913129639936 := ⟨_, rfl⟩
  obtain ⟨m, hm⟩ : ∃ m, m = a * b % 115792089237316195423570985008687907853269984665640564039457584007913129639936 := ⟨_, rfl⟩
  have hpM : p % 115792089237316195423570985008687907853269984665640564039457584007913129639936 = p := Nat.mod_eq_of_lt (by
    rw [hp]
    refine Nat.div_lt_of_lt_mul ?_
    unfold Big at ha hb
    exact Nat.mul_lt_mul'' ha hb)
  have hqM : q % 115792089237316195423570985008687907853269984665640564039457584007913129639936 = q := by rw [hq]; exact Nat.mod_mod _ _
  have k1 : ∀ w, Calls Try.prog 36 #[W a, W b] w (RetV (.tuple #[W p, W q]) w) := fun w => (wide_c iA iB w).mono fun e w' h => by rw [hp, hq]; exact h.val
  have k2 : ∀ w, Calls Try.prog 37 #[W a, W b] w (RetV (.tuple #[W p, W q]) w) := fun w => by have h := wide1_c ha hb hp hq w; rwa [hpM, hqM] at h
  have k3 : ∀ w, Calls Try.prog 38 #[W a, W b] w (RetW s w) := fun w => by rw [hs]; exact add_c iA iB w
  have k4 : ∀ w, Calls Try.prog 39 #[W a, W b] w (RetW s w) := fun w => by rw [hs]; exact add1_c ha hb w
  have k5 : ∀ w, Calls Try.prog 40 #[W a, W b] w (RetW d w) := fun w => by rw [hd]; exact sub_c iA iB w
  have k6 : ∀ w, Calls Try.prog 41 #[W a, W b] w (RetW d w) := fun w => by rw [hd]; exact sub1_c ha hb w
  have k7 : ∀ w, Calls Try.prog 42 #[W a, W b] w (RetW m w) := fun w => by rw [hm]; exact mul_c iA iB w
  have k8 : ∀ w, Calls Try.prog 43 #[W a, W b] w (RetW m w) := fun w => by rw [hm]; exact mul1_c ha hb w
  have K1 := Lib.hid k1
  have K2 := Lib.hid k2
  have K3 := Lib.hid k3
  have K4 := Lib.hid k4
  have K5 := Lib.hid k5
  have K6 := Lib.hid k6
  have K7 := Lib.hid k7
  have K8 := Lib.hid k8
  have hbx := box3 w a b c
  have hbl : Below w.heap.size w (Box3 w a b c) := (Below.refl _ _).alloc (Nat.le_refl _) _
  obtain ⟨x0, x1, x2, x3⟩ := cells3a hbx
  obtain ⟨y0, y1, y2, y3⟩ := cells3b hbx
  clear hp hq hs hd hm hpM hqM k1 k2 k3 k4 k5 k6 k7 k8 iA iB
  go_enter Try.func4, Try.ntmps4
  go_wp2_with fail
  (with_reducible refine (K1.out _).mono ?_)
  rintro e w1 ⟨rfl, hb1⟩
  have hbx1 := hbx.below hb1 hbx.lt
  have hbl1 := hbl.trans (hb1.mono hbl.size)
  clear x0 x1 x2 x3 y0 y1 y2 y3 hbx hbl hb1
  obtain ⟨x0, x1, x2, x3⟩ := cells3a hbx1
  obtain ⟨y0, y1, y2, y3⟩ := cells3b hbx1
  go_upto_region 2 with (fail)
  have hp1 := (Arr.new4 w1 24 (lim 0 p) (lim 1 p) (lim 2 p) (lim 3 p)).alloc (.cells #[.int .u64 (lim 0 q : Nat), .int .u64 (lim 1 q : Nat), .int .u64 (lim 2 q : Nat), .int .u64 (lim 3 q : Nat)] 24)
  have hq1 := Arr.new4 (w1.alloc (.cells #[.int .u64 (lim 0 p : Nat), .int .u64 (lim 1 p : Nat), .int .u64 (lim 2 p : Nat), .int .u64 (lim 3 p : Nat)] 24)) 24 (lim 0 q) (lim 1 q) (lim 2 q) (lim 3 q)
  rw [show (w1.alloc (.cells #[.int .u64 (lim 0 p : Nat), .int .u64 (lim 1 p : Nat), .int .u64 (lim 2 p : Nat), .int .u64 (lim 3 p : Nat)] 24)).heap.size = w1.heap.size + 1 by simp] at hq1
  have hx2 := (hbx1.alloc (.cells #[.int .u64 (lim 0 p : Nat), .int .u64 (lim 1 p : Nat), .int .u64 (lim 2 p : Nat), .int .u64 (lim 3 p : Nat)] 24)).alloc (.cells #[.int .u64 (lim 0 q : Nat), .int .u64 (lim 1 q : Nat), .int .u64 (lim 2 q : Nat), .int .u64 (lim 3 q : Nat)] 24)
  have hb2 := (hbl1.alloc hbl1.size (.cells #[.int .u64 (lim 0 p : Nat), .int .u64 (lim 1 p : Nat), .int .u64 (lim 2 p : Nat), .int .u64 (lim 3 p : Nat)] 24)).alloc (by have := hbl1.size; simp; omega) (.cells #[.int .u64 (lim 0 q : Nat), .int .u64 (lim 1 q : Nat), .int .u64 (lim 2 q : Nat), .int .u64 (lim 3 q : Nat)] 24)
  obtain ⟨g1, hg1⟩ : ∃ g, g = w1.heap.size := ⟨_, rfl⟩
  rw [← hg1] at hp1 hq1 ⊢
  clear x0 x1 x2 x3 y0 y1 y2 y3 hbx1 hbl1
  generalize (w1.alloc (.cells #[.int .u64 (lim 0 p : Nat), .int .u64 (lim 1 p : Nat), .int .u64 (lim 2 p : Nat), .int .u64 (lim 3 p : Nat)] 24)).alloc (.cells #[.int .u64 (lim 0 q : Nat), .int .u64 (lim 1 q : Nat), .int .u64 (lim 2 q : Nat), .int .u64 (lim 3 q : Nat)] 24) = w2 at *
  clear hg1
  obtain ⟨x0, x1, x2, x3⟩ := cells3a hx2
  obtain ⟨y0, y1, y2, y3⟩ := cells3b hx2
  go_wp2_with fail
  (with_reducible refine (K2.out _).mono ?_)
  rintro e w3 ⟨rfl, hb3⟩
  have hx3 := hx2.below hb3 hx2.lt
  have hp3 := hp1.below hb3 hp1.lt
  have hq3 := hq1.below hb3 hq1.lt
  have hbl3 := hb2.trans (hb3.mono hb2.size)
  clear x0 x1 x2 x3 y0 y1 y2 y3 hx2 hp1 hq1 hb2 hb3
  go_upto_region 3 with (fail)
  have hr1 := (Arr.new4 w3 24 (lim 0 p) (lim 1 p) (lim 2 p) (lim 3 p)).alloc (.cells #[.int .u64 (lim 0 q : Nat), .int .u64 (lim 1 q : Nat), .int .u64 (lim 2 q : Nat), .int .u64 (lim 3 q : Nat)] 24)
  have ht1 := Arr.new4 (w3.alloc (.cells #[.int .u64 (lim 0 p : Nat), .int .u64 (lim 1 p : Nat), .int .u64 (lim 2 p : Nat), .int .u64 (lim 3 p : Nat)] 24)) 24 (lim 0 q) (lim 1 q) (lim 2 q) (lim 3 q)
  rw [show (w3.alloc (.cells #[.int .u64 (lim 0 p : Nat), .int .u64 (lim 1 p : Nat), .int .u64 (lim 2 p : Nat), .int .u64 (lim 3 p : Nat)] 24)).heap.size = w3.heap.size + 1 by simp] at ht1
  have hx := (hx3.alloc (.cells #[.int .u64 (lim 0 p : Nat), .int .u64 (lim 1 p : Nat), .int .u64 (lim 2 p : Nat), .int .u64 (lim 3 p : Nat)] 24)).alloc (.cells #[.int .u64 (lim 0 q : Nat), .int .u64 (lim 1 q : Nat), .int .u64 (lim 2 q : Nat), .int .u64 (lim 3 q : Nat)] 24)
  have hp := (hp3.alloc (.cells #[.int .u64 (lim 0 p : Nat), .int .u64 (lim 1 p : Nat), .int .u64 (lim 2 p : Nat), .int .u64 (lim 3 p : Nat)] 24)).alloc (.cells #[.int .u64 (lim 0 q : Nat), .int .u64 (lim 1 q : Nat), .int .u64 (lim 2 q : Nat), .int .u64 (lim 3 q : Nat)] 24)
  have hq := (hq3.alloc (.cells #[.int .u64 (lim 0 p : Nat), .int .u64 (lim 1 p : Nat), .int .u64 (lim 2 p : Nat), .int .u64 (lim 3 p : Nat)] 24)).alloc (.cells #[.int .u64 (lim 0 q : Nat), .int .u64 (lim 1 q : Nat), .int .u64 (lim 2 q : Nat), .int .u64 (lim 3 q : Nat)] 24)
  have hW := (hbl3.alloc hbl3.size (.cells #[.int .u64 (lim 0 p : Nat), .int .u64 (lim 1 p : Nat), .int .u64 (lim 2 p : Nat), .int .u64 (lim 3 p : Nat)] 24)).alloc (by have := hbl3.size; simp; omega) (.cells #[.int .u64 (lim 0 q : Nat), .int .u64 (lim 1 q : Nat), .int .u64 (lim 2 q : Nat), .int .u64 (lim 3 q : Nat)] 24)
  obtain ⟨g3, hg3⟩ : ∃ g, g = w3.heap.size := ⟨_, rfl⟩
  rw [← hg3] at hr1 ht1 ⊢
  clear hx3 hp3 hq3 hbl3
  generalize (w3.alloc (.cells #[.int .u64 (lim 0 p : Nat), .int .u64 (lim 1 p : Nat), .int .u64 (lim 2 p : Nat), .int .u64 (lim 3 p : Nat)] 24)).alloc (.cells #[.int .u64 (lim 0 q : Nat), .int .u64 (lim 1 q : Nat), .int .u64 (lim 2 q : Nat), .int .u64 (lim 3 q : Nat)] 24) = X at *
  clear hg3
  refine wp_region_see 51 [23, 24, 25, 26, 27, 28, 29, 30, 31, 32, 33, 34, 35, 36, 37, 38, 39, 40, 41, 42, 43, 44, 45, 46, 47, 48, 49, 50, 51, 52, 53, 54, 55, 56, 57, 58, 59, 60, 61, 62, 63, 64, 65, 66, 67, 68, 69, 70, 71, 72, 2] [(23, .is (W p)), (24, .is (W p)), (25, .is (.bool true)), (26, .is (.bool true)), (27, .is (W q)), (28, .is (W q)), (29, .is (.bool true)), (30, .is (.bool true)), (31, .is (.bool true)), (32, .is (.pointer (some ⟨w.heap.size, 0, none⟩))), (33, .is (W a)), (34, .is (.pointer (some ⟨w.heap.size, 4, none⟩))), (35, .is (W b)), (36, .is (W s)), (37, .is (.pointer (some ⟨w.heap.size, 0, none⟩))), (38, .is (W a)), (39, .is (.pointer (some ⟨w.heap.size, 4, none⟩))), (40, .is (W b)), (41, .is (W s)), (42, .is (.bool true)), (43, .is (.bool true)), (44, .is (.bool true)), (45, .is (.pointer (some ⟨w.heap.size, 0, none⟩))), (46, .is (W a)), (47, .is (.pointer (some ⟨w.heap.size, 4, none⟩))), (48, .is (W b)), (49, .is (W d)), (50, .is (.pointer (some ⟨w.heap.size, 0, none⟩))), (51, .is (W a)), (52, .is (.pointer (some ⟨w.heap.size, 4, none⟩))), (53, .is (W b)), (54, .is (W d)), (55, .is (.bool true)), (56, .is (.bool true)), (57, .is (.bool true)), (58, .is (.pointer (some ⟨w.heap.size, 0, none⟩))), (59, .is (W a)), (60, .is (.pointer (some ⟨w.heap.size, 4, none⟩))), (61, .is (W b)), (62, .is (W m)), (63, .is (.pointer (some ⟨w.heap.size, 0, none⟩))), (64, .is (W a)), (65, .is (.pointer (some ⟨w.heap.size, 4, none⟩))), (66, .is (W b)), (67, .is (W m)), (68, .is (.bool true)), (69, .is (.bool true)), (70, .is (.bool true)), (71, .is (.bool true)), (72, .is (.bool true)), (2, .is (.bool true))] (by kernel_rfl) (by kernel_rfl) (by rfl) ?_ ?_
  · refine seeOps_cons ?_ (seeOps_cons ?_ (seeOps_cons ?_ (seeOps_cons ?_ (seeOps_cons ?_ (seeOps_cons ?_ (seeOps_cons ?_ (seeOps_cons ?_ (seeOps_cons ?_ (seeOps_cons ?_ (seeOps_cons ?_ (seeOps_cons ?_ (seeOps_cons ?_ (seeOps_cons ?_ (seeOps_cons ?_ (seeOps_cons ?_ (seeOps_cons ?_ (seeOps_cons ?_ (seeOps_cons ?_ (seeOps_cons ?_ (seeOps_cons ?_ (seeOps_cons ?_ (seeOps_cons ?_ (seeOps_cons ?_ (seeOps_cons ?_ (seeOps_cons ?_ (seeOps_cons ?_ (seeOps_cons ?_ (seeOps_cons ?_ (seeOps_cons ?_ (seeOps_cons ?_ (seeOps_cons ?_ (seeOps_cons ?_ (seeOps_cons ?_ (seeOps_cons ?_ (seeOps_cons ?_ (seeOps_cons ?_ (seeOps_cons ?_ (seeOps_cons ?_ (seeOps_cons ?_ (seeOps_cons ?_ (seeOps_cons ?_ (seeOps_cons ?_ (seeOps_cons ?_ (seeOps_cons ?_ (seeOps_cons ?_ (seeOps_cons ?_ (seeOps_cons ?_ (seeOps_cons ?_ (seeOps_cons ?_ (seeOps_cons ?_ seeOps_nil))))))))))))))))))))))))))))))))))))))))))))))))))
    · intro w' hb' fr hout hin
      have e3 : fr.tmps.getD 3 undef = .pointer (some ⟨g1, 0, none⟩) := hout 3 (by decide)
      clear hout hin
      exact op_load (n := p) (.tmp 3) rfl e3 ((hp.below hb' hp.lt).cells4) (wanted_none rfl) rfl
    · intro w' hb' fr hout hin
      have e5 : fr.tmps.getD 5 undef = .pointer (some ⟨g3, 0, none⟩) := hout 5 (by decide)
      clear hout hin
      exact op_load (n := p) (.tmp 5) rfl e5 ((hr1.below hb' hr1.lt).cells4) (wanted_none rfl) rfl
    · intro w' hb' fr hout hin
      have h23 : fr.tmps.getD 23 undef = W p := hin 23 (by decide) (by decide)
      have h24 : fr.tmps.getD 24 undef = W p := hin 24 (by decide) (by decide)
      clear hout hin
      exact op_eqW (n := p) (.tmp 23) (.tmp 24) _ rfl h23 h24 (wanted_none rfl) rfl
    · intro w' hb' fr hout hin
      have h25 : fr.tmps.getD 25 undef = .bool true := hin 25 (by decide) (by decide)
      clear hout hin
      exact relStep_move (.tmp 25) rfl (wanted_none rfl) (by show fr.tmps.getD 25 undef = _; rw [h25])
    · intro w' hb' fr hout hin
      have e4 : fr.tmps.getD 4 undef = .pointer (some ⟨g1 + 1, 0, none⟩) := hout 4 (by decide)
      have h26 : fr.tmps.getD 26 undef = .bool true := hin 26 (by decide) (by decide)
      clear hout hin
      exact op_load (n := q) (.tmp 4) rfl e4 ((hq.below hb' hq.lt).cells4) (wanted_some (g := 3) (t := 26) (b := true) rfl rfl h26) rfl
    · intro w' hb' fr hout hin
      have e6 : fr.tmps.getD 6 undef = .pointer (some ⟨g3 + 1, 0, none⟩) := hout 6 (by decide)
      have h26 : fr.tmps.getD 26 undef = .bool true := hin 26 (by decide) (by decide)
      clear hout hin
      exact op_load (n := q) (.tmp 6) rfl e6 ((ht1.below hb' ht1.lt).cells4) (wanted_some (g := 3) (t := 26) (b := true) rfl rfl h26) rfl
    · intro w' hb' fr hout hin
      have h27 : fr.tmps.getD 27 undef = W q := hin 27 (by decide) (by decide)
      have h28 : fr.tmps.getD 28 undef = W q := hin 28 (by decide) (by decide)
      have h26 : fr.tmps.getD 26 undef = .bool true := hin 26 (by decide) (by decide)
      clear hout hin
      exact op_eqW (n := q) (.tmp 27) (.tmp 28) _ rfl h27 h28 (wanted_some (g := 3) (t := 26) (b := true) rfl rfl h26) rfl
    · intro w' hb' fr hout hin
      have h26 : fr.tmps.getD 26 undef = .bool true := hin 26 (by decide) (by decide)
      have h29 : fr.tmps.getD 29 undef = .bool true := hin 29 (by decide) (by decide)
      clear hout hin
      exact relStep_pick (.tmp 26) (.tmp 29) (.const (.bool false)) rfl h26 (wanted_none rfl) (by show fr.tmps.getD 29 undef = _; rw [h29])
    · intro w' hb' fr hout hin
      have h30 : fr.tmps.getD 30 undef = .bool true := hin 30 (by decide) (by decide)
      clear hout hin
      exact relStep_move (.tmp 30) rfl (wanted_none rfl) (by show fr.tmps.getD 30 undef = _; rw [h30])
    · intro w' hb' fr hout hin
      have e1 : fr.tmps.getD 1 undef = .pointer (some ⟨w.heap.size, 0, none⟩) := hout 1 (by decide)
      have h31 : fr.tmps.getD 31 undef = .bool true := hin 31 (by decide) (by decide)
      clear hout hin
      exact op_field (.tmp 1) rfl (by omega) e1 (wanted_some (g := 8) (t := 31) (b := true) rfl rfl h31) rfl
    · intro w' hb' fr hout hin
      have h32 : fr.tmps.getD 32 undef = .pointer (some ⟨w.heap.size, 0, none⟩) := hin 32 (by decide) (by decide)
      have h31 : fr.tmps.getD 31 undef = .bool true := hin 31 (by decide) (by decide)
      clear hout hin
      exact op_load (n := a) (.tmp 32) rfl h32 (cells3a (hx.below hb' hx.lt)) (wanted_some (g := 8) (t := 31) (b := true) rfl rfl h31) rfl
    · intro w' hb' fr hout hin
      have e1 : fr.tmps.getD 1 undef = .pointer (some ⟨w.heap.size, 0, none⟩) := hout 1 (by decide)
      have h31 : fr.tmps.getD 31 undef = .bool true := hin 31 (by decide) (by decide)
      clear hout hin
      exact op_field (.tmp 1) rfl (by omega) e1 (wanted_some (g := 8) (t := 31) (b := true) rfl rfl h31) rfl
    · intro w' hb' fr hout hin
      have h34 : fr.tmps.getD 34 undef = .pointer (some ⟨w.heap.size, 4, none⟩) := hin 34 (by decide) (by decide)
      have h31 : fr.tmps.getD 31 undef = .bool true := hin 31 (by decide) (by decide)
      clear hout hin
      exact op_load (n := b) (.tmp 34) rfl h34 (cells3b (hx.below hb' hx.lt)) (wanted_some (g := 8) (t := 31) (b := true) rfl rfl h31) rfl
    · intro w' hb' fr hout hin
      have h33 : fr.tmps.getD 33 undef = W a := hin 33 (by decide) (by decide)
      have h35 : fr.tmps.getD 35 undef = W b := hin 35 (by decide) (by decide)
      have h31 : fr.tmps.getD 31 undef = .bool true := hin 31 (by decide) (by decide)
      clear hout hin
      exact relStep_callW 38 #[W a, W b] (wanted_some (g := 8) (t := 31) (b := true) rfl rfl h31) (K3.out _) (fun _ => rfl) (by have hh := And.intro h33 h35; go_simp)
    · intro w' hb' fr hout hin
      have e1 : fr.tmps.getD 1 undef = .pointer (some ⟨w.heap.size, 0, none⟩) := hout 1 (by decide)
      have h31 : fr.tmps.getD 31 undef = .bool true := hin 31 (by decide) (by decide)
      clear hout hin
      exact op_field (.tmp 1) rfl (by omega) e1 (wanted_some (g := 8) (t := 31) (b := true) rfl rfl h31) rfl
    · intro w' hb' fr hout hin
      have h37 : fr.tmps.getD 37 undef = .pointer (some ⟨w.heap.size, 0, none⟩) := hin 37 (by decide) (by decide)
      have h31 : fr.tmps.getD 31 undef = .bool true := hin 31 (by decide) (by decide)
      clear hout hin
      exact op_load (n := a) (.tmp 37) rfl h37 (cells3a (hx.below hb' hx.lt)) (wanted_some (g := 8) (t := 31) (b := true) rfl rfl h31) rfl
    · intro w' hb' fr hout hin
      have e1 : fr.tmps.getD 1 undef = .pointer (some ⟨w.heap.size, 0, none⟩) := hout 1 (by decide)
      have h31 : fr.tmps.getD 31 undef = .bool true := hin 31 (by decide) (by decide)
      clear hout hin
      exact op_field (.tmp 1) rfl (by omega) e1 (wanted_some (g := 8) (t := 31) (b := true) rfl rfl h31) rfl
    · intro w' hb' fr hout hin
      have h39 : fr.tmps.getD 39 undef = .pointer (some ⟨w.heap.size, 4, none⟩) := hin 39 (by decide) (by decide)
      have h31 : fr.tmps.getD 31 undef = .bool true := hin 31 (by decide) (by decide)
      clear hout hin
      exact op_load (n := b) (.tmp 39) rfl h39 (cells3b (hx.below hb' hx.lt)) (wanted_some (g := 8) (t := 31) (b := true) rfl rfl h31) rfl
    · intro w' hb' fr hout hin
      have h38 : fr.tmps.getD 38 undef = W a := hin 38 (by decide) (by decide)
      have h40 : fr.tmps.getD 40 undef = W b := hin 40 (by decide) (by decide)
      have h31 : fr.tmps.getD 31 undef = .bool true := hin 31 (by decide) (by decide)
      clear hout hin
      exact relStep_callW 39 #[W a, W b] (wanted_some (g := 8) (t := 31) (b := true) rfl rfl h31) (K4.out _) (fun _ => rfl) (by have hh := And.intro h38 h40; go_simp)
    · intro w' hb' fr hout hin
      have h36 : fr.tmps.getD 36 undef = W s := hin 36 (by decide) (by decide)
      have h41 : fr.tmps.getD 41 undef = W s := hin 41 (by decide) (by decide)
      have h31 : fr.tmps.getD 31 undef = .bool true := hin 31 (by decide) (by decide)
      clear hout hin
      exact op_eqW (n := s) (.tmp 36) (.tmp 41) _ rfl h36 h41 (wanted_some (g := 8) (t := 31) (b := true) rfl rfl h31) rfl
    · intro w' hb' fr hout hin
      have h31 : fr.tmps.getD 31 undef = .bool true := hin 31 (by decide) (by decide)
      have h42 : fr.tmps.getD 42 undef = .bool true := hin 42 (by decide) (by decide)
      clear hout hin
      exact relStep_pick (.tmp 31) (.tmp 42) (.const (.bool false)) rfl h31 (wanted_none rfl) (by show fr.tmps.getD 42 undef = _; rw [h42])
    · intro w' hb' fr hout hin
      have h43 : fr.tmps.getD 43 undef = .bool true := hin 43 (by decide) (by decide)
      clear hout hin
      exact relStep_move (.tmp 43) rfl (wanted_none rfl) (by show fr.tmps.getD 43 undef = _; rw [h43])
    · intro w' hb' fr hout hin
      have e1 : fr.tmps.getD 1 undef = .pointer (some ⟨w.heap.size, 0, none⟩) := hout 1 (by decide)
      have h44 : fr.tmps.getD 44 undef = .bool true := hin 44 (by decide) (by decide)
      clear hout hin
      exact op_field (.tmp 1) rfl (by omega) e1 (wanted_some (g := 21) (t := 44) (b := true) rfl rfl h44) rfl
    · intro w' hb' fr hout hin
      have h45 : fr.tmps.getD 45 undef = .pointer (some ⟨w.heap.size, 0, none⟩) := hin 45 (by decide) (by decide)
      have h44 : fr.tmps.getD 44 undef = .bool true := hin 44 (by decide) (by decide)
      clear hout hin
      exact op_load (n := a) (.tmp 45) rfl h45 (cells3a (hx.below hb' hx.lt)) (wanted_some (g := 21) (t := 44) (b := true) rfl rfl h44) rfl
    · intro w' hb' fr hout hin
      have e1 : fr.tmps.getD 1 undef = .pointer (some ⟨w.heap.size, 0, none⟩) := hout 1 (by decide)
      have h44 : fr.tmps.getD 44 undef = .bool true := hin 44 (by decide) (by decide)
      clear hout hin
      exact op_field (.tmp 1) rfl (by omega) e1 (wanted_some (g := 21) (t := 44) (b := true) rfl rfl h44) rfl
    · intro w' hb' fr hout hin
      have h47 : fr.tmps.getD 47 undef = .pointer (some ⟨w.heap.size, 4, none⟩) := hin 47 (by decide) (by decide)
      have h44 : fr.tmps.getD 44 undef = .bool true := hin 44 (by decide) (by decide)
      clear hout hin
      exact op_load (n := b) (.tmp 47) rfl h47 (cells3b (hx.below hb' hx.lt)) (wanted_some (g := 21) (t := 44) (b := true) rfl rfl h44) rfl
    · intro w' hb' fr hout hin
      have h46 : fr.tmps.getD 46 undef = W a := hin 46 (by decide) (by decide)
      have h48 : fr.tmps.getD 48 undef = W b := hin 48 (by decide) (by decide)
      have h44 : fr.tmps.getD 44 undef = .bool true := hin 44 (by decide) (by decide)
      clear hout hin
      exact relStep_callW 40 #[W a, W b] (wanted_some (g := 21) (t := 44) (b := true) rfl rfl h44) (K5.out _) (fun _ => rfl) (by have hh := And.intro h46 h48; go_simp)
    · intro w' hb' fr hout hin
      have e1 : fr.tmps.getD 1 undef = .pointer (some ⟨w.heap.size, 0, none⟩) := hout 1 (by decide)
      have h44 : fr.tmps.getD 44 undef = .bool true := hin 44 (by decide) (by decide)
      clear hout hin
      exact op_field (.tmp 1) rfl (by omega) e1 (wanted_some (g := 21) (t := 44) (b := true) rfl rfl h44) rfl
    · intro w' hb' fr hout hin
      have h50 : fr.tmps.getD 50 undef = .pointer (some ⟨w.heap.size, 0, none⟩) := hin 50 (by decide) (by decide)
      have h44 : fr.tmps.getD 44 undef = .bool true := hin 44 (by decide) (by decide)
      clear hout hin
      exact op_load (n := a) (.tmp 50) rfl h50 (cells3a (hx.below hb' hx.lt)) (wanted_some (g := 21) (t := 44) (b := true) rfl rfl h44) rfl
    · intro w' hb' fr hout hin
      have e1 : fr.tmps.getD 1 undef = .pointer (some ⟨w.heap.size, 0, none⟩) := hout 1 (by decide)
      have h44 : fr.tmps.getD 44 undef = .bool true := hin 44 (by decide) (by decide)
      clear hout hin
      exact op_field (.tmp 1) rfl (by omega) e1 (wanted_some (g := 21) (t := 44) (b := true) rfl rfl h44) rfl
    · intro w' hb' fr hout hin
      have h52 : fr.tmps.getD 52 undef = .pointer (some ⟨w.heap.size, 4, none⟩) := hin 52 (by decide) (by decide)
      have h44 : fr.tmps.getD 44 undef = .bool true := hin 44 (by decide) (by decide)
      clear hout hin
      exact op_load (n := b) (.tmp 52) rfl h52 (cells3b (hx.below hb' hx.lt)) (wanted_some (g := 21) (t := 44) (b := true) rfl rfl h44) rfl
    · intro w' hb' fr hout hin
      have h51 : fr.tmps.getD 51 undef = W a := hin 51 (by decide) (by decide)
      have h53 : fr.tmps.getD 53 undef = W b := hin 53 (by decide) (by decide)
      have h44 : fr.tmps.getD 44 undef = .bool true := hin 44 (by decide) (by decide)
      clear hout hin
      exact relStep_callW 41 #[W a, W b] (wanted_some (g := 21) (t := 44) (b := true) rfl rfl h44) (K6.out _) (fun _ => rfl) (by have hh := And.intro h51 h53; go_simp)
    · intro w' hb' fr hout hin
      have h49 : fr.tmps.getD 49 undef = W d := hin 49 (by decide) (by decide)
      have h54 : fr.tmps.getD 54 undef = W d := hin 54 (by decide) (by decide)
      have h44 : fr.tmps.getD 44 undef = .bool true := hin 44 (by decide) (by decide)
      clear hout hin
      exact op_eqW (n := d) (.tmp 49) (.tmp 54) _ rfl h49 h54 (wanted_some (g := 21) (t := 44) (b := true) rfl rfl h44) rfl
    · intro w' hb' fr hout hin
      have h44 : fr.tmps.getD 44 undef = .bool true := hin 44 (by decide) (by decide)
      have h55 : fr.tmps.getD 55 undef = .bool true := hin 55 (by decide) (by decide)
      clear hout hin
      exact relStep_pick (.tmp 44) (.tmp 55) (.const (.bool false)) rfl h44 (wanted_none rfl) (by show fr.tmps.getD 55 undef = _; rw [h55])
    · intro w' hb' fr hout hin
      have h56 : fr.tmps.getD 56 undef = .bool true := hin 56 (by decide) (by decide)
      clear hout hin
      exact relStep_move (.tmp 56) rfl (wanted_none rfl) (by show fr.tmps.getD 56 undef = _; rw [h56])
    · intro w' hb' fr hout hin
      have e1 : fr.tmps.getD 1 undef = .pointer (some ⟨w.heap.size, 0, none⟩) := hout 1 (by decide)
      have h57 : fr.tmps.getD 57 undef = .bool true := hin 57 (by decide) (by decide)
      clear hout hin
      exact op_field (.tmp 1) rfl (by omega) e1 (wanted_some (g := 34) (t := 57) (b := true) rfl rfl h57) rfl
    · intro w' hb' fr hout hin
      have h58 : fr.tmps.getD 58 undef = .pointer (some ⟨w.heap.size, 0, none⟩) := hin 58 (by decide) (by decide)
      have h57 : fr.tmps.getD 57 undef = .bool true := hin 57 (by decide) (by decide)
      clear hout hin
      exact op_load (n := a) (.tmp 58) rfl h58 (cells3a (hx.below hb' hx.lt)) (wanted_some (g := 34) (t := 57) (b := true) rfl rfl h57) rfl
    · intro w' hb' fr hout hin
      have e1 : fr.tmps.getD 1 undef = .pointer (some ⟨w.heap.size, 0, none⟩) := hout 1 (by decide)
      have h57 : fr.tmps.getD 57 undef = .bool true := hin 57 (by decide) (by decide)
      clear hout hin
      exact op_field (.tmp 1) rfl (by omega) e1 (wanted_some (g := 34) (t := 57) (b := true) rfl rfl h57) rfl
    · intro w' hb' fr hout hin
      have h60 : fr.tmps.getD 60 undef = .pointer (some ⟨w.heap.size, 4, none⟩) := hin 60 (by decide) (by decide)
      have h57 : fr.tmps.getD 57 undef = .bool true := hin 57 (by decide) (by decide)
      clear hout hin
      exact op_load (n := b) (.tmp 60) rfl h60 (cells3b (hx.below hb' hx.lt)) (wanted_some (g := 34) (t := 57) (b := true) rfl rfl h57) rfl
    · intro w' hb' fr hout hin
      have h59 : fr.tmps.getD 59 undef = W a := hin 59 (by decide) (by decide)
      have h61 : fr.tmps.getD 61 undef = W b := hin 61 (by decide) (by decide)
      have h57 : fr.tmps.getD 57 undef = .bool true := hin 57 (by decide) (by decide)
      clear hout hin
      exact relStep_callW 42 #[W a, W b] (wanted_some (g := 34) (t := 57) (b := true) rfl rfl h57) (K7.out _) (fun _ => rfl) (by have hh := And.intro h59 h61; go_simp)
    · intro w' hb' fr hout hin
      have e1 : fr.tmps.getD 1 undef = .pointer (some ⟨w.heap.size, 0, none⟩) := hout 1 (by decide)
      have h57 : fr.tmps.getD 57 undef = .bool true := hin 57 (by decide) (by decide)
      clear hout hin
      exact op_field (.tmp 1) rfl (by omega) e1 (wanted_some (g := 34) (t := 57) (b := true) rfl rfl h57) rfl
    · intro w' hb' fr hout hin
      have h63 : fr.tmps.getD 63 undef = .pointer (some ⟨w.heap.size, 0, none⟩) := hin 63 (by decide) (by decide)
      have h57 : fr.tmps.getD 57 undef = .bool true := hin 57 (by decide) (by decide)
      clear hout hin
      exact op_load (n := a) (.tmp 63) rfl h63 (cells3a (hx.below hb' hx.lt)) (wanted_some (g := 34) (t := 57) (b := true) rfl rfl h57) rfl
    · intro w' hb' fr hout hin
      have e1 : fr.tmps.getD 1 undef = .pointer (some ⟨w.heap.size, 0, none⟩) := hout 1 (by decide)
      have h57 : fr.tmps.getD 57 undef = .bool true := hin 57 (by decide) (by decide)
      clear hout hin
      exact op_field (.tmp 1) rfl (by omega) e1 (wanted_some (g := 34) (t := 57) (b := true) rfl rfl h57) rfl
    · intro w' hb' fr hout hin
      have h65 : fr.tmps.getD 65 undef = .pointer (some ⟨w.heap.size, 4, none⟩) := hin 65 (by decide) (by decide)
      have h57 : fr.tmps.getD 57 undef = .bool true := hin 57 (by decide) (by decide)
      clear hout hin
      exact op_load (n := b) (.tmp 65) rfl h65 (cells3b (hx.below hb' hx.lt)) (wanted_some (g := 34) (t := 57) (b := true) rfl rfl h57) rfl
    · intro w' hb' fr hout hin
      have h64 : fr.tmps.getD 64 undef = W a := hin 64 (by decide) (by decide)
      have h66 : fr.tmps.getD 66 undef = W b := hin 66 (by decide) (by decide)
      have h57 : fr.tmps.getD 57 undef = .bool true := hin 57 (by decide) (by decide)
      clear hout hin
      exact relStep_callW 43 #[W a, W b] (wanted_some (g := 34) (t := 57) (b := true) rfl rfl h57) (K8.out _) (fun _ => rfl) (by have hh := And.intro h64 h66; go_simp)
    · intro w' hb' fr hout hin
      have h62 : fr.tmps.getD 62 undef = W m := hin 62 (by decide) (by decide)
      have h67 : fr.tmps.getD 67 undef = W m := hin 67 (by decide) (by decide)
      have h57 : fr.tmps.getD 57 undef = .bool true := hin 57 (by decide) (by decide)
      clear hout hin
      exact op_eqW (n := m) (.tmp 62) (.tmp 67) _ rfl h62 h67 (wanted_some (g := 34) (t := 57) (b := true) rfl rfl h57) rfl
    · intro w' hb' fr hout hin
      have h57 : fr.tmps.getD 57 undef = .bool true := hin 57 (by decide) (by decide)
      have h68 : fr.tmps.getD 68 undef = .bool true := hin 68 (by decide) (by decide)
      clear hout hin
      exact relStep_pick (.tmp 57) (.tmp 68) (.const (.bool false)) rfl h57 (wanted_none rfl) (by show fr.tmps.getD 68 undef = _; rw [h68])
    · intro w' hb' fr hout hin
      have h69 : fr.tmps.getD 69 undef = .bool true := hin 69 (by decide) (by decide)
      clear hout hin
      exact relStep_move (.tmp 69) rfl (wanted_none rfl) (by show fr.tmps.getD 69 undef = _; rw [h69])
    · intro w' hb' fr hout hin
      have h70 : fr.tmps.getD 70 undef = .bool true := hin 70 (by decide) (by decide)
      clear hout hin
      exact relStep_callV 35 #[] (wanted_some (g := 47) (t := 70) (b := true) rfl rfl h70) (wakes_c _) (fun _ => rfl) (by go_simp)
    · intro w' hb' fr hout hin
      have h70 : fr.tmps.getD 70 undef = .bool true := hin 70 (by decide) (by decide)
      have h71 : fr.tmps.getD 71 undef = .bool true := hin 71 (by decide) (by decide)
      clear hout hin
      exact relStep_pick (.tmp 70) (.tmp 71) (.const (.bool false)) rfl h70 (wanted_none rfl) (by show fr.tmps.getD 71 undef = _; rw [h71])
    · intro w' hb' fr hout hin
      have h72 : fr.tmps.getD 72 undef = .bool true := hin 72 (by decide) (by decide)
      clear hout hin
      exact relStep_assign (.tmp 72) rfl (wanted_none rfl) (by show fr.tmps.getD 72 undef = _; rw [h72])
  · intro w' hb'
    refine relAsk_in (by rfl) ?_
    intro v23 h23
    obtain rfl : v23 = W p := h23
    refine relAsk_in (by rfl) ?_
    intro v24 h24
    obtain rfl : v24 = W p := h24
    refine relAsk_in (by rfl) ?_
    intro v25 h25
    obtain rfl : v25 = .bool true := h25
    refine relAsk_in (by rfl) ?_
    intro v26 h26
    obtain rfl : v26 = .bool true := h26
    refine relAsk_in (by rfl) ?_
    intro v27 h27
    obtain rfl : v27 = W q := h27
    refine relAsk_in (by rfl) ?_
    intro v28 h28
    obtain rfl : v28 = W q := h28
    refine relAsk_in (by rfl) ?_
    intro v29 h29
    obtain rfl : v29 = .bool true := h29
    refine relAsk_in (by rfl) ?_
    intro v30 h30
    obtain rfl : v30 = .bool true := h30
    refine relAsk_in (by rfl) ?_
    intro v31 h31
    obtain rfl : v31 = .bool true := h31
    refine relAsk_in (by rfl) ?_
    intro v32 h32
    obtain rfl : v32 = .pointer (some ⟨w.heap.size, 0, none⟩) := h32
    refine relAsk_in (by rfl) ?_
    intro v33 h33
    obtain rfl : v33 = W a := h33
    refine relAsk_in (by rfl) ?_
    intro v34 h34
    obtain rfl : v34 = .pointer (some ⟨w.heap.size, 4, none⟩) := h34
    refine relAsk_in (by rfl) ?_
    intro v35 h35
    obtain rfl : v35 = W b := h35
    refine relAsk_in (by rfl) ?_
    intro v36 h36
    obtain rfl : v36 = W s := h36
    refine relAsk_in (by rfl) ?_
    intro v37 h37
    obtain rfl : v37 = .pointer (some ⟨w.heap.size, 0, none⟩) := h37
    refine relAsk_in (by rfl) ?_
    intro v38 h38
    obtain rfl : v38 = W a := h38
    refine relAsk_in (by rfl) ?_
    intro v39 h39
    obtain rfl : v39 = .pointer (some ⟨w.heap.size, 4, none⟩) := h39
    refine relAsk_in (by rfl) ?_
    intro v40 h40
    obtain rfl : v40 = W b := h40
    refine relAsk_in (by rfl) ?_
    intro v41 h41
    obtain rfl : v41 = W s := h41
    refine relAsk_in (by rfl) ?_
    intro v42 h42
    obtain rfl : v42 = .bool true := h42
    refine relAsk_in (by rfl) ?_
    intro v43 h43
    obtain rfl : v43 = .bool true := h43
    refine relAsk_in (by rfl) ?_
    intro v44 h44
    obtain rfl : v44 = .bool true := h44
    refine relAsk_in (by rfl) ?_
    intro v45 h45
    obtain rfl : v45 = .pointer (some ⟨w.heap.size, 0, none⟩) := h45
    refine relAsk_in (by rfl) ?_
    intro v46 h46
    obtain rfl : v46 = W a := h46
    refine relAsk_in (by rfl) ?_
    intro v47 h47
    obtain rfl : v47 = .pointer (some ⟨w.heap.size, 4, none⟩) := h47
    refine relAsk_in (by rfl) ?_
    intro v48 h48
    obtain rfl : v48 = W b := h48
    refine relAsk_in (by rfl) ?_
    intro v49 h49
    obtain rfl : v49 = W d := h49
    refine relAsk_in (by rfl) ?_
    intro v50 h50
    obtain rfl : v50 = .pointer (some ⟨w.heap.size, 0, none⟩) := h50
    refine relAsk_in (by rfl) ?_
    intro v51 h51
    obtain rfl : v51 = W a := h51
    refine relAsk_in (by rfl) ?_
    intro v52 h52
    obtain rfl : v52 = .pointer (some ⟨w.heap.size, 4, none⟩) := h52
    refine relAsk_in (by rfl) ?_
    intro v53 h53
    obtain rfl : v53 = W b := h53
    refine relAsk_in (by rfl) ?_
    intro v54 h54
    obtain rfl : v54 = W d := h54
    refine relAsk_in (by rfl) ?_
    intro v55 h55
    obtain rfl : v55 = .bool true := h55
    refine relAsk_in (by rfl) ?_
    intro v56 h56
    obtain rfl : v56 = .bool true := h56
    refine relAsk_in (by rfl) ?_
    intro v57 h57
    obtain rfl : v57 = .bool true := h57
    refine relAsk_in (by rfl) ?_
    intro v58 h58
    obtain rfl : v58 = .pointer (some ⟨w.heap.size, 0, none⟩) := h58
    refine relAsk_in (by rfl) ?_
    intro v59 h59
    obtain rfl : v59 = W a := h59
    refine relAsk_in (by rfl) ?_
    intro v60 h60
    obtain rfl : v60 = .pointer (some ⟨w.heap.size, 4, none⟩) := h60
    refine relAsk_in (by rfl) ?_
    intro v61 h61
    obtain rfl : v61 = W b := h61
    refine relAsk_in (by rfl) ?_
    intro v62 h62
    obtain rfl : v62 = W m := h62
    refine relAsk_in (by rfl) ?_
    intro v63 h63
    obtain rfl : v63 = .pointer (some ⟨w.heap.size, 0, none⟩) := h63
    refine relAsk_in (by rfl) ?_
    intro v64 h64
    obtain rfl : v64 = W a := h64
    refine relAsk_in (by rfl) ?_
    intro v65 h65
    obtain rfl : v65 = .pointer (some ⟨w.heap.size, 4, none⟩) := h65
    refine relAsk_in (by rfl) ?_
    intro v66 h66
    obtain rfl : v66 = W b := h66
    refine relAsk_in (by rfl) ?_
    intro v67 h67
    obtain rfl : v67 = W m := h67
    refine relAsk_in (by rfl) ?_
    intro v68 h68
    obtain rfl : v68 = .bool true := h68
    refine relAsk_in (by rfl) ?_
    intro v69 h69
    obtain rfl : v69 = .bool true := h69
    refine relAsk_in (by rfl) ?_
    intro v70 h70
    obtain rfl : v70 = .bool true := h70
    refine relAsk_in (by rfl) ?_
    intro v71 h71
    obtain rfl : v71 = .bool true := h71
    refine relAsk_in (by rfl) ?_
    intro v72 h72
    obtain rfl : v72 = .bool true := h72
    refine relAsk_in (by rfl) ?_
    intro v2 h2
    obtain rfl : v2 = .bool true := h2
    refine relAsk_nil ?_
    refine wpList_nil ?_
    go_simp
    go_wp2_with fail
    go_ret
    exact ⟨rfl, hW.trans (hb'.mono hW.size)⟩
end Go.Proofs.Ytihffojljbgpcaa
