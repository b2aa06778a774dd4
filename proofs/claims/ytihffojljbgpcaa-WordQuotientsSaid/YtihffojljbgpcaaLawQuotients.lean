/- The law WordQuotients, by the contracts of its callees. -/
import Derived.Test.YtihffojljbgpcaaOps
import Derived.Test.YtihffojljbgpcaaRef2
import Derived.Test.YtihffojljbgpcaaRef5
import Derived.Test.YtihffojljbgpcaaRef6
import Derived.Test.YtihffojljbgpcaaSigned2
import Derived.Test.YtihffojljbgpcaaWordDiv2
import Derived.Test.YtihffojljbgpcaaWakes
namespace Go.Proofs.Ytihffojljbgpcaa
open Go.RowKit

theorem rest_same {a b : Nat} (hb : Big b) : (if b = 0 then b else a % b % 115792089237316195423570985008687907853269984665640564039457584007913129639936) = if b = 0 then 0 else a % b := by
  unfold Big at hb
  split
  · assumption
  · exact Nat.mod_eq_of_lt (Nat.lt_trans (Nat.mod_lt _ (by omega)) hb)
theorem div_same {a b : Nat} (ha : Big a) : (if b = 0 then b else a / b % 115792089237316195423570985008687907853269984665640564039457584007913129639936) = a / b := by
  unfold Big at ha
  split
  · rename_i h; subst h; simp
  · exact Nat.mod_eq_of_lt (Nat.lt_of_le_of_lt (Nat.div_le_self _ _) ha)
set_option maxRecDepth 100000 in
set_option maxHeartbeats 12800000 in
theorem quotients_c {a b c : Nat} (ha : Big a) (hb : Big b) (hc : Big c) (w : World) : Calls Try.prog 5 #[V3 a b c] w (RetV (.bool true) w) := by
  have iA := isW_lim ha
  have iB := isW_lim hb
  have iC := isW_lim hc
  obtain ⟨q, hq⟩ : ∃ n, n = a / b := ⟨_, rfl⟩
  obtain ⟨r, hr⟩ : ∃ n, n = if b = 0 then 0 else a % b := ⟨_, rfl⟩
  obtain ⟨s, hs⟩ : ∃ n, n = sig (sgn a != sgn b) (siz a / siz b) := ⟨_, rfl⟩
  obtain ⟨m, hm⟩ : ∃ n, n = sig (sgn a) (if siz b = 0 then 0 else siz a % siz b) := ⟨_, rfl⟩
  have k1 : ∀ w, Calls Try.prog 44 #[W a, W b] w (RetW q w) := fun w => by rw [hq]; exact div_c iA iB w
  have k2 : ∀ w, Calls Try.prog 45 #[W a, W b] w (RetW q w) := fun w => by have h := div1_c ha hb w; rwa [div_same ha, ← hq] at h
  have k3 : ∀ w, Calls Try.prog 46 #[W a, W b] w (RetW r w) := fun w => by rw [hr]; exact mod_c iA iB w
  have k4 : ∀ w, Calls Try.prog 47 #[W a, W b] w (RetW r w) := fun w => by have h := mod1_c ha hb w; rwa [rest_same hb, ← hr] at h
  have k5 : ∀ w, Calls Try.prog 48 #[W a, W b] w (RetW s w) := fun w => by rw [hs]; exact RK.sdiv_c ha hb rfl w
  have k6 : ∀ w, Calls Try.prog 49 #[W a, W b] w (RetW s w) := fun w => by rw [hs]; exact sdiv1_c ha hb rfl w
  have k7 : ∀ w, Calls Try.prog 50 #[W a, W b] w (RetW m w) := fun w => by rw [hm]; exact RK.smod_c ha hb rfl w
  have k8 : ∀ w, Calls Try.prog 51 #[W a, W b] w (RetW m w) := fun w => by rw [hm]; exact smod1_c ha hb rfl w
  have K1 := Lib.hid k1
  have K2 := Lib.hid k2
  have K3 := Lib.hid k3
  have K4 := Lib.hid k4
  have K5 := Lib.hid k5
  have K6 := Lib.hid k6
  have K7 := Lib.hid k7
  have K8 := Lib.hid k8
  have hx := box3 w a b c
  have hW : Below w.heap.size w (Box3 w a b c) := (Below.refl _ _).alloc (Nat.le_refl _) _
  dsimp only [Box3] at hx hW
  clear hq hr hs hm k1 k2 k3 k4 k5 k6 k7 k8 iA iB iC
  go_enter Try.func5, Try.ntmps5
  go_wp2_with fail
  generalize w.alloc (.cells #[.int .u64 (lim 0 a : Nat), .int .u64 (lim 1 a : Nat), .int .u64 (lim 2 a : Nat), .int .u64 (lim 3 a : Nat), .int .u64 (lim 0 b : Nat), .int .u64 (lim 1 b : Nat), .int .u64 (lim 2 b : Nat), .int .u64 (lim 3 b : Nat), .int .u64 (lim 0 c : Nat), .int .u64 (lim 1 c : Nat), .int .u64 (lim 2 c : Nat), .int .u64 (lim 3 c : Nat)] 26) = X at *
  refine wp_region_see 54 [3, 4, 5, 6, 7, 8, 9, 10, 11, 12, 13, 14, 15, 16, 17, 18, 19, 20, 21, 22, 23, 24, 25, 26, 27, 28, 29, 30, 31, 32, 33, 34, 35, 36, 37, 38, 39, 40, 41, 42, 43, 44, 45, 46, 47, 48, 49, 50, 51, 52, 53, 54, 55, 2] [(3, .is (.pointer (some ⟨w.heap.size, 0, none⟩))), (4, .is (W a)), (5, .is (.pointer (some ⟨w.heap.size, 4, none⟩))), (6, .is (W b)), (7, .is (W q)), (8, .is (.pointer (some ⟨w.heap.size, 0, none⟩))), (9, .is (W a)), (10, .is (.pointer (some ⟨w.heap.size, 4, none⟩))), (11, .is (W b)), (12, .is (W q)), (13, .is (.bool true)), (14, .is (.bool true)), (15, .is (.pointer (some ⟨w.heap.size, 0, none⟩))), (16, .is (W a)), (17, .is (.pointer (some ⟨w.heap.size, 4, none⟩))), (18, .is (W b)), (19, .is (W r)), (20, .is (.pointer (some ⟨w.heap.size, 0, none⟩))), (21, .is (W a)), (22, .is (.pointer (some ⟨w.heap.size, 4, none⟩))), (23, .is (W b)), (24, .is (W r)), (25, .is (.bool true)), (26, .is (.bool true)), (27, .is (.bool true)), (28, .is (.pointer (some ⟨w.heap.size, 0, none⟩))), (29, .is (W a)), (30, .is (.pointer (some ⟨w.heap.size, 4, none⟩))), (31, .is (W b)), (32, .is (W s)), (33, .is (.pointer (some ⟨w.heap.size, 0, none⟩))), (34, .is (W a)), (35, .is (.pointer (some ⟨w.heap.size, 4, none⟩))), (36, .is (W b)), (37, .is (W s)), (38, .is (.bool true)), (39, .is (.bool true)), (40, .is (.bool true)), (41, .is (.pointer (some ⟨w.heap.size, 0, none⟩))), (42, .is (W a)), (43, .is (.pointer (some ⟨w.heap.size, 4, none⟩))), (44, .is (W b)), (45, .is (W m)), (46, .is (.pointer (some ⟨w.heap.size, 0, none⟩))), (47, .is (W a)), (48, .is (.pointer (some ⟨w.heap.size, 4, none⟩))), (49, .is (W b)), (50, .is (W m)), (51, .is (.bool true)), (52, .is (.bool true)), (53, .is (.bool true)), (54, .is (.bool true)), (55, .is (.bool true)), (2, .is (.bool true))] (by kernel_rfl) (by kernel_rfl) (by rfl) ?_ ?_
  · refine seeOps_cons ?_ (seeOps_cons ?_ (seeOps_cons ?_ (seeOps_cons ?_ (seeOps_cons ?_ (seeOps_cons ?_ (seeOps_cons ?_ (seeOps_cons ?_ (seeOps_cons ?_ (seeOps_cons ?_ (seeOps_cons ?_ (seeOps_cons ?_ (seeOps_cons ?_ (seeOps_cons ?_ (seeOps_cons ?_ (seeOps_cons ?_ (seeOps_cons ?_ (seeOps_cons ?_ (seeOps_cons ?_ (seeOps_cons ?_ (seeOps_cons ?_ (seeOps_cons ?_ (seeOps_cons ?_ (seeOps_cons ?_ (seeOps_cons ?_ (seeOps_cons ?_ (seeOps_cons ?_ (seeOps_cons ?_ (seeOps_cons ?_ (seeOps_cons ?_ (seeOps_cons ?_ (seeOps_cons ?_ (seeOps_cons ?_ (seeOps_cons ?_ (seeOps_cons ?_ (seeOps_cons ?_ (seeOps_cons ?_ (seeOps_cons ?_ (seeOps_cons ?_ (seeOps_cons ?_ (seeOps_cons ?_ (seeOps_cons ?_ (seeOps_cons ?_ (seeOps_cons ?_ (seeOps_cons ?_ (seeOps_cons ?_ (seeOps_cons ?_ (seeOps_cons ?_ (seeOps_cons ?_ (seeOps_cons ?_ (seeOps_cons ?_ (seeOps_cons ?_ (seeOps_cons ?_ (seeOps_cons ?_ seeOps_nil)))))))))))))))))))))))))))))))))))))))))))))))))))))
    · intro w' hb' fr hout hin
      have e1 : fr.tmps.getD 1 undef = .pointer (some ⟨w.heap.size, 0, none⟩) := hout 1 (by decide)
      clear hout hin
      exact op_field (.tmp 1) rfl (by omega) e1 (wanted_none rfl) rfl
    · intro w' hb' fr hout hin
      have h3 : fr.tmps.getD 3 undef = .pointer (some ⟨w.heap.size, 0, none⟩) := hin 3 (by decide) (by decide)
      clear hout hin
      exact op_load (n := a) (.tmp 3) rfl h3 (cells3a (hx.below hb' hx.lt)) (wanted_none rfl) rfl
    · intro w' hb' fr hout hin
      have e1 : fr.tmps.getD 1 undef = .pointer (some ⟨w.heap.size, 0, none⟩) := hout 1 (by decide)
      clear hout hin
      exact op_field (.tmp 1) rfl (by omega) e1 (wanted_none rfl) rfl
    · intro w' hb' fr hout hin
      have h5 : fr.tmps.getD 5 undef = .pointer (some ⟨w.heap.size, 4, none⟩) := hin 5 (by decide) (by decide)
      clear hout hin
      exact op_load (n := b) (.tmp 5) rfl h5 (cells3b (hx.below hb' hx.lt)) (wanted_none rfl) rfl
    · intro w' hb' fr hout hin
      have h4 : fr.tmps.getD 4 undef = W a := hin 4 (by decide) (by decide)
      have h6 : fr.tmps.getD 6 undef = W b := hin 6 (by decide) (by decide)
      clear hout hin
      exact relStep_callW 44 #[W a, W b] (wanted_none rfl) (K1.out _) (fun _ => rfl) (by have hh := (And.intro h4 h6); go_simp)
    · intro w' hb' fr hout hin
      have e1 : fr.tmps.getD 1 undef = .pointer (some ⟨w.heap.size, 0, none⟩) := hout 1 (by decide)
      clear hout hin
      exact op_field (.tmp 1) rfl (by omega) e1 (wanted_none rfl) rfl
    · intro w' hb' fr hout hin
      have h8 : fr.tmps.getD 8 undef = .pointer (some ⟨w.heap.size, 0, none⟩) := hin 8 (by decide) (by decide)
      clear hout hin
      exact op_load (n := a) (.tmp 8) rfl h8 (cells3a (hx.below hb' hx.lt)) (wanted_none rfl) rfl
    · intro w' hb' fr hout hin
      have e1 : fr.tmps.getD 1 undef = .pointer (some ⟨w.heap.size, 0, none⟩) := hout 1 (by decide)
      clear hout hin
      exact op_field (.tmp 1) rfl (by omega) e1 (wanted_none rfl) rfl
    · intro w' hb' fr hout hin
      have h10 : fr.tmps.getD 10 undef = .pointer (some ⟨w.heap.size, 4, none⟩) := hin 10 (by decide) (by decide)
      clear hout hin
      exact op_load (n := b) (.tmp 10) rfl h10 (cells3b (hx.below hb' hx.lt)) (wanted_none rfl) rfl
    · intro w' hb' fr hout hin
      have h9 : fr.tmps.getD 9 undef = W a := hin 9 (by decide) (by decide)
      have h11 : fr.tmps.getD 11 undef = W b := hin 11 (by decide) (by decide)
      clear hout hin
      exact relStep_callW 45 #[W a, W b] (wanted_none rfl) (K2.out _) (fun _ => rfl) (by have hh := (And.intro h9 h11); go_simp)
    · intro w' hb' fr hout hin
      have h7 : fr.tmps.getD 7 undef = W q := hin 7 (by decide) (by decide)
      have h12 : fr.tmps.getD 12 undef = W q := hin 12 (by decide) (by decide)
      clear hout hin
      exact op_eqW (n := q) (.tmp 7) (.tmp 12) _ rfl h7 h12 (wanted_none rfl) rfl
    · intro w' hb' fr hout hin
      have h13 : fr.tmps.getD 13 undef = .bool true := hin 13 (by decide) (by decide)
      clear hout hin
      exact relStep_move (.tmp 13) rfl (wanted_none rfl) (by show fr.tmps.getD 13 undef = _; rw [h13])
    · intro w' hb' fr hout hin
      have e1 : fr.tmps.getD 1 undef = .pointer (some ⟨w.heap.size, 0, none⟩) := hout 1 (by decide)
      have h14 : fr.tmps.getD 14 undef = .bool true := hin 14 (by decide) (by decide)
      clear hout hin
      exact op_field (.tmp 1) rfl (by omega) e1 (wanted_some (g := 11) (t := 14) (b := true) rfl rfl h14) rfl
    · intro w' hb' fr hout hin
      have h15 : fr.tmps.getD 15 undef = .pointer (some ⟨w.heap.size, 0, none⟩) := hin 15 (by decide) (by decide)
      have h14 : fr.tmps.getD 14 undef = .bool true := hin 14 (by decide) (by decide)
      clear hout hin
      exact op_load (n := a) (.tmp 15) rfl h15 (cells3a (hx.below hb' hx.lt)) (wanted_some (g := 11) (t := 14) (b := true) rfl rfl h14) rfl
    · intro w' hb' fr hout hin
      have e1 : fr.tmps.getD 1 undef = .pointer (some ⟨w.heap.size, 0, none⟩) := hout 1 (by decide)
      have h14 : fr.tmps.getD 14 undef = .bool true := hin 14 (by decide) (by decide)
      clear hout hin
      exact op_field (.tmp 1) rfl (by omega) e1 (wanted_some (g := 11) (t := 14) (b := true) rfl rfl h14) rfl
    · intro w' hb' fr hout hin
      have h17 : fr.tmps.getD 17 undef = .pointer (some ⟨w.heap.size, 4, none⟩) := hin 17 (by decide) (by decide)
      have h14 : fr.tmps.getD 14 undef = .bool true := hin 14 (by decide) (by decide)
      clear hout hin
      exact op_load (n := b) (.tmp 17) rfl h17 (cells3b (hx.below hb' hx.lt)) (wanted_some (g := 11) (t := 14) (b := true) rfl rfl h14) rfl
    · intro w' hb' fr hout hin
      have h16 : fr.tmps.getD 16 undef = W a := hin 16 (by decide) (by decide)
      have h18 : fr.tmps.getD 18 undef = W b := hin 18 (by decide) (by decide)
      have h14 : fr.tmps.getD 14 undef = .bool true := hin 14 (by decide) (by decide)
      clear hout hin
      exact relStep_callW 46 #[W a, W b] (wanted_some (g := 11) (t := 14) (b := true) rfl rfl h14) (K3.out _) (fun _ => rfl) (by have hh := (And.intro h16 h18); go_simp)
    · intro w' hb' fr hout hin
      have e1 : fr.tmps.getD 1 undef = .pointer (some ⟨w.heap.size, 0, none⟩) := hout 1 (by decide)
      have h14 : fr.tmps.getD 14 undef = .bool true := hin 14 (by decide) (by decide)
      clear hout hin
      exact op_field (.tmp 1) rfl (by omega) e1 (wanted_some (g := 11) (t := 14) (b := true) rfl rfl h14) rfl
    · intro w' hb' fr hout hin
      have h20 : fr.tmps.getD 20 undef = .pointer (some ⟨w.heap.size, 0, none⟩) := hin 20 (by decide) (by decide)
      have h14 : fr.tmps.getD 14 undef = .bool true := hin 14 (by decide) (by decide)
      clear hout hin
      exact op_load (n := a) (.tmp 20) rfl h20 (cells3a (hx.below hb' hx.lt)) (wanted_some (g := 11) (t := 14) (b := true) rfl rfl h14) rfl
    · intro w' hb' fr hout hin
      have e1 : fr.tmps.getD 1 undef = .pointer (some ⟨w.heap.size, 0, none⟩) := hout 1 (by decide)
      have h14 : fr.tmps.getD 14 undef = .bool true := hin 14 (by decide) (by decide)
      clear hout hin
      exact op_field (.tmp 1) rfl (by omega) e1 (wanted_some (g := 11) (t := 14) (b := true) rfl rfl h14) rfl
    · intro w' hb' fr hout hin
      have h22 : fr.tmps.getD 22 undef = .pointer (some ⟨w.heap.size, 4, none⟩) := hin 22 (by decide) (by decide)
      have h14 : fr.tmps.getD 14 undef = .bool true := hin 14 (by decide) (by decide)
      clear hout hin
      exact op_load (n := b) (.tmp 22) rfl h22 (cells3b (hx.below hb' hx.lt)) (wanted_some (g := 11) (t := 14) (b := true) rfl rfl h14) rfl
    · intro w' hb' fr hout hin
      have h21 : fr.tmps.getD 21 undef = W a := hin 21 (by decide) (by decide)
      have h23 : fr.tmps.getD 23 undef = W b := hin 23 (by decide) (by decide)
      have h14 : fr.tmps.getD 14 undef = .bool true := hin 14 (by decide) (by decide)
      clear hout hin
      exact relStep_callW 47 #[W a, W b] (wanted_some (g := 11) (t := 14) (b := true) rfl rfl h14) (K4.out _) (fun _ => rfl) (by have hh := (And.intro h21 h23); go_simp)
    · intro w' hb' fr hout hin
      have h19 : fr.tmps.getD 19 undef = W r := hin 19 (by decide) (by decide)
      have h24 : fr.tmps.getD 24 undef = W r := hin 24 (by decide) (by decide)
      have h14 : fr.tmps.getD 14 undef = .bool true := hin 14 (by decide) (by decide)
      clear hout hin
      exact op_eqW (n := r) (.tmp 19) (.tmp 24) _ rfl h19 h24 (wanted_some (g := 11) (t := 14) (b := true) rfl rfl h14) rfl
    · intro w' hb' fr hout hin
      have h14 : fr.tmps.getD 14 undef = .bool true := hin 14 (by decide) (by decide)
      have h25 : fr.tmps.getD 25 undef = .bool true := hin 25 (by decide) (by decide)
      clear hout hin
      exact relStep_pick (.tmp 14) (.tmp 25) (.const (.bool false)) rfl h14 (wanted_none rfl) (by show fr.tmps.getD 25 undef = _; rw [h25])
    · intro w' hb' fr hout hin
      have h26 : fr.tmps.getD 26 undef = .bool true := hin 26 (by decide) (by decide)
      clear hout hin
      exact relStep_move (.tmp 26) rfl (wanted_none rfl) (by show fr.tmps.getD 26 undef = _; rw [h26])
    · intro w' hb' fr hout hin
      have e1 : fr.tmps.getD 1 undef = .pointer (some ⟨w.heap.size, 0, none⟩) := hout 1 (by decide)
      have h27 : fr.tmps.getD 27 undef = .bool true := hin 27 (by decide) (by decide)
      clear hout hin
      exact op_field (.tmp 1) rfl (by omega) e1 (wanted_some (g := 24) (t := 27) (b := true) rfl rfl h27) rfl
    · intro w' hb' fr hout hin
      have h28 : fr.tmps.getD 28 undef = .pointer (some ⟨w.heap.size, 0, none⟩) := hin 28 (by decide) (by decide)
      have h27 : fr.tmps.getD 27 undef = .bool true := hin 27 (by decide) (by decide)
      clear hout hin
      exact op_load (n := a) (.tmp 28) rfl h28 (cells3a (hx.below hb' hx.lt)) (wanted_some (g := 24) (t := 27) (b := true) rfl rfl h27) rfl
    · intro w' hb' fr hout hin
      have e1 : fr.tmps.getD 1 undef = .pointer (some ⟨w.heap.size, 0, none⟩) := hout 1 (by decide)
      have h27 : fr.tmps.getD 27 undef = .bool true := hin 27 (by decide) (by decide)
      clear hout hin
      exact op_field (.tmp 1) rfl (by omega) e1 (wanted_some (g := 24) (t := 27) (b := true) rfl rfl h27) rfl
    · intro w' hb' fr hout hin
      have h30 : fr.tmps.getD 30 undef = .pointer (some ⟨w.heap.size, 4, none⟩) := hin 30 (by decide) (by decide)
      have h27 : fr.tmps.getD 27 undef = .bool true := hin 27 (by decide) (by decide)
      clear hout hin
      exact op_load (n := b) (.tmp 30) rfl h30 (cells3b (hx.below hb' hx.lt)) (wanted_some (g := 24) (t := 27) (b := true) rfl rfl h27) rfl
    · intro w' hb' fr hout hin
      have h29 : fr.tmps.getD 29 undef = W a := hin 29 (by decide) (by decide)
      have h31 : fr.tmps.getD 31 undef = W b := hin 31 (by decide) (by decide)
      have h27 : fr.tmps.getD 27 undef = .bool true := hin 27 (by decide) (by decide)
      clear hout hin
      exact relStep_callW 48 #[W a, W b] (wanted_some (g := 24) (t := 27) (b := true) rfl rfl h27) (K5.out _) (fun _ => rfl) (by have hh := (And.intro h29 h31); go_simp)
    · intro w' hb' fr hout hin
      have e1 : fr.tmps.getD 1 undef = .pointer (some ⟨w.heap.size, 0, none⟩) := hout 1 (by decide)
      have h27 : fr.tmps.getD 27 undef = .bool true := hin 27 (by decide) (by decide)
      clear hout hin
      exact op_field (.tmp 1) rfl (by omega) e1 (wanted_some (g := 24) (t := 27) (b := true) rfl rfl h27) rfl
    · intro w' hb' fr hout hin
      have h33 : fr.tmps.getD 33 undef = .pointer (some ⟨w.heap.size, 0, none⟩) := hin 33 (by decide) (by decide)
      have h27 : fr.tmps.getD 27 undef = .bool true := hin 27 (by decide) (by decide)
      clear hout hin
      exact op_load (n := a) (.tmp 33) rfl h33 (cells3a (hx.below hb' hx.lt)) (wanted_some (g := 24) (t := 27) (b := true) rfl rfl h27) rfl
    · intro w' hb' fr hout hin
      have e1 : fr.tmps.getD 1 undef = .pointer (some ⟨w.heap.size, 0, none⟩) := hout 1 (by decide)
      have h27 : fr.tmps.getD 27 undef = .bool true := hin 27 (by decide) (by decide)
      clear hout hin
      exact op_field (.tmp 1) rfl (by omega) e1 (wanted_some (g := 24) (t := 27) (b := true) rfl rfl h27) rfl
    · intro w' hb' fr hout hin
      have h35 : fr.tmps.getD 35 undef = .pointer (some ⟨w.heap.size, 4, none⟩) := hin 35 (by decide) (by decide)
      have h27 : fr.tmps.getD 27 undef = .bool true := hin 27 (by decide) (by decide)
      clear hout hin
      exact op_load (n := b) (.tmp 35) rfl h35 (cells3b (hx.below hb' hx.lt)) (wanted_some (g := 24) (t := 27) (b := true) rfl rfl h27) rfl
    · intro w' hb' fr hout hin
      have h34 : fr.tmps.getD 34 undef = W a := hin 34 (by decide) (by decide)
      have h36 : fr.tmps.getD 36 undef = W b := hin 36 (by decide) (by decide)
      have h27 : fr.tmps.getD 27 undef = .bool true := hin 27 (by decide) (by decide)
      clear hout hin
      exact relStep_callW 49 #[W a, W b] (wanted_some (g := 24) (t := 27) (b := true) rfl rfl h27) (K6.out _) (fun _ => rfl) (by have hh := (And.intro h34 h36); go_simp)
    · intro w' hb' fr hout hin
      have h32 : fr.tmps.getD 32 undef = W s := hin 32 (by decide) (by decide)
      have h37 : fr.tmps.getD 37 undef = W s := hin 37 (by decide) (by decide)
      have h27 : fr.tmps.getD 27 undef = .bool true := hin 27 (by decide) (by decide)
      clear hout hin
      exact op_eqW (n := s) (.tmp 32) (.tmp 37) _ rfl h32 h37 (wanted_some (g := 24) (t := 27) (b := true) rfl rfl h27) rfl
    · intro w' hb' fr hout hin
      have h27 : fr.tmps.getD 27 undef = .bool true := hin 27 (by decide) (by decide)
      have h38 : fr.tmps.getD 38 undef = .bool true := hin 38 (by decide) (by decide)
      clear hout hin
      exact relStep_pick (.tmp 27) (.tmp 38) (.const (.bool false)) rfl h27 (wanted_none rfl) (by show fr.tmps.getD 38 undef = _; rw [h38])
    · intro w' hb' fr hout hin
      have h39 : fr.tmps.getD 39 undef = .bool true := hin 39 (by decide) (by decide)
      clear hout hin
      exact relStep_move (.tmp 39) rfl (wanted_none rfl) (by show fr.tmps.getD 39 undef = _; rw [h39])
    · intro w' hb' fr hout hin
      have e1 : fr.tmps.getD 1 undef = .pointer (some ⟨w.heap.size, 0, none⟩) := hout 1 (by decide)
      have h40 : fr.tmps.getD 40 undef = .bool true := hin 40 (by decide) (by decide)
      clear hout hin
      exact op_field (.tmp 1) rfl (by omega) e1 (wanted_some (g := 37) (t := 40) (b := true) rfl rfl h40) rfl
    · intro w' hb' fr hout hin
      have h41 : fr.tmps.getD 41 undef = .pointer (some ⟨w.heap.size, 0, none⟩) := hin 41 (by decide) (by decide)
      have h40 : fr.tmps.getD 40 undef = .bool true := hin 40 (by decide) (by decide)
      clear hout hin
      exact op_load (n := a) (.tmp 41) rfl h41 (cells3a (hx.below hb' hx.lt)) (wanted_some (g := 37) (t := 40) (b := true) rfl rfl h40) rfl
    · intro w' hb' fr hout hin
      have e1 : fr.tmps.getD 1 undef = .pointer (some ⟨w.heap.size, 0, none⟩) := hout 1 (by decide)
      have h40 : fr.tmps.getD 40 undef = .bool true := hin 40 (by decide) (by decide)
      clear hout hin
      exact op_field (.tmp 1) rfl (by omega) e1 (wanted_some (g := 37) (t := 40) (b := true) rfl rfl h40) rfl
    · intro w' hb' fr hout hin
      have h43 : fr.tmps.getD 43 undef = .pointer (some ⟨w.heap.size, 4, none⟩) := hin 43 (by decide) (by decide)
      have h40 : fr.tmps.getD 40 undef = .bool true := hin 40 (by decide) (by decide)
      clear hout hin
      exact op_load (n := b) (.tmp 43) rfl h43 (cells3b (hx.below hb' hx.lt)) (wanted_some (g := 37) (t := 40) (b := true) rfl rfl h40) rfl
    · intro w' hb' fr hout hin
      have h42 : fr.tmps.getD 42 undef = W a := hin 42 (by decide) (by decide)
      have h44 : fr.tmps.getD 44 undef = W b := hin 44 (by decide) (by decide)
      have h40 : fr.tmps.getD 40 undef = .bool true := hin 40 (by decide) (by decide)
      clear hout hin
      exact relStep_callW 50 #[W a, W b] (wanted_some (g := 37) (t := 40) (b := true) rfl rfl h40) (K7.out _) (fun _ => rfl) (by have hh := (And.intro h42 h44); go_simp)
    · intro w' hb' fr hout hin
      have e1 : fr.tmps.getD 1 undef = .pointer (some ⟨w.heap.size, 0, none⟩) := hout 1 (by decide)
      have h40 : fr.tmps.getD 40 undef = .bool true := hin 40 (by decide) (by decide)
      clear hout hin
      exact op_field (.tmp 1) rfl (by omega) e1 (wanted_some (g := 37) (t := 40) (b := true) rfl rfl h40) rfl
    · intro w' hb' fr hout hin
      have h46 : fr.tmps.getD 46 undef = .pointer (some ⟨w.heap.size, 0, none⟩) := hin 46 (by decide) (by decide)
      have h40 : fr.tmps.getD 40 undef = .bool true := hin 40 (by decide) (by decide)
      clear hout hin
      exact op_load (n := a) (.tmp 46) rfl h46 (cells3a (hx.below hb' hx.lt)) (wanted_some (g := 37) (t := 40) (b := true) rfl rfl h40) rfl
    · intro w' hb' fr hout hin
      have e1 : fr.tmps.getD 1 undef = .pointer (some ⟨w.heap.size, 0, none⟩) := hout 1 (by decide)
      have h40 : fr.tmps.getD 40 undef = .bool true := hin 40 (by decide) (by decide)
      clear hout hin
      exact op_field (.tmp 1) rfl (by omega) e1 (wanted_some (g := 37) (t := 40) (b := true) rfl rfl h40) rfl
    · intro w' hb' fr hout hin
      have h48 : fr.tmps.getD 48 undef = .pointer (some ⟨w.heap.size, 4, none⟩) := hin 48 (by decide) (by decide)
      have h40 : fr.tmps.getD 40 undef = .bool true := hin 40 (by decide) (by decide)
      clear hout hin
      exact op_load (n := b) (.tmp 48) rfl h48 (cells3b (hx.below hb' hx.lt)) (wanted_some (g := 37) (t := 40) (b := true) rfl rfl h40) rfl
    · intro w' hb' fr hout hin
      have h47 : fr.tmps.getD 47 undef = W a := hin 47 (by decide) (by decide)
      have h49 : fr.tmps.getD 49 undef = W b := hin 49 (by decide) (by decide)
      have h40 : fr.tmps.getD 40 undef = .bool true := hin 40 (by decide) (by decide)
      clear hout hin
      exact relStep_callW 51 #[W a, W b] (wanted_some (g := 37) (t := 40) (b := true) rfl rfl h40) (K8.out _) (fun _ => rfl) (by have hh := (And.intro h47 h49); go_simp)
    · intro w' hb' fr hout hin
      have h45 : fr.tmps.getD 45 undef = W m := hin 45 (by decide) (by decide)
      have h50 : fr.tmps.getD 50 undef = W m := hin 50 (by decide) (by decide)
      have h40 : fr.tmps.getD 40 undef = .bool true := hin 40 (by decide) (by decide)
      clear hout hin
      exact op_eqW (n := m) (.tmp 45) (.tmp 50) _ rfl h45 h50 (wanted_some (g := 37) (t := 40) (b := true) rfl rfl h40) rfl
    · intro w' hb' fr hout hin
      have h40 : fr.tmps.getD 40 undef = .bool true := hin 40 (by decide) (by decide)
      have h51 : fr.tmps.getD 51 undef = .bool true := hin 51 (by decide) (by decide)
      clear hout hin
      exact relStep_pick (.tmp 40) (.tmp 51) (.const (.bool false)) rfl h40 (wanted_none rfl) (by show fr.tmps.getD 51 undef = _; rw [h51])
    · intro w' hb' fr hout hin
      have h52 : fr.tmps.getD 52 undef = .bool true := hin 52 (by decide) (by decide)
      clear hout hin
      exact relStep_move (.tmp 52) rfl (wanted_none rfl) (by show fr.tmps.getD 52 undef = _; rw [h52])
    · intro w' hb' fr hout hin
      have h53 : fr.tmps.getD 53 undef = .bool true := hin 53 (by decide) (by decide)
      clear hout hin
      exact relStep_callV 35 #[] (wanted_some (g := 50) (t := 53) (b := true) rfl rfl h53) (wakes_c _) (fun _ => rfl) (by go_simp)
    · intro w' hb' fr hout hin
      have h53 : fr.tmps.getD 53 undef = .bool true := hin 53 (by decide) (by decide)
      have h54 : fr.tmps.getD 54 undef = .bool true := hin 54 (by decide) (by decide)
      clear hout hin
      exact relStep_pick (.tmp 53) (.tmp 54) (.const (.bool false)) rfl h53 (wanted_none rfl) (by show fr.tmps.getD 54 undef = _; rw [h54])
    · intro w' hb' fr hout hin
      have h55 : fr.tmps.getD 55 undef = .bool true := hin 55 (by decide) (by decide)
      clear hout hin
      exact relStep_assign (.tmp 55) rfl (wanted_none rfl) (by show fr.tmps.getD 55 undef = _; rw [h55])
  · intro w' hb'
    refine relAsk_in (by rfl) ?_
    intro v3 h3
    obtain rfl : v3 = .pointer (some ⟨w.heap.size, 0, none⟩) := h3
    refine relAsk_in (by rfl) ?_
    intro v4 h4
    obtain rfl : v4 = W a := h4
    refine relAsk_in (by rfl) ?_
    intro v5 h5
    obtain rfl : v5 = .pointer (some ⟨w.heap.size, 4, none⟩) := h5
    refine relAsk_in (by rfl) ?_
    intro v6 h6
    obtain rfl : v6 = W b := h6
    refine relAsk_in (by rfl) ?_
    intro v7 h7
    obtain rfl : v7 = W q := h7
    refine relAsk_in (by rfl) ?_
    intro v8 h8
    obtain rfl : v8 = .pointer (some ⟨w.heap.size, 0, none⟩) := h8
    refine relAsk_in (by rfl) ?_
    intro v9 h9
    obtain rfl : v9 = W a := h9
    refine relAsk_in (by rfl) ?_
    intro v10 h10
    obtain rfl : v10 = .pointer (some ⟨w.heap.size, 4, none⟩) := h10
    refine relAsk_in (by rfl) ?_
    intro v11 h11
    obtain rfl : v11 = W b := h11
    refine relAsk_in (by rfl) ?_
    intro v12 h12
    obtain rfl : v12 = W q := h12
    refine relAsk_in (by rfl) ?_
    intro v13 h13
    obtain rfl : v13 = .bool true := h13
    refine relAsk_in (by rfl) ?_
    intro v14 h14
    obtain rfl : v14 = .bool true := h14
    refine relAsk_in (by rfl) ?_
    intro v15 h15
    obtain rfl : v15 = .pointer (some ⟨w.heap.size, 0, none⟩) := h15
    refine relAsk_in (by rfl) ?_
    intro v16 h16
    obtain rfl : v16 = W a := h16
    refine relAsk_in (by rfl) ?_
    intro v17 h17
    obtain rfl : v17 = .pointer (some ⟨w.heap.size, 4, none⟩) := h17
    refine relAsk_in (by rfl) ?_
    intro v18 h18
    obtain rfl : v18 = W b := h18
    refine relAsk_in (by rfl) ?_
    intro v19 h19
    obtain rfl : v19 = W r := h19
    refine relAsk_in (by rfl) ?_
    intro v20 h20
    obtain rfl : v20 = .pointer (some ⟨w.heap.size, 0, none⟩) := h20
    refine relAsk_in (by rfl) ?_
    intro v21 h21
    obtain rfl : v21 = W a := h21
    refine relAsk_in (by rfl) ?_
    intro v22 h22
    obtain rfl : v22 = .pointer (some ⟨w.heap.size, 4, none⟩) := h22
    refine relAsk_in (by rfl) ?_
    intro v23 h23
    obtain rfl : v23 = W b := h23
    refine relAsk_in (by rfl) ?_
    intro v24 h24
    obtain rfl : v24 = W r := h24
    refine relAsk_in (by rfl) ?_
    intro v25 h25
    obtain rfl : v25 = .bool true := h25
    refine relAsk_in (by rfl) ?_
    intro v26 h26
    obtain rfl : v26 = .bool true := h26
    refine relAsk_in (by rfl) ?_
    intro v27 h27
    obtain rfl : v27 = .bool true := h27
    refine relAsk_in (by rfl) ?_
    intro v28 h28
    obtain rfl : v28 = .pointer (some ⟨w.heap.size, 0, none⟩) := h28
    refine relAsk_in (by rfl) ?_
    intro v29 h29
    obtain rfl : v29 = W a := h29
    refine relAsk_in (by rfl) ?_
    intro v30 h30
    obtain rfl : v30 = .pointer (some ⟨w.heap.size, 4, none⟩) := h30
    refine relAsk_in (by rfl) ?_
    intro v31 h31
    obtain rfl : v31 = W b := h31
    refine relAsk_in (by rfl) ?_
    intro v32 h32
    obtain rfl : v32 = W s := h32
    refine relAsk_in (by rfl) ?_
    intro v33 h33
    obtain rfl : v33 = .pointer (some ⟨w.heap.size, 0, none⟩) := h33
    refine relAsk_in (by rfl) ?_
    intro v34 h34
    obtain rfl : v34 = W a := h34
    refine relAsk_in (by rfl) ?_
    intro v35 h35
    obtain rfl : v35 = .pointer (some ⟨w.heap.size, 4, none⟩) := h35
    refine relAsk_in (by rfl) ?_
    intro v36 h36
    obtain rfl : v36 = W b := h36
    refine relAsk_in (by rfl) ?_
    intro v37 h37
    obtain rfl : v37 = W s := h37
    refine relAsk_in (by rfl) ?_
    intro v38 h38
    obtain rfl : v38 = .bool true := h38
    refine relAsk_in (by rfl) ?_
    intro v39 h39
    obtain rfl : v39 = .bool true := h39
    refine relAsk_in (by rfl) ?_
    intro v40 h40
    obtain rfl : v40 = .bool true := h40
    refine relAsk_in (by rfl) ?_
    intro v41 h41
    obtain rfl : v41 = .pointer (some ⟨w.heap.size, 0, none⟩) := h41
    refine relAsk_in (by rfl) ?_
    intro v42 h42
    obtain rfl : v42 = W a := h42
    refine relAsk_in (by rfl) ?_
    intro v43 h43
    obtain rfl : v43 = .pointer (some ⟨w.heap.size, 4, none⟩) := h43
    refine relAsk_in (by rfl) ?_
    intro v44 h44
    obtain rfl : v44 = W b := h44
    refine relAsk_in (by rfl) ?_
    intro v45 h45
    obtain rfl : v45 = W m := h45
    refine relAsk_in (by rfl) ?_
    intro v46 h46
    obtain rfl : v46 = .pointer (some ⟨w.heap.size, 0, none⟩) := h46
    refine relAsk_in (by rfl) ?_
    intro v47 h47
    obtain rfl : v47 = W a := h47
    refine relAsk_in (by rfl) ?_
    intro v48 h48
    obtain rfl : v48 = .pointer (some ⟨w.heap.size, 4, none⟩) := h48
    refine relAsk_in (by rfl) ?_
    intro v49 h49
    obtain rfl : v49 = W b := h49
    refine relAsk_in (by rfl) ?_
    intro v50 h50
    obtain rfl : v50 = W m := h50
    refine relAsk_in (by rfl) ?_
    intro v51 h51
    obtain rfl : v51 = .bool true := h51
    refine relAsk_in (by rfl) ?_
    intro v52 h52
    obtain rfl : v52 = .bool true := h52
    refine relAsk_in (by rfl) ?_
    intro v53 h53
    obtain rfl : v53 = .bool true := h53
    refine relAsk_in (by rfl) ?_
    intro v54 h54
    obtain rfl : v54 = .bool true := h54
    refine relAsk_in (by rfl) ?_
    intro v55 h55
    obtain rfl : v55 = .bool true := h55
    refine relAsk_in (by rfl) ?_
    intro v2 h2
    obtain rfl : v2 = .bool true := h2
    refine relAsk_nil ?_
    refine wpList_nil ?_
    go_simp
    go_wp2_with fail
    go_ret
    exact ⟨rfl, hW.trans (hb'.mono hW.size)⟩
end Go.Proofs.Ytihffojljbgpcaa
