/- The law WordModulo, by the contracts of its callees. -/
import Derived.Test.YtihffojljbgpcaaOps
import Derived.Test.YtihffojljbgpcaaRef2
import Derived.Test.YtihffojljbgpcaaRef3
import Derived.Test.YtihffojljbgpcaaWordMod2
import Derived.Test.YtihffojljbgpcaaWordMod3
import Derived.Test.YtihffojljbgpcaaWordExp
import Derived.Test.YtihffojljbgpcaaWakes
namespace Go.Proofs.Ytihffojljbgpcaa
open Go.RowKit

theorem mod_same {n c : Nat} (hc : Big c) : (if c = 0 then c else n % c % 115792089237316195423570985008687907853269984665640564039457584007913129639936) = if c = 0 then 0 else n % c := by
  unfold Big at hc
  split
  · assumption
  · exact Nat.mod_eq_of_lt (Nat.lt_trans (Nat.mod_lt _ (by omega)) hc)
set_option maxRecDepth 100000 in
set_option maxHeartbeats 12800000 in
theorem modulo_c {a b c : Nat} (ha : Big a) (hb : Big b) (hc : Big c) (w : World) : Calls Try.prog 6 #[V3 a b c] w (RetV (.bool true) w) := by
  have iA := isW_lim ha
  have iB := isW_lim hb
  have iC := isW_lim hc
  obtain ⟨s, hs⟩ : ∃ n, n = if c = 0 then 0 else (a + b) % c := ⟨_, rfl⟩
  obtain ⟨m, hm⟩ : ∃ n, n = if c = 0 then 0 else a * b % c := ⟨_, rfl⟩
  obtain ⟨p, hp⟩ : ∃ n, n = a ^ b % 115792089237316195423570985008687907853269984665640564039457584007913129639936 := ⟨_, rfl⟩
  have k1 : ∀ w, Calls Try.prog 52 #[W a, W b, W c] w (RetW s w) := fun w => by rw [hs]; exact addmod_c iA iB iC w
  have k2 : ∀ w, Calls Try.prog 53 #[W a, W b, W c] w (RetW s w) := fun w => by have h := addmod1_c ha hb hc w; rwa [mod_same hc, ← hs] at h
  have k3 : ∀ w, Calls Try.prog 54 #[W a, W b, W c] w (RetW m w) := fun w => by rw [hm]; exact RK.mulmod_c ha hb hc w
  have k4 : ∀ w, Calls Try.prog 55 #[W a, W b, W c] w (RetW m w) := fun w => by have h := mulmod1_c ha hb hc w; rwa [mod_same hc, ← hm] at h
  have k5 : ∀ w, Calls Try.prog 56 #[W a, W b] w (RetW p w) := fun w => by rw [hp]; exact exp_c iA iB w
  have k6 : ∀ w, Calls Try.prog 57 #[W a, W b] w (RetW p w) := fun w => by have h := exp1_c ha hb hp w; rwa [show p % 115792089237316195423570985008687907853269984665640564039457584007913129639936 = p by rw [hp]; exact Nat.mod_mod _ _] at h
  have K1 := Lib.hid k1
  have K2 := Lib.hid k2
  have K3 := Lib.hid k3
  have K4 := Lib.hid k4
  have K5 := Lib.hid k5
  have K6 := Lib.hid k6
  have hx := box3 w a b c
  have hW : Below w.heap.size w (Box3 w a b c) := (Below.refl _ _).alloc (Nat.le_refl _) _
  dsimp only [Box3] at hx hW
  clear hs hm hp k1 k2 k3 k4 k5 k6 iA iB iC
  go_enter Try.func6, Try.ntmps6
  go_wp2_with fail
  generalize w.alloc (.cells #[.int .u64 (lim 0 a : Nat), .int .u64 (lim 1 a : Nat), .int .u64 (lim 2 a : Nat), .int .u64 (lim 3 a : Nat), .int .u64 (lim 0 b : Nat), .int .u64 (lim 1 b : Nat), .int .u64 (lim 2 b : Nat), .int .u64 (lim 3 b : Nat), .int .u64 (lim 0 c : Nat), .int .u64 (lim 1 c : Nat), .int .u64 (lim 2 c : Nat), .int .u64 (lim 3 c : Nat)] 26) = X at *
  refine wp_region_see 49 [3, 4, 5, 6, 7, 8, 9, 10, 11, 12, 13, 14, 15, 16, 17, 18, 19, 20, 21, 22, 23, 24, 25, 26, 27, 28, 29, 30, 31, 32, 33, 34, 35, 36, 37, 38, 39, 40, 41, 42, 43, 44, 45, 46, 47, 48, 49, 50, 2] [(3, .is (.pointer (some ⟨w.heap.size, 0, none⟩))), (4, .is (W a)), (5, .is (.pointer (some ⟨w.heap.size, 4, none⟩))), (6, .is (W b)), (7, .is (.pointer (some ⟨w.heap.size, 8, none⟩))), (8, .is (W c)), (9, .is (W s)), (10, .is (.pointer (some ⟨w.heap.size, 0, none⟩))), (11, .is (W a)), (12, .is (.pointer (some ⟨w.heap.size, 4, none⟩))), (13, .is (W b)), (14, .is (.pointer (some ⟨w.heap.size, 8, none⟩))), (15, .is (W c)), (16, .is (W s)), (17, .is (.bool true)), (18, .is (.bool true)), (19, .is (.pointer (some ⟨w.heap.size, 0, none⟩))), (20, .is (W a)), (21, .is (.pointer (some ⟨w.heap.size, 4, none⟩))), (22, .is (W b)), (23, .is (.pointer (some ⟨w.heap.size, 8, none⟩))), (24, .is (W c)), (25, .is (W m)), (26, .is (.pointer (some ⟨w.heap.size, 0, none⟩))), (27, .is (W a)), (28, .is (.pointer (some ⟨w.heap.size, 4, none⟩))), (29, .is (W b)), (30, .is (.pointer (some ⟨w.heap.size, 8, none⟩))), (31, .is (W c)), (32, .is (W m)), (33, .is (.bool true)), (34, .is (.bool true)), (35, .is (.bool true)), (36, .is (.pointer (some ⟨w.heap.size, 0, none⟩))), (37, .is (W a)), (38, .is (.pointer (some ⟨w.heap.size, 4, none⟩))), (39, .is (W b)), (40, .is (W p)), (41, .is (.pointer (some ⟨w.heap.size, 0, none⟩))), (42, .is (W a)), (43, .is (.pointer (some ⟨w.heap.size, 4, none⟩))), (44, .is (W b)), (45, .is (W p)), (46, .is (.bool true)), (47, .is (.bool true)), (48, .is (.bool true)), (49, .is (.bool true)), (50, .is (.bool true)), (2, .is (.bool true))] (by kernel_rfl) (by kernel_rfl) (by rfl) ?_ ?_
  · refine seeOps_cons ?_ (seeOps_cons ?_ (seeOps_cons ?_ (seeOps_cons ?_ (seeOps_cons ?_ (seeOps_cons ?_ (seeOps_cons ?_ (seeOps_cons ?_ (seeOps_cons ?_ (seeOps_cons ?_ (seeOps_cons ?_ (seeOps_cons ?_ (seeOps_cons ?_ (seeOps_cons ?_ (seeOps_cons ?_ (seeOps_cons ?_ (seeOps_cons ?_ (seeOps_cons ?_ (seeOps_cons ?_ (seeOps_cons ?_ (seeOps_cons ?_ (seeOps_cons ?_ (seeOps_cons ?_ (seeOps_cons ?_ (seeOps_cons ?_ (seeOps_cons ?_ (seeOps_cons ?_ (seeOps_cons ?_ (seeOps_cons ?_ (seeOps_cons ?_ (seeOps_cons ?_ (seeOps_cons ?_ (seeOps_cons ?_ (seeOps_cons ?_ (seeOps_cons ?_ (seeOps_cons ?_ (seeOps_cons ?_ (seeOps_cons ?_ (seeOps_cons ?_ (seeOps_cons ?_ (seeOps_cons ?_ (seeOps_cons ?_ (seeOps_cons ?_ (seeOps_cons ?_ (seeOps_cons ?_ (seeOps_cons ?_ (seeOps_cons ?_ (seeOps_cons ?_ (seeOps_cons ?_ seeOps_nil))))))))))))))))))))))))))))))))))))))))))))))))
    · intro w' hb' fr hout hin
      have e1 : fr.tmps.getD 1 undef = .pointer (some ⟨w.heap.size, 0, none⟩) := hout 1 (by decide)
      clear hout hin
      exact op_field (.tmp 1) rfl (by omega) e1 (wanted_none rfl) rfl
    · intro w' hb' fr hout hin
      have h3 : fr.tmps.getD 3 undef = .pointer (some ⟨w.heap.size, 0, none⟩) := hin 3 (by decide) (by decide)
      clear hout hin
      exact op_load (n := a) (.tmp 3) rfl h3 (cells3a (hx.below hb' hx.lt)) (wanted_none rfl) rfl
    · intro w' hb' fr hout hin
      have e1 : fr.tmps.getD 1 undef = .pointer (some ⟨w.heap.size, 0, none⟩) := hout 1 (by decide)
      clear hout hin
      exact op_field (.tmp 1) rfl (by omega) e1 (wanted_none rfl) rfl
    · intro w' hb' fr hout hin
      have h5 : fr.tmps.getD 5 undef = .pointer (some ⟨w.heap.size, 4, none⟩) := hin 5 (by decide) (by decide)
      clear hout hin
      exact op_load (n := b) (.tmp 5) rfl h5 (cells3b (hx.below hb' hx.lt)) (wanted_none rfl) rfl
    · intro w' hb' fr hout hin
      have e1 : fr.tmps.getD 1 undef = .pointer (some ⟨w.heap.size, 0, none⟩) := hout 1 (by decide)
      clear hout hin
      exact op_field (.tmp 1) rfl (by omega) e1 (wanted_none rfl) rfl
    · intro w' hb' fr hout hin
      have h7 : fr.tmps.getD 7 undef = .pointer (some ⟨w.heap.size, 8, none⟩) := hin 7 (by decide) (by decide)
      clear hout hin
      exact op_load (n := c) (.tmp 7) rfl h7 (cells3c (hx.below hb' hx.lt)) (wanted_none rfl) rfl
    · intro w' hb' fr hout hin
      have h4 : fr.tmps.getD 4 undef = W a := hin 4 (by decide) (by decide)
      have h6 : fr.tmps.getD 6 undef = W b := hin 6 (by decide) (by decide)
      have h8 : fr.tmps.getD 8 undef = W c := hin 8 (by decide) (by decide)
      clear hout hin
      exact relStep_callW 52 #[W a, W b, W c] (wanted_none rfl) (K1.out _) (fun _ => rfl) (by have hh := (And.intro h4 (And.intro h6 h8)); go_simp)
    · intro w' hb' fr hout hin
      have e1 : fr.tmps.getD 1 undef = .pointer (some ⟨w.heap.size, 0, none⟩) := hout 1 (by decide)
      clear hout hin
      exact op_field (.tmp 1) rfl (by omega) e1 (wanted_none rfl) rfl
    · intro w' hb' fr hout hin
      have h10 : fr.tmps.getD 10 undef = .pointer (some ⟨w.heap.size, 0, none⟩) := hin 10 (by decide) (by decide)
      clear hout hin
      exact op_load (n := a) (.tmp 10) rfl h10 (cells3a (hx.below hb' hx.lt)) (wanted_none rfl) rfl
    · intro w' hb' fr hout hin
      have e1 : fr.tmps.getD 1 undef = .pointer (some ⟨w.heap.size, 0, none⟩) := hout 1 (by decide)
      clear hout hin
      exact op_field (.tmp 1) rfl (by omega) e1 (wanted_none rfl) rfl
    · intro w' hb' fr hout hin
      have h12 : fr.tmps.getD 12 undef = .pointer (some ⟨w.heap.size, 4, none⟩) := hin 12 (by decide) (by decide)
      clear hout hin
      exact op_load (n := b) (.tmp 12) rfl h12 (cells3b (hx.below hb' hx.lt)) (wanted_none rfl) rfl
    · intro w' hb' fr hout hin
      have e1 : fr.tmps.getD 1 undef = .pointer (some ⟨w.heap.size, 0, none⟩) := hout 1 (by decide)
      clear hout hin
      exact op_field (.tmp 1) rfl (by omega) e1 (wanted_none rfl) rfl
    · intro w' hb' fr hout hin
      have h14 : fr.tmps.getD 14 undef = .pointer (some ⟨w.heap.size, 8, none⟩) := hin 14 (by decide) (by decide)
      clear hout hin
      exact op_load (n := c) (.tmp 14) rfl h14 (cells3c (hx.below hb' hx.lt)) (wanted_none rfl) rfl
    · intro w' hb' fr hout hin
      have h11 : fr.tmps.getD 11 undef = W a := hin 11 (by decide) (by decide)
      have h13 : fr.tmps.getD 13 undef = W b := hin 13 (by decide) (by decide)
      have h15 : fr.tmps.getD 15 undef = W c := hin 15 (by decide) (by decide)
      clear hout hin
      exact relStep_callW 53 #[W a, W b, W c] (wanted_none rfl) (K2.out _) (fun _ => rfl) (by have hh := (And.intro h11 (And.intro h13 h15)); go_simp)
    · intro w' hb' fr hout hin
      have h9 : fr.tmps.getD 9 undef = W s := hin 9 (by decide) (by decide)
      have h16 : fr.tmps.getD 16 undef = W s := hin 16 (by decide) (by decide)
      clear hout hin
      exact op_eqW (n := s) (.tmp 9) (.tmp 16) _ rfl h9 h16 (wanted_none rfl) rfl
    · intro w' hb' fr hout hin
      have h17 : fr.tmps.getD 17 undef = .bool true := hin 17 (by decide) (by decide)
      clear hout hin
      exact relStep_move (.tmp 17) rfl (wanted_none rfl) (by show fr.tmps.getD 17 undef = _; rw [h17])
    · intro w' hb' fr hout hin
      have e1 : fr.tmps.getD 1 undef = .pointer (some ⟨w.heap.size, 0, none⟩) := hout 1 (by decide)
      have h18 : fr.tmps.getD 18 undef = .bool true := hin 18 (by decide) (by decide)
      clear hout hin
      exact op_field (.tmp 1) rfl (by omega) e1 (wanted_some (g := 15) (t := 18) (b := true) rfl rfl h18) rfl
    · intro w' hb' fr hout hin
      have h19 : fr.tmps.getD 19 undef = .pointer (some ⟨w.heap.size, 0, none⟩) := hin 19 (by decide) (by decide)
      have h18 : fr.tmps.getD 18 undef = .bool true := hin 18 (by decide) (by decide)
      clear hout hin
      exact op_load (n := a) (.tmp 19) rfl h19 (cells3a (hx.below hb' hx.lt)) (wanted_some (g := 15) (t := 18) (b := true) rfl rfl h18) rfl
    · intro w' hb' fr hout hin
      have e1 : fr.tmps.getD 1 undef = .pointer (some ⟨w.heap.size, 0, none⟩) := hout 1 (by decide)
      have h18 : fr.tmps.getD 18 undef = .bool true := hin 18 (by decide) (by decide)
      clear hout hin
      exact op_field (.tmp 1) rfl (by omega) e1 (wanted_some (g := 15) (t := 18) (b := true) rfl rfl h18) rfl
    · intro w' hb' fr hout hin
      have h21 : fr.tmps.getD 21 undef = .pointer (some ⟨w.heap.size, 4, none⟩) := hin 21 (by decide) (by decide)
      have h18 : fr.tmps.getD 18 undef = .bool true := hin 18 (by decide) (by decide)
      clear hout hin
      exact op_load (n := b) (.tmp 21) rfl h21 (cells3b (hx.below hb' hx.lt)) (wanted_some (g := 15) (t := 18) (b := true) rfl rfl h18) rfl
    · intro w' hb' fr hout hin
      have e1 : fr.tmps.getD 1 undef = .pointer (some ⟨w.heap.size, 0, none⟩) := hout 1 (by decide)
      have h18 : fr.tmps.getD 18 undef = .bool true := hin 18 (by decide) (by decide)
      clear hout hin
      exact op_field (.tmp 1) rfl (by omega) e1 (wanted_some (g := 15) (t := 18) (b := true) rfl rfl h18) rfl
    · intro w' hb' fr hout hin
      have h23 : fr.tmps.getD 23 undef = .pointer (some ⟨w.heap.size, 8, none⟩) := hin 23 (by decide) (by decide)
      have h18 : fr.tmps.getD 18 undef = .bool true := hin 18 (by decide) (by decide)
      clear hout hin
      exact op_load (n := c) (.tmp 23) rfl h23 (cells3c (hx.below hb' hx.lt)) (wanted_some (g := 15) (t := 18) (b := true) rfl rfl h18) rfl
    · intro w' hb' fr hout hin
      have h20 : fr.tmps.getD 20 undef = W a := hin 20 (by decide) (by decide)
      have h22 : fr.tmps.getD 22 undef = W b := hin 22 (by decide) (by decide)
      have h24 : fr.tmps.getD 24 undef = W c := hin 24 (by decide) (by decide)
      have h18 : fr.tmps.getD 18 undef = .bool true := hin 18 (by decide) (by decide)
      clear hout hin
      exact relStep_callW 54 #[W a, W b, W c] (wanted_some (g := 15) (t := 18) (b := true) rfl rfl h18) (K3.out _) (fun _ => rfl) (by have hh := (And.intro h20 (And.intro h22 h24)); go_simp)
    · intro w' hb' fr hout hin
      have e1 : fr.tmps.getD 1 undef = .pointer (some ⟨w.heap.size, 0, none⟩) := hout 1 (by decide)
      have h18 : fr.tmps.getD 18 undef = .bool true := hin 18 (by decide) (by decide)
      clear hout hin
      exact op_field (.tmp 1) rfl (by omega) e1 (wanted_some (g := 15) (t := 18) (b := true) rfl rfl h18) rfl
    · intro w' hb' fr hout hin
      have h26 : fr.tmps.getD 26 undef = .pointer (some ⟨w.heap.size, 0, none⟩) := hin 26 (by decide) (by decide)
      have h18 : fr.tmps.getD 18 undef = .bool true := hin 18 (by decide) (by decide)
      clear hout hin
      exact op_load (n := a) (.tmp 26) rfl h26 (cells3a (hx.below hb' hx.lt)) (wanted_some (g := 15) (t := 18) (b := true) rfl rfl h18) rfl
    · intro w' hb' fr hout hin
      have e1 : fr.tmps.getD 1 undef = .pointer (some ⟨w.heap.size, 0, none⟩) := hout 1 (by decide)
      have h18 : fr.tmps.getD 18 undef = .bool true := hin 18 (by decide) (by decide)
      clear hout hin
      exact op_field (.tmp 1) rfl (by omega) e1 (wanted_some (g := 15) (t := 18) (b := true) rfl rfl h18) rfl
    · intro w' hb' fr hout hin
      have h28 : fr.tmps.getD 28 undef = .pointer (some ⟨w.heap.size, 4, none⟩) := hin 28 (by decide) (by decide)
      have h18 : fr.tmps.getD 18 undef = .bool true := hin 18 (by decide) (by decide)
      clear hout hin
      exact op_load (n := b) (.tmp 28) rfl h28 (cells3b (hx.below hb' hx.lt)) (wanted_some (g := 15) (t := 18) (b := true) rfl rfl h18) rfl
    · intro w' hb' fr hout hin
      have e1 : fr.tmps.getD 1 undef = .pointer (some ⟨w.heap.size, 0, none⟩) := hout 1 (by decide)
      have h18 : fr.tmps.getD 18 undef = .bool true := hin 18 (by decide) (by decide)
      clear hout hin
      exact op_field (.tmp 1) rfl (by omega) e1 (wanted_some (g := 15) (t := 18) (b := true) rfl rfl h18) rfl
    · intro w' hb' fr hout hin
      have h30 : fr.tmps.getD 30 undef = .pointer (some ⟨w.heap.size, 8, none⟩) := hin 30 (by decide) (by decide)
      have h18 : fr.tmps.getD 18 undef = .bool true := hin 18 (by decide) (by decide)
      clear hout hin
      exact op_load (n := c) (.tmp 30) rfl h30 (cells3c (hx.below hb' hx.lt)) (wanted_some (g := 15) (t := 18) (b := true) rfl rfl h18) rfl
    · intro w' hb' fr hout hin
      have h27 : fr.tmps.getD 27 undef = W a := hin 27 (by decide) (by decide)
      have h29 : fr.tmps.getD 29 undef = W b := hin 29 (by decide) (by decide)
      have h31 : fr.tmps.getD 31 undef = W c := hin 31 (by decide) (by decide)
      have h18 : fr.tmps.getD 18 undef = .bool true := hin 18 (by decide) (by decide)
      clear hout hin
      exact relStep_callW 55 #[W a, W b, W c] (wanted_some (g := 15) (t := 18) (b := true) rfl rfl h18) (K4.out _) (fun _ => rfl) (by have hh := (And.intro h27 (And.intro h29 h31)); go_simp)
    · intro w' hb' fr hout hin
      have h25 : fr.tmps.getD 25 undef = W m := hin 25 (by decide) (by decide)
      have h32 : fr.tmps.getD 32 undef = W m := hin 32 (by decide) (by decide)
      have h18 : fr.tmps.getD 18 undef = .bool true := hin 18 (by decide) (by decide)
      clear hout hin
      exact op_eqW (n := m) (.tmp 25) (.tmp 32) _ rfl h25 h32 (wanted_some (g := 15) (t := 18) (b := true) rfl rfl h18) rfl
    · intro w' hb' fr hout hin
      have h18 : fr.tmps.getD 18 undef = .bool true := hin 18 (by decide) (by decide)
      have h33 : fr.tmps.getD 33 undef = .bool true := hin 33 (by decide) (by decide)
      clear hout hin
      exact relStep_pick (.tmp 18) (.tmp 33) (.const (.bool false)) rfl h18 (wanted_none rfl) (by show fr.tmps.getD 33 undef = _; rw [h33])
    · intro w' hb' fr hout hin
      have h34 : fr.tmps.getD 34 undef = .bool true := hin 34 (by decide) (by decide)
      clear hout hin
      exact relStep_move (.tmp 34) rfl (wanted_none rfl) (by show fr.tmps.getD 34 undef = _; rw [h34])
    · intro w' hb' fr hout hin
      have e1 : fr.tmps.getD 1 undef = .pointer (some ⟨w.heap.size, 0, none⟩) := hout 1 (by decide)
      have h35 : fr.tmps.getD 35 undef = .bool true := hin 35 (by decide) (by decide)
      clear hout hin
      exact op_field (.tmp 1) rfl (by omega) e1 (wanted_some (g := 32) (t := 35) (b := true) rfl rfl h35) rfl
    · intro w' hb' fr hout hin
      have h36 : fr.tmps.getD 36 undef = .pointer (some ⟨w.heap.size, 0, none⟩) := hin 36 (by decide) (by decide)
      have h35 : fr.tmps.getD 35 undef = .bool true := hin 35 (by decide) (by decide)
      clear hout hin
      exact op_load (n := a) (.tmp 36) rfl h36 (cells3a (hx.below hb' hx.lt)) (wanted_some (g := 32) (t := 35) (b := true) rfl rfl h35) rfl
    · intro w' hb' fr hout hin
      have e1 : fr.tmps.getD 1 undef = .pointer (some ⟨w.heap.size, 0, none⟩) := hout 1 (by decide)
      have h35 : fr.tmps.getD 35 undef = .bool true := hin 35 (by decide) (by decide)
      clear hout hin
      exact op_field (.tmp 1) rfl (by omega) e1 (wanted_some (g := 32) (t := 35) (b := true) rfl rfl h35) rfl
    · intro w' hb' fr hout hin
      have h38 : fr.tmps.getD 38 undef = .pointer (some ⟨w.heap.size, 4, none⟩) := hin 38 (by decide) (by decide)
      have h35 : fr.tmps.getD 35 undef = .bool true := hin 35 (by decide) (by decide)
      clear hout hin
      exact op_load (n := b) (.tmp 38) rfl h38 (cells3b (hx.below hb' hx.lt)) (wanted_some (g := 32) (t := 35) (b := true) rfl rfl h35) rfl
    · intro w' hb' fr hout hin
      have h37 : fr.tmps.getD 37 undef = W a := hin 37 (by decide) (by decide)
      have h39 : fr.tmps.getD 39 undef = W b := hin 39 (by decide) (by decide)
      have h35 : fr.tmps.getD 35 undef = .bool true := hin 35 (by decide) (by decide)
      clear hout hin
      exact relStep_callW 56 #[W a, W b] (wanted_some (g := 32) (t := 35) (b := true) rfl rfl h35) (K5.out _) (fun _ => rfl) (by have hh := (And.intro h37 h39); go_simp)
    · intro w' hb' fr hout hin
      have e1 : fr.tmps.getD 1 undef = .pointer (some ⟨w.heap.size, 0, none⟩) := hout 1 (by decide)
      have h35 : fr.tmps.getD 35 undef = .bool true := hin 35 (by decide) (by decide)
      clear hout hin
      exact op_field (.tmp 1) rfl (by omega) e1 (wanted_some (g := 32) (t := 35) (b := true) rfl rfl h35) rfl
    · intro w' hb' fr hout hin
      have h41 : fr.tmps.getD 41 undef = .pointer (some ⟨w.heap.size, 0, none⟩) := hin 41 (by decide) (by decide)
      have h35 : fr.tmps.getD 35 undef = .bool true := hin 35 (by decide) (by decide)
      clear hout hin
      exact op_load (n := a) (.tmp 41) rfl h41 (cells3a (hx.below hb' hx.lt)) (wanted_some (g := 32) (t := 35) (b := true) rfl rfl h35) rfl
    · intro w' hb' fr hout hin
      have e1 : fr.tmps.getD 1 undef = .pointer (some ⟨w.heap.size, 0, none⟩) := hout 1 (by decide)
      have h35 : fr.tmps.getD 35 undef = .bool true := hin 35 (by decide) (by decide)
      clear hout hin
      exact op_field (.tmp 1) rfl (by omega) e1 (wanted_some (g := 32) (t := 35) (b := true) rfl rfl h35) rfl
    · intro w' hb' fr hout hin
      have h43 : fr.tmps.getD 43 undef = .pointer (some ⟨w.heap.size, 4, none⟩) := hin 43 (by decide) (by decide)
      have h35 : fr.tmps.getD 35 undef = .bool true := hin 35 (by decide) (by decide)
      clear hout hin
      exact op_load (n := b) (.tmp 43) rfl h43 (cells3b (hx.below hb' hx.lt)) (wanted_some (g := 32) (t := 35) (b := true) rfl rfl h35) rfl
    · intro w' hb' fr hout hin
      have h42 : fr.tmps.getD 42 undef = W a := hin 42 (by decide) (by decide)
      have h44 : fr.tmps.getD 44 undef = W b := hin 44 (by decide) (by decide)
      have h35 : fr.tmps.getD 35 undef = .bool true := hin 35 (by decide) (by decide)
      clear hout hin
      exact relStep_callW 57 #[W a, W b] (wanted_some (g := 32) (t := 35) (b := true) rfl rfl h35) (K6.out _) (fun _ => rfl) (by have hh := (And.intro h42 h44); go_simp)
    · intro w' hb' fr hout hin
      have h40 : fr.tmps.getD 40 undef = W p := hin 40 (by decide) (by decide)
      have h45 : fr.tmps.getD 45 undef = W p := hin 45 (by decide) (by decide)
      have h35 : fr.tmps.getD 35 undef = .bool true := hin 35 (by decide) (by decide)
      clear hout hin
      exact op_eqW (n := p) (.tmp 40) (.tmp 45) _ rfl h40 h45 (wanted_some (g := 32) (t := 35) (b := true) rfl rfl h35) rfl
    · intro w' hb' fr hout hin
      have h35 : fr.tmps.getD 35 undef = .bool true := hin 35 (by decide) (by decide)
      have h46 : fr.tmps.getD 46 undef = .bool true := hin 46 (by decide) (by decide)
      clear hout hin
      exact relStep_pick (.tmp 35) (.tmp 46) (.const (.bool false)) rfl h35 (wanted_none rfl) (by show fr.tmps.getD 46 undef = _; rw [h46])
    · intro w' hb' fr hout hin
      have h47 : fr.tmps.getD 47 undef = .bool true := hin 47 (by decide) (by decide)
      clear hout hin
      exact relStep_move (.tmp 47) rfl (wanted_none rfl) (by show fr.tmps.getD 47 undef = _; rw [h47])
    · intro w' hb' fr hout hin
      have h48 : fr.tmps.getD 48 undef = .bool true := hin 48 (by decide) (by decide)
      clear hout hin
      exact relStep_callV 35 #[] (wanted_some (g := 45) (t := 48) (b := true) rfl rfl h48) (wakes_c _) (fun _ => rfl) (by go_simp)
    · intro w' hb' fr hout hin
      have h48 : fr.tmps.getD 48 undef = .bool true := hin 48 (by decide) (by decide)
      have h49 : fr.tmps.getD 49 undef = .bool true := hin 49 (by decide) (by decide)
      clear hout hin
      exact relStep_pick (.tmp 48) (.tmp 49) (.const (.bool false)) rfl h48 (wanted_none rfl) (by show fr.tmps.getD 49 undef = _; rw [h49])
    · intro w' hb' fr hout hin
      have h50 : fr.tmps.getD 50 undef = .bool true := hin 50 (by decide) (by decide)
      clear hout hin
      exact relStep_assign (.tmp 50) rfl (wanted_none rfl) (by show fr.tmps.getD 50 undef = _; rw [h50])
  · intro w' hb'
    refine relAsk_in (by rfl) ?_
    intro v3 h3
    obtain rfl : v3 = .pointer (some ⟨w.heap.size, 0, none⟩) := h3
    refine relAsk_in (by rfl) ?_
    intro v4 h4
    obtain rfl : v4 = W a := h4
    refine relAsk_in (by rfl) ?_
    intro v5 h5
    obtain rfl : v5 = .pointer (some ⟨w.heap.size, 4, none⟩) := h5
    refine relAsk_in (by rfl) ?_
    intro v6 h6
    obtain rfl : v6 = W b := h6
    refine relAsk_in (by rfl) ?_
    intro v7 h7
    obtain rfl : v7 = .pointer (some ⟨w.heap.size, 8, none⟩) := h7
    refine relAsk_in (by rfl) ?_
    intro v8 h8
    obtain rfl : v8 = W c := h8
    refine relAsk_in (by rfl) ?_
    intro v9 h9
    obtain rfl : v9 = W s := h9
    refine relAsk_in (by rfl) ?_
    intro v10 h10
    obtain rfl : v10 = .pointer (some ⟨w.heap.size, 0, none⟩) := h10
    refine relAsk_in (by rfl) ?_
    intro v11 h11
    obtain rfl : v11 = W a := h11
    refine relAsk_in (by rfl) ?_
    intro v12 h12
    obtain rfl : v12 = .pointer (some ⟨w.heap.size, 4, none⟩) := h12
    refine relAsk_in (by rfl) ?_
    intro v13 h13
    obtain rfl : v13 = W b := h13
    refine relAsk_in (by rfl) ?_
    intro v14 h14
    obtain rfl : v14 = .pointer (some ⟨w.heap.size, 8, none⟩) := h14
    refine relAsk_in (by rfl) ?_
    intro v15 h15
    obtain rfl : v15 = W c := h15
    refine relAsk_in (by rfl) ?_
    intro v16 h16
    obtain rfl : v16 = W s := h16
    refine relAsk_in (by rfl) ?_
    intro v17 h17
    obtain rfl : v17 = .bool true := h17
    refine relAsk_in (by rfl) ?_
    intro v18 h18
    obtain rfl : v18 = .bool true := h18
    refine relAsk_in (by rfl) ?_
    intro v19 h19
    obtain rfl : v19 = .pointer (some ⟨w.heap.size, 0, none⟩) := h19
    refine relAsk_in (by rfl) ?_
    intro v20 h20
    obtain rfl : v20 = W a := h20
    refine relAsk_in (by rfl) ?_
    intro v21 h21
    obtain rfl : v21 = .pointer (some ⟨w.heap.size, 4, none⟩) := h21
    refine relAsk_in (by rfl) ?_
    intro v22 h22
    obtain rfl : v22 = W b := h22
    refine relAsk_in (by rfl) ?_
    intro v23 h23
    obtain rfl : v23 = .pointer (some ⟨w.heap.size, 8, none⟩) := h23
    refine relAsk_in (by rfl) ?_
    intro v24 h24
    obtain rfl : v24 = W c := h24
    refine relAsk_in (by rfl) ?_
    intro v25 h25
    obtain rfl : v25 = W m := h25
    refine relAsk_in (by rfl) ?_
    intro v26 h26
    obtain rfl : v26 = .pointer (some ⟨w.heap.size, 0, none⟩) := h26
    refine relAsk_in (by rfl) ?_
    intro v27 h27
    obtain rfl : v27 = W a := h27
    refine relAsk_in (by rfl) ?_
    intro v28 h28
    obtain rfl : v28 = .pointer (some ⟨w.heap.size, 4, none⟩) := h28
    refine relAsk_in (by rfl) ?_
    intro v29 h29
    obtain rfl : v29 = W b := h29
    refine relAsk_in (by rfl) ?_
    intro v30 h30
    obtain rfl : v30 = .pointer (some ⟨w.heap.size, 8, none⟩) := h30
    refine relAsk_in (by rfl) ?_
    intro v31 h31
    obtain rfl : v31 = W c := h31
    refine relAsk_in (by rfl) ?_
    intro v32 h32
    obtain rfl : v32 = W m := h32
    refine relAsk_in (by rfl) ?_
    intro v33 h33
    obtain rfl : v33 = .bool true := h33
    refine relAsk_in (by rfl) ?_
    intro v34 h34
    obtain rfl : v34 = .bool true := h34
    refine relAsk_in (by rfl) ?_
    intro v35 h35
    obtain rfl : v35 = .bool true := h35
    refine relAsk_in (by rfl) ?_
    intro v36 h36
    obtain rfl : v36 = .pointer (some ⟨w.heap.size, 0, none⟩) := h36
    refine relAsk_in (by rfl) ?_
    intro v37 h37
    obtain rfl : v37 = W a := h37
    refine relAsk_in (by rfl) ?_
    intro v38 h38
    obtain rfl : v38 = .pointer (some ⟨w.heap.size, 4, none⟩) := h38
    refine relAsk_in (by rfl) ?_
    intro v39 h39
    obtain rfl : v39 = W b := h39
    refine relAsk_in (by rfl) ?_
    intro v40 h40
    obtain rfl : v40 = W p := h40
    refine relAsk_in (by rfl) ?_
    intro v41 h41
    obtain rfl : v41 = .pointer (some ⟨w.heap.size, 0, none⟩) := h41
    refine relAsk_in (by rfl) ?_
    intro v42 h42
    obtain rfl : v42 = W a := h42
    refine relAsk_in (by rfl) ?_
    intro v43 h43
    obtain rfl : v43 = .pointer (some ⟨w.heap.size, 4, none⟩) := h43
    refine relAsk_in (by rfl) ?_
    intro v44 h44
    obtain rfl : v44 = W b := h44
    refine relAsk_in (by rfl) ?_
    intro v45 h45
    obtain rfl : v45 = W p := h45
    refine relAsk_in (by rfl) ?_
    intro v46 h46
    obtain rfl : v46 = .bool true := h46
    refine relAsk_in (by rfl) ?_
    intro v47 h47
    obtain rfl : v47 = .bool true := h47
    refine relAsk_in (by rfl) ?_
    intro v48 h48
    obtain rfl : v48 = .bool true := h48
    refine relAsk_in (by rfl) ?_
    intro v49 h49
    obtain rfl : v49 = .bool true := h49
    refine relAsk_in (by rfl) ?_
    intro v50 h50
    obtain rfl : v50 = .bool true := h50
    refine relAsk_in (by rfl) ?_
    intro v2 h2
    obtain rfl : v2 = .bool true := h2
    refine relAsk_nil ?_
    refine wpList_nil ?_
    go_simp
    go_wp2_with fail
    go_ret
    exact ⟨rfl, hW.trans (hb'.mono hW.size)⟩
end Go.Proofs.Ytihffojljbgpcaa
