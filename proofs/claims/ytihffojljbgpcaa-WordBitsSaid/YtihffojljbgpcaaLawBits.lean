/- The law WordBits, by the contracts of its callees. -/
import Derived.Test.YtihffojljbgpcaaOps2
import Derived.Test.YtihffojljbgpcaaSext
import Derived.Test.YtihffojljbgpcaaWakes
namespace Go.Proofs.Ytihffojljbgpcaa
open Go.RowKit

set_option maxRecDepth 100000 in
set_option maxHeartbeats 12800000 in
theorem bits_c2 {a b c : Nat} (ha : Big a) (hb : Big b) (hc : Big c) (w : World) : Calls Try.prog 7 #[V3 a b c] w (RetV (.bool true) w) := by
  have iA := isW_lim ha
  have iB := isW_lim hb
  have iC := isW_lim hc
  obtain ⟨o, ho⟩ : ∃ n, n = lw (fun x y => x &&& y) a b := ⟨_, rfl⟩
  obtain ⟨p, hp⟩ : ∃ n, n = lw (fun x y => x ||| y) a b := ⟨_, rfl⟩
  obtain ⟨q, hq⟩ : ∃ n, n = lw (fun x y => x ^^^ y) a b := ⟨_, rfl⟩
  obtain ⟨n, hn⟩ : ∃ n, n = notv a := ⟨_, rfl⟩
  obtain ⟨e, he⟩ : ∃ n, n = sextv c a := ⟨_, rfl⟩
  obtain ⟨t, ht⟩ : ∃ n, n = if c < 32 then a / 256 ^ (31 - c) % 256 else 0 := ⟨_, rfl⟩
  obtain ⟨l, hl⟩ : ∃ n, n = shlv c a := ⟨_, rfl⟩
  obtain ⟨r, hr⟩ : ∃ n, n = shrv c a := ⟨_, rfl⟩
  obtain ⟨s, hs⟩ : ∃ n, n = sarv c a := ⟨_, rfl⟩
  have k1 : ∀ w, Calls Try.prog 58 #[W a, W b] w (RetW o w) := fun w => by rw [ho]; exact and_c w
  have k2 : ∀ w, Calls Try.prog 59 #[W a, W b, .int .i64 0] w (RetW o w) := fun w => by rw [ho]; exact and1_c w
  have k3 : ∀ w, Calls Try.prog 60 #[W a, W b] w (RetW p w) := fun w => by rw [hp]; exact or_c w
  have k4 : ∀ w, Calls Try.prog 59 #[W a, W b, .int .i64 1] w (RetW p w) := fun w => by rw [hp]; exact or1_c w
  have k5 : ∀ w, Calls Try.prog 61 #[W a, W b] w (RetW q w) := fun w => by rw [hq]; exact xor_c w
  have k6 : ∀ w, Calls Try.prog 59 #[W a, W b, .int .i64 2] w (RetW q w) := fun w => by rw [hq]; exact xor1_c w
  have k7 : ∀ w, Calls Try.prog 62 #[W a] w (RetW n w) := fun w => by rw [hn]; exact not_W ha w
  have k8 : ∀ w, Calls Try.prog 63 #[W a] w (RetW n w) := fun w => by rw [hn]; exact not1_c ha w
  have k9 : ∀ w, Calls Try.prog 64 #[W c, W a] w (RetW e w) := fun w => by rw [he]; exact sext_c hc ha w
  have k10 : ∀ w, Calls Try.prog 65 #[W c, W a] w (RetW e w) := fun w => by rw [he]; exact sext1_c hc ha w
  have k11 : ∀ w, Calls Try.prog 66 #[W c, W a] w (RetW t w) := fun w => by rw [ht]; exact byte_c hc ha w
  have k12 : ∀ w, Calls Try.prog 67 #[W c, W a] w (RetW t w) := fun w => by rw [ht]; exact byte1_c hc ha w
  have k13 : ∀ w, Calls Try.prog 68 #[W c, W a] w (RetW l w) := fun w => by rw [hl]; exact shl_c hc ha w
  have k14 : ∀ w, Calls Try.prog 69 #[W c, W a] w (RetW l w) := fun w => by rw [hl]; exact shl1_c hc ha w
  have k15 : ∀ w, Calls Try.prog 70 #[W c, W a] w (RetW r w) := fun w => by rw [hr]; exact shr_c hc ha w
  have k16 : ∀ w, Calls Try.prog 71 #[W c, W a] w (RetW r w) := fun w => by rw [hr]; exact shr1_c hc ha w
  have k17 : ∀ w, Calls Try.prog 72 #[W c, W a] w (RetW s w) := fun w => by rw [hs]; exact sar_c hc ha w
  have k18 : ∀ w, Calls Try.prog 73 #[W c, W a] w (RetW s w) := fun w => by rw [hs]; exact sar1_c hc ha w
  have K1 := Lib.hid k1
  have K2 := Lib.hid k2
  have K3 := Lib.hid k3
  have K4 := Lib.hid k4
  have K5 := Lib.hid k5
  have K6 := Lib.hid k6
  have K7 := Lib.hid k7
  have K8 := Lib.hid k8
  have K9 := Lib.hid k9
  have K10 := Lib.hid k10
  have K11 := Lib.hid k11
  have K12 := Lib.hid k12
  have K13 := Lib.hid k13
  have K14 := Lib.hid k14
  have K15 := Lib.hid k15
  have K16 := Lib.hid k16
  have K17 := Lib.hid k17
  have K18 := Lib.hid k18
  have hx := box3 w a b c
  have hW : Below w.heap.size w (Box3 w a b c) := (Below.refl _ _).alloc (Nat.le_refl _) _
  dsimp only [Box3] at hx hW
  clear ho hp hq hn he ht hl hr hs k1 k2 k3 k4 k5 k6 k7 k8 k9 k10 k11 k12 k13 k14 k15 k16 k17 k18 iA iB iC
  go_enter Try.func7, Try.ntmps7
  go_wp2_with fail
  generalize w.alloc (.cells #[.int .u64 (lim 0 a : Nat), .int .u64 (lim 1 a : Nat), .int .u64 (lim 2 a : Nat), .int .u64 (lim 3 a : Nat), .int .u64 (lim 0 b : Nat), .int .u64 (lim 1 b : Nat), .int .u64 (lim 2 b : Nat), .int .u64 (lim 3 b : Nat), .int .u64 (lim 0 c : Nat), .int .u64 (lim 1 c : Nat), .int .u64 (lim 2 c : Nat), .int .u64 (lim 3 c : Nat)] 26) = X at *
  refine wp_region_see 46 [3, 4, 5, 6, 7, 8, 9, 10, 11, 12, 13, 14, 15, 16, 17, 18, 19, 20, 21, 22, 23, 24, 25, 26, 27, 28, 29, 30, 31, 32, 33, 34, 35, 36, 37, 38, 39, 40, 41, 42, 43, 44, 45, 46, 47, 48] [(3, .is (.pointer (some ⟨w.heap.size, 0, none⟩))), (4, .is (W a)), (5, .is (.pointer (some ⟨w.heap.size, 4, none⟩))), (6, .is (W b)), (7, .is (W o)), (8, .is (.pointer (some ⟨w.heap.size, 0, none⟩))), (9, .is (W a)), (10, .is (.pointer (some ⟨w.heap.size, 4, none⟩))), (11, .is (W b)), (12, .is (W o)), (13, .is (.bool false)), (14, .is (.bool false)), (15, .is (.pointer (some ⟨w.heap.size, 0, none⟩))), (16, .is (W a)), (17, .is (.pointer (some ⟨w.heap.size, 4, none⟩))), (18, .is (W b)), (19, .is (W p)), (20, .is (.pointer (some ⟨w.heap.size, 0, none⟩))), (21, .is (W a)), (22, .is (.pointer (some ⟨w.heap.size, 4, none⟩))), (23, .is (W b)), (24, .is (W p)), (25, .is (.bool false)), (26, .is (.bool false)), (27, .is (.bool false)), (28, .is (.pointer (some ⟨w.heap.size, 0, none⟩))), (29, .is (W a)), (30, .is (.pointer (some ⟨w.heap.size, 4, none⟩))), (31, .is (W b)), (32, .is (W q)), (33, .is (.pointer (some ⟨w.heap.size, 0, none⟩))), (34, .is (W a)), (35, .is (.pointer (some ⟨w.heap.size, 4, none⟩))), (36, .is (W b)), (37, .is (W q)), (38, .is (.bool false)), (39, .is (.bool false)), (40, .is (.bool false)), (41, .is (.pointer (some ⟨w.heap.size, 0, none⟩))), (42, .is (W a)), (43, .is (W n)), (44, .is (.pointer (some ⟨w.heap.size, 0, none⟩))), (45, .is (W a)), (46, .is (W n)), (47, .is (.bool false)), (48, .is (.bool false))] (by kernel_rfl) (by kernel_rfl) (by rfl) ?_ ?_
  · refine seeOps_cons ?_ (seeOps_cons ?_ (seeOps_cons ?_ (seeOps_cons ?_ (seeOps_cons ?_ (seeOps_cons ?_ (seeOps_cons ?_ (seeOps_cons ?_ (seeOps_cons ?_ (seeOps_cons ?_ (seeOps_cons ?_ (seeOps_cons ?_ (seeOps_cons ?_ (seeOps_cons ?_ (seeOps_cons ?_ (seeOps_cons ?_ (seeOps_cons ?_ (seeOps_cons ?_ (seeOps_cons ?_ (seeOps_cons ?_ (seeOps_cons ?_ (seeOps_cons ?_ (seeOps_cons ?_ (seeOps_cons ?_ (seeOps_cons ?_ (seeOps_cons ?_ (seeOps_cons ?_ (seeOps_cons ?_ (seeOps_cons ?_ (seeOps_cons ?_ (seeOps_cons ?_ (seeOps_cons ?_ (seeOps_cons ?_ (seeOps_cons ?_ (seeOps_cons ?_ (seeOps_cons ?_ (seeOps_cons ?_ (seeOps_cons ?_ (seeOps_cons ?_ (seeOps_cons ?_ (seeOps_cons ?_ (seeOps_cons ?_ (seeOps_cons ?_ (seeOps_cons ?_ (seeOps_cons ?_ (seeOps_cons ?_ seeOps_nil)))))))))))))))))))))))))))))))))))))))))))))
    · intro w' hb' fr hout hin
      have e1 : fr.tmps.getD 1 undef = .pointer (some ⟨w.heap.size, 0, none⟩) := hout 1 (by decide)
      clear hout hin
      exact op_field (.tmp 1) rfl (by omega) e1 (wanted_none rfl) rfl
    · intro w' hb' fr hout hin
      have h3 : fr.tmps.getD 3 undef = .pointer (some ⟨w.heap.size, 0, none⟩) := hin 3 (by decide) (by decide)
      clear hout hin
      exact op_load (n := a) (.tmp 3) rfl h3 (cells3a (hx.below hb' hx.lt)) (wanted_none rfl) rfl
    · intro w' hb' fr hout hin
      have e1 : fr.tmps.getD 1 undef = .pointer (some ⟨w.heap.size, 0, none⟩) := hout 1 (by decide)
      clear hout hin
      exact op_field (.tmp 1) rfl (by omega) e1 (wanted_none rfl) rfl
    · intro w' hb' fr hout hin
      have h5 : fr.tmps.getD 5 undef = .pointer (some ⟨w.heap.size, 4, none⟩) := hin 5 (by decide) (by decide)
      clear hout hin
      exact op_load (n := b) (.tmp 5) rfl h5 (cells3b (hx.below hb' hx.lt)) (wanted_none rfl) rfl
    · intro w' hb' fr hout hin
      have h4 : fr.tmps.getD 4 undef = W a := hin 4 (by decide) (by decide)
      have h6 : fr.tmps.getD 6 undef = W b := hin 6 (by decide) (by decide)
      clear hout hin
      exact relStep_callW 58 #[W a, W b] (wanted_none rfl) (K1.out _) (fun _ => rfl) (by have hh := (And.intro h4 h6); go_simp)
    · intro w' hb' fr hout hin
      have e1 : fr.tmps.getD 1 undef = .pointer (some ⟨w.heap.size, 0, none⟩) := hout 1 (by decide)
      clear hout hin
      exact op_field (.tmp 1) rfl (by omega) e1 (wanted_none rfl) rfl
    · intro w' hb' fr hout hin
      have h8 : fr.tmps.getD 8 undef = .pointer (some ⟨w.heap.size, 0, none⟩) := hin 8 (by decide) (by decide)
      clear hout hin
      exact op_load (n := a) (.tmp 8) rfl h8 (cells3a (hx.below hb' hx.lt)) (wanted_none rfl) rfl
    · intro w' hb' fr hout hin
      have e1 : fr.tmps.getD 1 undef = .pointer (some ⟨w.heap.size, 0, none⟩) := hout 1 (by decide)
      clear hout hin
      exact op_field (.tmp 1) rfl (by omega) e1 (wanted_none rfl) rfl
    · intro w' hb' fr hout hin
      have h10 : fr.tmps.getD 10 undef = .pointer (some ⟨w.heap.size, 4, none⟩) := hin 10 (by decide) (by decide)
      clear hout hin
      exact op_load (n := b) (.tmp 10) rfl h10 (cells3b (hx.below hb' hx.lt)) (wanted_none rfl) rfl
    · intro w' hb' fr hout hin
      have h9 : fr.tmps.getD 9 undef = W a := hin 9 (by decide) (by decide)
      have h11 : fr.tmps.getD 11 undef = W b := hin 11 (by decide) (by decide)
      clear hout hin
      exact relStep_callW 59 #[W a, W b, .int .i64 0] (wanted_none rfl) (K2.out _) (fun _ => rfl) (by have hh := (And.intro h9 h11); go_simp)
    · intro w' hb' fr hout hin
      have h7 : fr.tmps.getD 7 undef = W o := hin 7 (by decide) (by decide)
      have h12 : fr.tmps.getD 12 undef = W o := hin 12 (by decide) (by decide)
      clear hout hin
      exact op_neW (n := o) (.tmp 7) (.tmp 12) _ rfl h7 h12 (wanted_none rfl) rfl
    · intro w' hb' fr hout hin
      have h13 : fr.tmps.getD 13 undef = .bool false := hin 13 (by decide) (by decide)
      clear hout hin
      exact relStep_move (.tmp 13) rfl (wanted_none rfl) (by show fr.tmps.getD 13 undef = _; rw [h13])
    · intro w' hb' fr hout hin
      have e1 : fr.tmps.getD 1 undef = .pointer (some ⟨w.heap.size, 0, none⟩) := hout 1 (by decide)
      have h14 : fr.tmps.getD 14 undef = .bool false := hin 14 (by decide) (by decide)
      clear hout hin
      exact op_field (.tmp 1) rfl (by omega) e1 (wanted_some (g := 11) (t := 14) (b := false) rfl rfl h14) rfl
    · intro w' hb' fr hout hin
      have h15 : fr.tmps.getD 15 undef = .pointer (some ⟨w.heap.size, 0, none⟩) := hin 15 (by decide) (by decide)
      have h14 : fr.tmps.getD 14 undef = .bool false := hin 14 (by decide) (by decide)
      clear hout hin
      exact op_load (n := a) (.tmp 15) rfl h15 (cells3a (hx.below hb' hx.lt)) (wanted_some (g := 11) (t := 14) (b := false) rfl rfl h14) rfl
    · intro w' hb' fr hout hin
      have e1 : fr.tmps.getD 1 undef = .pointer (some ⟨w.heap.size, 0, none⟩) := hout 1 (by decide)
      have h14 : fr.tmps.getD 14 undef = .bool false := hin 14 (by decide) (by decide)
      clear hout hin
      exact op_field (.tmp 1) rfl (by omega) e1 (wanted_some (g := 11) (t := 14) (b := false) rfl rfl h14) rfl
    · intro w' hb' fr hout hin
      have h17 : fr.tmps.getD 17 undef = .pointer (some ⟨w.heap.size, 4, none⟩) := hin 17 (by decide) (by decide)
      have h14 : fr.tmps.getD 14 undef = .bool false := hin 14 (by decide) (by decide)
      clear hout hin
      exact op_load (n := b) (.tmp 17) rfl h17 (cells3b (hx.below hb' hx.lt)) (wanted_some (g := 11) (t := 14) (b := false) rfl rfl h14) rfl
    · intro w' hb' fr hout hin
      have h16 : fr.tmps.getD 16 undef = W a := hin 16 (by decide) (by decide)
      have h18 : fr.tmps.getD 18 undef = W b := hin 18 (by decide) (by decide)
      have h14 : fr.tmps.getD 14 undef = .bool false := hin 14 (by decide) (by decide)
      clear hout hin
      exact relStep_callW 60 #[W a, W b] (wanted_some (g := 11) (t := 14) (b := false) rfl rfl h14) (K3.out _) (fun _ => rfl) (by have hh := (And.intro h16 h18); go_simp)
    · intro w' hb' fr hout hin
      have e1 : fr.tmps.getD 1 undef = .pointer (some ⟨w.heap.size, 0, none⟩) := hout 1 (by decide)
      have h14 : fr.tmps.getD 14 undef = .bool false := hin 14 (by decide) (by decide)
      clear hout hin
      exact op_field (.tmp 1) rfl (by omega) e1 (wanted_some (g := 11) (t := 14) (b := false) rfl rfl h14) rfl
    · intro w' hb' fr hout hin
      have h20 : fr.tmps.getD 20 undef = .pointer (some ⟨w.heap.size, 0, none⟩) := hin 20 (by decide) (by decide)
      have h14 : fr.tmps.getD 14 undef = .bool false := hin 14 (by decide) (by decide)
      clear hout hin
      exact op_load (n := a) (.tmp 20) rfl h20 (cells3a (hx.below hb' hx.lt)) (wanted_some (g := 11) (t := 14) (b := false) rfl rfl h14) rfl
    · intro w' hb' fr hout hin
      have e1 : fr.tmps.getD 1 undef = .pointer (some ⟨w.heap.size, 0, none⟩) := hout 1 (by decide)
      have h14 : fr.tmps.getD 14 undef = .bool false := hin 14 (by decide) (by decide)
      clear hout hin
      exact op_field (.tmp 1) rfl (by omega) e1 (wanted_some (g := 11) (t := 14) (b := false) rfl rfl h14) rfl
    · intro w' hb' fr hout hin
      have h22 : fr.tmps.getD 22 undef = .pointer (some ⟨w.heap.size, 4, none⟩) := hin 22 (by decide) (by decide)
      have h14 : fr.tmps.getD 14 undef = .bool false := hin 14 (by decide) (by decide)
      clear hout hin
      exact op_load (n := b) (.tmp 22) rfl h22 (cells3b (hx.below hb' hx.lt)) (wanted_some (g := 11) (t := 14) (b := false) rfl rfl h14) rfl
    · intro w' hb' fr hout hin
      have h21 : fr.tmps.getD 21 undef = W a := hin 21 (by decide) (by decide)
      have h23 : fr.tmps.getD 23 undef = W b := hin 23 (by decide) (by decide)
      have h14 : fr.tmps.getD 14 undef = .bool false := hin 14 (by decide) (by decide)
      clear hout hin
      exact relStep_callW 59 #[W a, W b, .int .i64 1] (wanted_some (g := 11) (t := 14) (b := false) rfl rfl h14) (K4.out _) (fun _ => rfl) (by have hh := (And.intro h21 h23); go_simp)
    · intro w' hb' fr hout hin
      have h19 : fr.tmps.getD 19 undef = W p := hin 19 (by decide) (by decide)
      have h24 : fr.tmps.getD 24 undef = W p := hin 24 (by decide) (by decide)
      have h14 : fr.tmps.getD 14 undef = .bool false := hin 14 (by decide) (by decide)
      clear hout hin
      exact op_neW (n := p) (.tmp 19) (.tmp 24) _ rfl h19 h24 (wanted_some (g := 11) (t := 14) (b := false) rfl rfl h14) rfl
    · intro w' hb' fr hout hin
      have h14 : fr.tmps.getD 14 undef = .bool false := hin 14 (by decide) (by decide)
      have h25 : fr.tmps.getD 25 undef = .bool false := hin 25 (by decide) (by decide)
      clear hout hin
      exact relStep_pickF (.tmp 14) (.const (.bool true)) (.tmp 25) rfl h14 (wanted_none rfl) (by show fr.tmps.getD 25 undef = _; rw [h25])
    · intro w' hb' fr hout hin
      have h26 : fr.tmps.getD 26 undef = .bool false := hin 26 (by decide) (by decide)
      clear hout hin
      exact relStep_move (.tmp 26) rfl (wanted_none rfl) (by show fr.tmps.getD 26 undef = _; rw [h26])
    · intro w' hb' fr hout hin
      have e1 : fr.tmps.getD 1 undef = .pointer (some ⟨w.heap.size, 0, none⟩) := hout 1 (by decide)
      have h27 : fr.tmps.getD 27 undef = .bool false := hin 27 (by decide) (by decide)
      clear hout hin
      exact op_field (.tmp 1) rfl (by omega) e1 (wanted_some (g := 24) (t := 27) (b := false) rfl rfl h27) rfl
    · intro w' hb' fr hout hin
      have h28 : fr.tmps.getD 28 undef = .pointer (some ⟨w.heap.size, 0, none⟩) := hin 28 (by decide) (by decide)
      have h27 : fr.tmps.getD 27 undef = .bool false := hin 27 (by decide) (by decide)
      clear hout hin
      exact op_load (n := a) (.tmp 28) rfl h28 (cells3a (hx.below hb' hx.lt)) (wanted_some (g := 24) (t := 27) (b := false) rfl rfl h27) rfl
    · intro w' hb' fr hout hin
      have e1 : fr.tmps.getD 1 undef = .pointer (some ⟨w.heap.size, 0, none⟩) := hout 1 (by decide)
      have h27 : fr.tmps.getD 27 undef = .bool false := hin 27 (by decide) (by decide)
      clear hout hin
      exact op_field (.tmp 1) rfl (by omega) e1 (wanted_some (g := 24) (t := 27) (b := false) rfl rfl h27) rfl
    · intro w' hb' fr hout hin
      have h30 : fr.tmps.getD 30 undef = .pointer (some ⟨w.heap.size, 4, none⟩) := hin 30 (by decide) (by decide)
      have h27 : fr.tmps.getD 27 undef = .bool false := hin 27 (by decide) (by decide)
      clear hout hin
      exact op_load (n := b) (.tmp 30) rfl h30 (cells3b (hx.below hb' hx.lt)) (wanted_some (g := 24) (t := 27) (b := false) rfl rfl h27) rfl
    · intro w' hb' fr hout hin
      have h29 : fr.tmps.getD 29 undef = W a := hin 29 (by decide) (by decide)
      have h31 : fr.tmps.getD 31 undef = W b := hin 31 (by decide) (by decide)
      have h27 : fr.tmps.getD 27 undef = .bool false := hin 27 (by decide) (by decide)
      clear hout hin
      exact relStep_callW 61 #[W a, W b] (wanted_some (g := 24) (t := 27) (b := false) rfl rfl h27) (K5.out _) (fun _ => rfl) (by have hh := (And.intro h29 h31); go_simp)
    · intro w' hb' fr hout hin
      have e1 : fr.tmps.getD 1 undef = .pointer (some ⟨w.heap.size, 0, none⟩) := hout 1 (by decide)
      have h27 : fr.tmps.getD 27 undef = .bool false := hin 27 (by decide) (by decide)
      clear hout hin
      exact op_field (.tmp 1) rfl (by omega) e1 (wanted_some (g := 24) (t := 27) (b := false) rfl rfl h27) rfl
    · intro w' hb' fr hout hin
      have h33 : fr.tmps.getD 33 undef = .pointer (some ⟨w.heap.size, 0, none⟩) := hin 33 (by decide) (by decide)
      have h27 : fr.tmps.getD 27 undef = .bool false := hin 27 (by decide) (by decide)
      clear hout hin
      exact op_load (n := a) (.tmp 33) rfl h33 (cells3a (hx.below hb' hx.lt)) (wanted_some (g := 24) (t := 27) (b := false) rfl rfl h27) rfl
    · intro w' hb' fr hout hin
      have e1 : fr.tmps.getD 1 undef = .pointer (some ⟨w.heap.size, 0, none⟩) := hout 1 (by decide)
      have h27 : fr.tmps.getD 27 undef = .bool false := hin 27 (by decide) (by decide)
      clear hout hin
      exact op_field (.tmp 1) rfl (by omega) e1 (wanted_some (g := 24) (t := 27) (b := false) rfl rfl h27) rfl
    · intro w' hb' fr hout hin
      have h35 : fr.tmps.getD 35 undef = .pointer (some ⟨w.heap.size, 4, none⟩) := hin 35 (by decide) (by decide)
      have h27 : fr.tmps.getD 27 undef = .bool false := hin 27 (by decide) (by decide)
      clear hout hin
      exact op_load (n := b) (.tmp 35) rfl h35 (cells3b (hx.below hb' hx.lt)) (wanted_some (g := 24) (t := 27) (b := false) rfl rfl h27) rfl
    · intro w' hb' fr hout hin
      have h34 : fr.tmps.getD 34 undef = W a := hin 34 (by decide) (by decide)
      have h36 : fr.tmps.getD 36 undef = W b := hin 36 (by decide) (by decide)
      have h27 : fr.tmps.getD 27 undef = .bool false := hin 27 (by decide) (by decide)
      clear hout hin
      exact relStep_callW 59 #[W a, W b, .int .i64 2] (wanted_some (g := 24) (t := 27) (b := false) rfl rfl h27) (K6.out _) (fun _ => rfl) (by have hh := (And.intro h34 h36); go_simp)
    · intro w' hb' fr hout hin
      have h32 : fr.tmps.getD 32 undef = W q := hin 32 (by decide) (by decide)
      have h37 : fr.tmps.getD 37 undef = W q := hin 37 (by decide) (by decide)
      have h27 : fr.tmps.getD 27 undef = .bool false := hin 27 (by decide) (by decide)
      clear hout hin
      exact op_neW (n := q) (.tmp 32) (.tmp 37) _ rfl h32 h37 (wanted_some (g := 24) (t := 27) (b := false) rfl rfl h27) rfl
    · intro w' hb' fr hout hin
      have h27 : fr.tmps.getD 27 undef = .bool false := hin 27 (by decide) (by decide)
      have h38 : fr.tmps.getD 38 undef = .bool false := hin 38 (by decide) (by decide)
      clear hout hin
      exact relStep_pickF (.tmp 27) (.const (.bool true)) (.tmp 38) rfl h27 (wanted_none rfl) (by show fr.tmps.getD 38 undef = _; rw [h38])
    · intro w' hb' fr hout hin
      have h39 : fr.tmps.getD 39 undef = .bool false := hin 39 (by decide) (by decide)
      clear hout hin
      exact relStep_move (.tmp 39) rfl (wanted_none rfl) (by show fr.tmps.getD 39 undef = _; rw [h39])
    · intro w' hb' fr hout hin
      have e1 : fr.tmps.getD 1 undef = .pointer (some ⟨w.heap.size, 0, none⟩) := hout 1 (by decide)
      have h40 : fr.tmps.getD 40 undef = .bool false := hin 40 (by decide) (by decide)
      clear hout hin
      exact op_field (.tmp 1) rfl (by omega) e1 (wanted_some (g := 37) (t := 40) (b := false) rfl rfl h40) rfl
    · intro w' hb' fr hout hin
      have h41 : fr.tmps.getD 41 undef = .pointer (some ⟨w.heap.size, 0, none⟩) := hin 41 (by decide) (by decide)
      have h40 : fr.tmps.getD 40 undef = .bool false := hin 40 (by decide) (by decide)
      clear hout hin
      exact op_load (n := a) (.tmp 41) rfl h41 (cells3a (hx.below hb' hx.lt)) (wanted_some (g := 37) (t := 40) (b := false) rfl rfl h40) rfl
    · intro w' hb' fr hout hin
      have h42 : fr.tmps.getD 42 undef = W a := hin 42 (by decide) (by decide)
      have h40 : fr.tmps.getD 40 undef = .bool false := hin 40 (by decide) (by decide)
      clear hout hin
      exact relStep_callW 62 #[W a] (wanted_some (g := 37) (t := 40) (b := false) rfl rfl h40) (K7.out _) (fun _ => rfl) (by have hh := h42; go_simp)
    · intro w' hb' fr hout hin
      have e1 : fr.tmps.getD 1 undef = .pointer (some ⟨w.heap.size, 0, none⟩) := hout 1 (by decide)
      have h40 : fr.tmps.getD 40 undef = .bool false := hin 40 (by decide) (by decide)
      clear hout hin
      exact op_field (.tmp 1) rfl (by omega) e1 (wanted_some (g := 37) (t := 40) (b := false) rfl rfl h40) rfl
    · intro w' hb' fr hout hin
      have h44 : fr.tmps.getD 44 undef = .pointer (some ⟨w.heap.size, 0, none⟩) := hin 44 (by decide) (by decide)
      have h40 : fr.tmps.getD 40 undef = .bool false := hin 40 (by decide) (by decide)
      clear hout hin
      exact op_load (n := a) (.tmp 44) rfl h44 (cells3a (hx.below hb' hx.lt)) (wanted_some (g := 37) (t := 40) (b := false) rfl rfl h40) rfl
    · intro w' hb' fr hout hin
      have h45 : fr.tmps.getD 45 undef = W a := hin 45 (by decide) (by decide)
      have h40 : fr.tmps.getD 40 undef = .bool false := hin 40 (by decide) (by decide)
      clear hout hin
      exact relStep_callW 63 #[W a] (wanted_some (g := 37) (t := 40) (b := false) rfl rfl h40) (K8.out _) (fun _ => rfl) (by have hh := h45; go_simp)
    · intro w' hb' fr hout hin
      have h43 : fr.tmps.getD 43 undef = W n := hin 43 (by decide) (by decide)
      have h46 : fr.tmps.getD 46 undef = W n := hin 46 (by decide) (by decide)
      have h40 : fr.tmps.getD 40 undef = .bool false := hin 40 (by decide) (by decide)
      clear hout hin
      exact op_neW (n := n) (.tmp 43) (.tmp 46) _ rfl h43 h46 (wanted_some (g := 37) (t := 40) (b := false) rfl rfl h40) rfl
    · intro w' hb' fr hout hin
      have h40 : fr.tmps.getD 40 undef = .bool false := hin 40 (by decide) (by decide)
      have h47 : fr.tmps.getD 47 undef = .bool false := hin 47 (by decide) (by decide)
      clear hout hin
      exact relStep_pickF (.tmp 40) (.const (.bool true)) (.tmp 47) rfl h40 (wanted_none rfl) (by show fr.tmps.getD 47 undef = _; rw [h47])
  · intro w' hb'
    refine relAsk_in (by rfl) ?_
    intro v3 h3
    obtain rfl : v3 = .pointer (some ⟨w.heap.size, 0, none⟩) := h3
    refine relAsk_in (by rfl) ?_
    intro v4 h4
    obtain rfl : v4 = W a := h4
    refine relAsk_in (by rfl) ?_
    intro v5 h5
    obtain rfl : v5 = .pointer (some ⟨w.heap.size, 4, none⟩) := h5
    refine relAsk_in (by rfl) ?_
    intro v6 h6
    obtain rfl : v6 = W b := h6
    refine relAsk_in (by rfl) ?_
    intro v7 h7
    obtain rfl : v7 = W o := h7
    refine relAsk_in (by rfl) ?_
    intro v8 h8
    obtain rfl : v8 = .pointer (some ⟨w.heap.size, 0, none⟩) := h8
    refine relAsk_in (by rfl) ?_
    intro v9 h9
    obtain rfl : v9 = W a := h9
    refine relAsk_in (by rfl) ?_
    intro v10 h10
    obtain rfl : v10 = .pointer (some ⟨w.heap.size, 4, none⟩) := h10
    refine relAsk_in (by rfl) ?_
    intro v11 h11
    obtain rfl : v11 = W b := h11
    refine relAsk_in (by rfl) ?_
    intro v12 h12
    obtain rfl : v12 = W o := h12
    refine relAsk_in (by rfl) ?_
    intro v13 h13
    obtain rfl : v13 = .bool false := h13
    refine relAsk_in (by rfl) ?_
    intro v14 h14
    obtain rfl : v14 = .bool false := h14
    refine relAsk_in (by rfl) ?_
    intro v15 h15
    obtain rfl : v15 = .pointer (some ⟨w.heap.size, 0, none⟩) := h15
    refine relAsk_in (by rfl) ?_
    intro v16 h16
    obtain rfl : v16 = W a := h16
    refine relAsk_in (by rfl) ?_
    intro v17 h17
    obtain rfl : v17 = .pointer (some ⟨w.heap.size, 4, none⟩) := h17
    refine relAsk_in (by rfl) ?_
    intro v18 h18
    obtain rfl : v18 = W b := h18
    refine relAsk_in (by rfl) ?_
    intro v19 h19
    obtain rfl : v19 = W p := h19
    refine relAsk_in (by rfl) ?_
    intro v20 h20
    obtain rfl : v20 = .pointer (some ⟨w.heap.size, 0, none⟩) := h20
    refine relAsk_in (by rfl) ?_
    intro v21 h21
    obtain rfl : v21 = W a := h21
    refine relAsk_in (by rfl) ?_
    intro v22 h22
    obtain rfl : v22 = .pointer (some ⟨w.heap.size, 4, none⟩) := h22
    refine relAsk_in (by rfl) ?_
    intro v23 h23
    obtain rfl : v23 = W b := h23
    refine relAsk_in (by rfl) ?_
    intro v24 h24
    obtain rfl : v24 = W p := h24
    refine relAsk_in (by rfl) ?_
    intro v25 h25
    obtain rfl : v25 = .bool false := h25
    refine relAsk_in (by rfl) ?_
    intro v26 h26
    obtain rfl : v26 = .bool false := h26
    refine relAsk_in (by rfl) ?_
    intro v27 h27
    obtain rfl : v27 = .bool false := h27
    refine relAsk_in (by rfl) ?_
    intro v28 h28
    obtain rfl : v28 = .pointer (some ⟨w.heap.size, 0, none⟩) := h28
    refine relAsk_in (by rfl) ?_
    intro v29 h29
    obtain rfl : v29 = W a := h29
    refine relAsk_in (by rfl) ?_
    intro v30 h30
    obtain rfl : v30 = .pointer (some ⟨w.heap.size, 4, none⟩) := h30
    refine relAsk_in (by rfl) ?_
    intro v31 h31
    obtain rfl : v31 = W b := h31
    refine relAsk_in (by rfl) ?_
    intro v32 h32
    obtain rfl : v32 = W q := h32
    refine relAsk_in (by rfl) ?_
    intro v33 h33
    obtain rfl : v33 = .pointer (some ⟨w.heap.size, 0, none⟩) := h33
    refine relAsk_in (by rfl) ?_
    intro v34 h34
    obtain rfl : v34 = W a := h34
    refine relAsk_in (by rfl) ?_
    intro v35 h35
    obtain rfl : v35 = .pointer (some ⟨w.heap.size, 4, none⟩) := h35
    refine relAsk_in (by rfl) ?_
    intro v36 h36
    obtain rfl : v36 = W b := h36
    refine relAsk_in (by rfl) ?_
    intro v37 h37
    obtain rfl : v37 = W q := h37
    refine relAsk_in (by rfl) ?_
    intro v38 h38
    obtain rfl : v38 = .bool false := h38
    refine relAsk_in (by rfl) ?_
    intro v39 h39
    obtain rfl : v39 = .bool false := h39
    refine relAsk_in (by rfl) ?_
    intro v40 h40
    obtain rfl : v40 = .bool false := h40
    refine relAsk_in (by rfl) ?_
    intro v41 h41
    obtain rfl : v41 = .pointer (some ⟨w.heap.size, 0, none⟩) := h41
    refine relAsk_in (by rfl) ?_
    intro v42 h42
    obtain rfl : v42 = W a := h42
    refine relAsk_in (by rfl) ?_
    intro v43 h43
    obtain rfl : v43 = W n := h43
    refine relAsk_in (by rfl) ?_
    intro v44 h44
    obtain rfl : v44 = .pointer (some ⟨w.heap.size, 0, none⟩) := h44
    refine relAsk_in (by rfl) ?_
    intro v45 h45
    obtain rfl : v45 = W a := h45
    refine relAsk_in (by rfl) ?_
    intro v46 h46
    obtain rfl : v46 = W n := h46
    refine relAsk_in (by rfl) ?_
    intro v47 h47
    obtain rfl : v47 = .bool false := h47
    refine relAsk_in (by rfl) ?_
    intro v48 h48
    obtain rfl : v48 = .bool false := h48
    refine relAsk_nil ?_
    refine wpList_nil ?_
    go_simp
    have hx := hx.below hb' hx.lt
    have hW := hW.trans (hb'.mono hW.size)
    clear hb'
    go_wp2_with fail
    refine wp_region_see 67 [49, 50, 51, 52, 53, 54, 55, 56, 57, 58, 59, 60, 61, 62, 63, 64, 65, 66, 67, 68, 69, 70, 71, 72, 73, 74, 75, 76, 77, 78, 79, 80, 81, 82, 83, 84, 85, 86, 87, 88, 89, 90, 91, 92, 93, 94, 95, 96, 97, 98, 99, 100, 101, 102, 103, 104, 105, 106, 107, 108, 109, 110, 111, 112, 113, 114, 2] [(49, .is (.pointer (some ⟨w.heap.size, 8, none⟩))), (50, .is (W c)), (51, .is (.pointer (some ⟨w.heap.size, 0, none⟩))), (52, .is (W a)), (53, .is (W e)), (54, .is (.pointer (some ⟨w.heap.size, 8, none⟩))), (55, .is (W c)), (56, .is (.pointer (some ⟨w.heap.size, 0, none⟩))), (57, .is (W a)), (58, .is (W e)), (59, .is (.bool true)), (60, .is (.bool true)), (61, .is (.pointer (some ⟨w.heap.size, 8, none⟩))), (62, .is (W c)), (63, .is (.pointer (some ⟨w.heap.size, 0, none⟩))), (64, .is (W a)), (65, .is (W t)), (66, .is (.pointer (some ⟨w.heap.size, 8, none⟩))), (67, .is (W c)), (68, .is (.pointer (some ⟨w.heap.size, 0, none⟩))), (69, .is (W a)), (70, .is (W t)), (71, .is (.bool true)), (72, .is (.bool true)), (73, .is (.bool true)), (74, .is (.pointer (some ⟨w.heap.size, 8, none⟩))), (75, .is (W c)), (76, .is (.pointer (some ⟨w.heap.size, 0, none⟩))), (77, .is (W a)), (78, .is (W l)), (79, .is (.pointer (some ⟨w.heap.size, 8, none⟩))), (80, .is (W c)), (81, .is (.pointer (some ⟨w.heap.size, 0, none⟩))), (82, .is (W a)), (83, .is (W l)), (84, .is (.bool true)), (85, .is (.bool true)), (86, .is (.bool true)), (87, .is (.pointer (some ⟨w.heap.size, 8, none⟩))), (88, .is (W c)), (89, .is (.pointer (some ⟨w.heap.size, 0, none⟩))), (90, .is (W a)), (91, .is (W r)), (92, .is (.pointer (some ⟨w.heap.size, 8, none⟩))), (93, .is (W c)), (94, .is (.pointer (some ⟨w.heap.size, 0, none⟩))), (95, .is (W a)), (96, .is (W r)), (97, .is (.bool true)), (98, .is (.bool true)), (99, .is (.bool true)), (100, .is (.pointer (some ⟨w.heap.size, 8, none⟩))), (101, .is (W c)), (102, .is (.pointer (some ⟨w.heap.size, 0, none⟩))), (103, .is (W a)), (104, .is (W s)), (105, .is (.pointer (some ⟨w.heap.size, 8, none⟩))), (106, .is (W c)), (107, .is (.pointer (some ⟨w.heap.size, 0, none⟩))), (108, .is (W a)), (109, .is (W s)), (110, .is (.bool true)), (111, .is (.bool true)), (112, .is (.bool true)), (113, .is (.bool true)), (114, .is (.bool true)), (2, .is (.bool true))] (by kernel_rfl) (by kernel_rfl) (by rfl) ?_ ?_
    · refine seeOps_cons ?_ (seeOps_cons ?_ (seeOps_cons ?_ (seeOps_cons ?_ (seeOps_cons ?_ (seeOps_cons ?_ (seeOps_cons ?_ (seeOps_cons ?_ (seeOps_cons ?_ (seeOps_cons ?_ (seeOps_cons ?_ (seeOps_cons ?_ (seeOps_cons ?_ (seeOps_cons ?_ (seeOps_cons ?_ (seeOps_cons ?_ (seeOps_cons ?_ (seeOps_cons ?_ (seeOps_cons ?_ (seeOps_cons ?_ (seeOps_cons ?_ (seeOps_cons ?_ (seeOps_cons ?_ (seeOps_cons ?_ (seeOps_cons ?_ (seeOps_cons ?_ (seeOps_cons ?_ (seeOps_cons ?_ (seeOps_cons ?_ (seeOps_cons ?_ (seeOps_cons ?_ (seeOps_cons ?_ (seeOps_cons ?_ (seeOps_cons ?_ (seeOps_cons ?_ (seeOps_cons ?_ (seeOps_cons ?_ (seeOps_cons ?_ (seeOps_cons ?_ (seeOps_cons ?_ (seeOps_cons ?_ (seeOps_cons ?_ (seeOps_cons ?_ (seeOps_cons ?_ (seeOps_cons ?_ (seeOps_cons ?_ (seeOps_cons ?_ (seeOps_cons ?_ (seeOps_cons ?_ (seeOps_cons ?_ (seeOps_cons ?_ (seeOps_cons ?_ (seeOps_cons ?_ (seeOps_cons ?_ (seeOps_cons ?_ (seeOps_cons ?_ (seeOps_cons ?_ (seeOps_cons ?_ (seeOps_cons ?_ (seeOps_cons ?_ (seeOps_cons ?_ (seeOps_cons ?_ (seeOps_cons ?_ (seeOps_cons ?_ (seeOps_cons ?_ (seeOps_cons ?_ (seeOps_cons ?_ seeOps_nil))))))))))))))))))))))))))))))))))))))))))))))))))))))))))))))))))
      · intro w' hb' fr hout hin
        have e1 : fr.tmps.getD 1 undef = .pointer (some ⟨w.heap.size, 0, none⟩) := hout 1 (by decide)
        clear hout hin
        exact op_field (.tmp 1) rfl (by omega) e1 (wanted_none rfl) rfl
      · intro w' hb' fr hout hin
        have h49 : fr.tmps.getD 49 undef = .pointer (some ⟨w.heap.size, 8, none⟩) := hin 49 (by decide) (by decide)
        clear hout hin
        exact op_load (n := c) (.tmp 49) rfl h49 (cells3c (hx.below hb' hx.lt)) (wanted_none rfl) rfl
      · intro w' hb' fr hout hin
        have e1 : fr.tmps.getD 1 undef = .pointer (some ⟨w.heap.size, 0, none⟩) := hout 1 (by decide)
        clear hout hin
        exact op_field (.tmp 1) rfl (by omega) e1 (wanted_none rfl) rfl
      · intro w' hb' fr hout hin
        have h51 : fr.tmps.getD 51 undef = .pointer (some ⟨w.heap.size, 0, none⟩) := hin 51 (by decide) (by decide)
        clear hout hin
        exact op_load (n := a) (.tmp 51) rfl h51 (cells3a (hx.below hb' hx.lt)) (wanted_none rfl) rfl
      · intro w' hb' fr hout hin
        have h50 : fr.tmps.getD 50 undef = W c := hin 50 (by decide) (by decide)
        have h52 : fr.tmps.getD 52 undef = W a := hin 52 (by decide) (by decide)
        clear hout hin
        exact relStep_callW 64 #[W c, W a] (wanted_none rfl) (K9.out _) (fun _ => rfl) (by have hh := (And.intro h50 h52); go_simp)
      · intro w' hb' fr hout hin
        have e1 : fr.tmps.getD 1 undef = .pointer (some ⟨w.heap.size, 0, none⟩) := hout 1 (by decide)
        clear hout hin
        exact op_field (.tmp 1) rfl (by omega) e1 (wanted_none rfl) rfl
      · intro w' hb' fr hout hin
        have h54 : fr.tmps.getD 54 undef = .pointer (some ⟨w.heap.size, 8, none⟩) := hin 54 (by decide) (by decide)
        clear hout hin
        exact op_load (n := c) (.tmp 54) rfl h54 (cells3c (hx.below hb' hx.lt)) (wanted_none rfl) rfl
      · intro w' hb' fr hout hin
        have e1 : fr.tmps.getD 1 undef = .pointer (some ⟨w.heap.size, 0, none⟩) := hout 1 (by decide)
        clear hout hin
        exact op_field (.tmp 1) rfl (by omega) e1 (wanted_none rfl) rfl
      · intro w' hb' fr hout hin
        have h56 : fr.tmps.getD 56 undef = .pointer (some ⟨w.heap.size, 0, none⟩) := hin 56 (by decide) (by decide)
        clear hout hin
        exact op_load (n := a) (.tmp 56) rfl h56 (cells3a (hx.below hb' hx.lt)) (wanted_none rfl) rfl
      · intro w' hb' fr hout hin
        have h55 : fr.tmps.getD 55 undef = W c := hin 55 (by decide) (by decide)
        have h57 : fr.tmps.getD 57 undef = W a := hin 57 (by decide) (by decide)
        clear hout hin
        exact relStep_callW 65 #[W c, W a] (wanted_none rfl) (K10.out _) (fun _ => rfl) (by have hh := (And.intro h55 h57); go_simp)
      · intro w' hb' fr hout hin
        have h53 : fr.tmps.getD 53 undef = W e := hin 53 (by decide) (by decide)
        have h58 : fr.tmps.getD 58 undef = W e := hin 58 (by decide) (by decide)
        clear hout hin
        exact op_eqW (n := e) (.tmp 53) (.tmp 58) _ rfl h53 h58 (wanted_none rfl) rfl
      · intro w' hb' fr hout hin
        have h59 : fr.tmps.getD 59 undef = .bool true := hin 59 (by decide) (by decide)
        clear hout hin
        exact relStep_move (.tmp 59) rfl (wanted_none rfl) (by show fr.tmps.getD 59 undef = _; rw [h59])
      · intro w' hb' fr hout hin
        have e1 : fr.tmps.getD 1 undef = .pointer (some ⟨w.heap.size, 0, none⟩) := hout 1 (by decide)
        have h60 : fr.tmps.getD 60 undef = .bool true := hin 60 (by decide) (by decide)
        clear hout hin
        exact op_field (.tmp 1) rfl (by omega) e1 (wanted_some (g := 11) (t := 60) (b := true) rfl rfl h60) rfl
      · intro w' hb' fr hout hin
        have h61 : fr.tmps.getD 61 undef = .pointer (some ⟨w.heap.size, 8, none⟩) := hin 61 (by decide) (by decide)
        have h60 : fr.tmps.getD 60 undef = .bool true := hin 60 (by decide) (by decide)
        clear hout hin
        exact op_load (n := c) (.tmp 61) rfl h61 (cells3c (hx.below hb' hx.lt)) (wanted_some (g := 11) (t := 60) (b := true) rfl rfl h60) rfl
      · intro w' hb' fr hout hin
        have e1 : fr.tmps.getD 1 undef = .pointer (some ⟨w.heap.size, 0, none⟩) := hout 1 (by decide)
        have h60 : fr.tmps.getD 60 undef = .bool true := hin 60 (by decide) (by decide)
        clear hout hin
        exact op_field (.tmp 1) rfl (by omega) e1 (wanted_some (g := 11) (t := 60) (b := true) rfl rfl h60) rfl
      · intro w' hb' fr hout hin
        have h63 : fr.tmps.getD 63 undef = .pointer (some ⟨w.heap.size, 0, none⟩) := hin 63 (by decide) (by decide)
        have h60 : fr.tmps.getD 60 undef = .bool true := hin 60 (by decide) (by decide)
        clear hout hin
        exact op_load (n := a) (.tmp 63) rfl h63 (cells3a (hx.below hb' hx.lt)) (wanted_some (g := 11) (t := 60) (b := true) rfl rfl h60) rfl
      · intro w' hb' fr hout hin
        have h62 : fr.tmps.getD 62 undef = W c := hin 62 (by decide) (by decide)
        have h64 : fr.tmps.getD 64 undef = W a := hin 64 (by decide) (by decide)
        have h60 : fr.tmps.getD 60 undef = .bool true := hin 60 (by decide) (by decide)
        clear hout hin
        exact relStep_callW 66 #[W c, W a] (wanted_some (g := 11) (t := 60) (b := true) rfl rfl h60) (K11.out _) (fun _ => rfl) (by have hh := (And.intro h62 h64); go_simp)
      · intro w' hb' fr hout hin
        have e1 : fr.tmps.getD 1 undef = .pointer (some ⟨w.heap.size, 0, none⟩) := hout 1 (by decide)
        have h60 : fr.tmps.getD 60 undef = .bool true := hin 60 (by decide) (by decide)
        clear hout hin
        exact op_field (.tmp 1) rfl (by omega) e1 (wanted_some (g := 11) (t := 60) (b := true) rfl rfl h60) rfl
      · intro w' hb' fr hout hin
        have h66 : fr.tmps.getD 66 undef = .pointer (some ⟨w.heap.size, 8, none⟩) := hin 66 (by decide) (by decide)
        have h60 : fr.tmps.getD 60 undef = .bool true := hin 60 (by decide) (by decide)
        clear hout hin
        exact op_load (n := c) (.tmp 66) rfl h66 (cells3c (hx.below hb' hx.lt)) (wanted_some (g := 11) (t := 60) (b := true) rfl rfl h60) rfl
      · intro w' hb' fr hout hin
        have e1 : fr.tmps.getD 1 undef = .pointer (some ⟨w.heap.size, 0, none⟩) := hout 1 (by decide)
        have h60 : fr.tmps.getD 60 undef = .bool true := hin 60 (by decide) (by decide)
        clear hout hin
        exact op_field (.tmp 1) rfl (by omega) e1 (wanted_some (g := 11) (t := 60) (b := true) rfl rfl h60) rfl
      · intro w' hb' fr hout hin
        have h68 : fr.tmps.getD 68 undef = .pointer (some ⟨w.heap.size, 0, none⟩) := hin 68 (by decide) (by decide)
        have h60 : fr.tmps.getD 60 undef = .bool true := hin 60 (by decide) (by decide)
        clear hout hin
        exact op_load (n := a) (.tmp 68) rfl h68 (cells3a (hx.below hb' hx.lt)) (wanted_some (g := 11) (t := 60) (b := true) rfl rfl h60) rfl
      · intro w' hb' fr hout hin
        have h67 : fr.tmps.getD 67 undef = W c := hin 67 (by decide) (by decide)
        have h69 : fr.tmps.getD 69 undef = W a := hin 69 (by decide) (by decide)
        have h60 : fr.tmps.getD 60 undef = .bool true := hin 60 (by decide) (by decide)
        clear hout hin
        exact relStep_callW 67 #[W c, W a] (wanted_some (g := 11) (t := 60) (b := true) rfl rfl h60) (K12.out _) (fun _ => rfl) (by have hh := (And.intro h67 h69); go_simp)
      · intro w' hb' fr hout hin
        have h65 : fr.tmps.getD 65 undef = W t := hin 65 (by decide) (by decide)
        have h70 : fr.tmps.getD 70 undef = W t := hin 70 (by decide) (by decide)
        have h60 : fr.tmps.getD 60 undef = .bool true := hin 60 (by decide) (by decide)
        clear hout hin
        exact op_eqW (n := t) (.tmp 65) (.tmp 70) _ rfl h65 h70 (wanted_some (g := 11) (t := 60) (b := true) rfl rfl h60) rfl
      · intro w' hb' fr hout hin
        have h60 : fr.tmps.getD 60 undef = .bool true := hin 60 (by decide) (by decide)
        have h71 : fr.tmps.getD 71 undef = .bool true := hin 71 (by decide) (by decide)
        clear hout hin
        exact relStep_pick (.tmp 60) (.tmp 71) (.const (.bool false)) rfl h60 (wanted_none rfl) (by show fr.tmps.getD 71 undef = _; rw [h71])
      · intro w' hb' fr hout hin
        have h72 : fr.tmps.getD 72 undef = .bool true := hin 72 (by decide) (by decide)
        clear hout hin
        exact relStep_move (.tmp 72) rfl (wanted_none rfl) (by show fr.tmps.getD 72 undef = _; rw [h72])
      · intro w' hb' fr hout hin
        have e1 : fr.tmps.getD 1 undef = .pointer (some ⟨w.heap.size, 0, none⟩) := hout 1 (by decide)
        have h73 : fr.tmps.getD 73 undef = .bool true := hin 73 (by decide) (by decide)
        clear hout hin
        exact op_field (.tmp 1) rfl (by omega) e1 (wanted_some (g := 24) (t := 73) (b := true) rfl rfl h73) rfl
      · intro w' hb' fr hout hin
        have h74 : fr.tmps.getD 74 undef = .pointer (some ⟨w.heap.size, 8, none⟩) := hin 74 (by decide) (by decide)
        have h73 : fr.tmps.getD 73 undef = .bool true := hin 73 (by decide) (by decide)
        clear hout hin
        exact op_load (n := c) (.tmp 74) rfl h74 (cells3c (hx.below hb' hx.lt)) (wanted_some (g := 24) (t := 73) (b := true) rfl rfl h73) rfl
      · intro w' hb' fr hout hin
        have e1 : fr.tmps.getD 1 undef = .pointer (some ⟨w.heap.size, 0, none⟩) := hout 1 (by decide)
        have h73 : fr.tmps.getD 73 undef = .bool true := hin 73 (by decide) (by decide)
        clear hout hin
        exact op_field (.tmp 1) rfl (by omega) e1 (wanted_some (g := 24) (t := 73) (b := true) rfl rfl h73) rfl
      · intro w' hb' fr hout hin
        have h76 : fr.tmps.getD 76 undef = .pointer (some ⟨w.heap.size, 0, none⟩) := hin 76 (by decide) (by decide)
        have h73 : fr.tmps.getD 73 undef = .bool true := hin 73 (by decide) (by decide)
        clear hout hin
        exact op_load (n := a) (.tmp 76) rfl h76 (cells3a (hx.below hb' hx.lt)) (wanted_some (g := 24) (t := 73) (b := true) rfl rfl h73) rfl
      · intro w' hb' fr hout hin
        have h75 : fr.tmps.getD 75 undef = W c := hin 75 (by decide) (by decide)
        have h77 : fr.tmps.getD 77 undef = W a := hin 77 (by decide) (by decide)
        have h73 : fr.tmps.getD 73 undef = .bool true := hin 73 (by decide) (by decide)
        clear hout hin
        exact relStep_callW 68 #[W c, W a] (wanted_some (g := 24) (t := 73) (b := true) rfl rfl h73) (K13.out _) (fun _ => rfl) (by have hh := (And.intro h75 h77); go_simp)
      · intro w' hb' fr hout hin
        have e1 : fr.tmps.getD 1 undef = .pointer (some ⟨w.heap.size, 0, none⟩) := hout 1 (by decide)
        have h73 : fr.tmps.getD 73 undef = .bool true := hin 73 (by decide) (by decide)
        clear hout hin
        exact op_field (.tmp 1) rfl (by omega) e1 (wanted_some (g := 24) (t := 73) (b := true) rfl rfl h73) rfl
      · intro w' hb' fr hout hin
        have h79 : fr.tmps.getD 79 undef = .pointer (some ⟨w.heap.size, 8, none⟩) := hin 79 (by decide) (by decide)
        have h73 : fr.tmps.getD 73 undef = .bool true := hin 73 (by decide) (by decide)
        clear hout hin
        exact op_load (n := c) (.tmp 79) rfl h79 (cells3c (hx.below hb' hx.lt)) (wanted_some (g := 24) (t := 73) (b := true) rfl rfl h73) rfl
      · intro w' hb' fr hout hin
        have e1 : fr.tmps.getD 1 undef = .pointer (some ⟨w.heap.size, 0, none⟩) := hout 1 (by decide)
        have h73 : fr.tmps.getD 73 undef = .bool true := hin 73 (by decide) (by decide)
        clear hout hin
        exact op_field (.tmp 1) rfl (by omega) e1 (wanted_some (g := 24) (t := 73) (b := true) rfl rfl h73) rfl
      · intro w' hb' fr hout hin
        have h81 : fr.tmps.getD 81 undef = .pointer (some ⟨w.heap.size, 0, none⟩) := hin 81 (by decide) (by decide)
        have h73 : fr.tmps.getD 73 undef = .bool true := hin 73 (by decide) (by decide)
        clear hout hin
        exact op_load (n := a) (.tmp 81) rfl h81 (cells3a (hx.below hb' hx.lt)) (wanted_some (g := 24) (t := 73) (b := true) rfl rfl h73) rfl
      · intro w' hb' fr hout hin
        have h80 : fr.tmps.getD 80 undef = W c := hin 80 (by decide) (by decide)
        have h82 : fr.tmps.getD 82 undef = W a := hin 82 (by decide) (by decide)
        have h73 : fr.tmps.getD 73 undef = .bool true := hin 73 (by decide) (by decide)
        clear hout hin
        exact relStep_callW 69 #[W c, W a] (wanted_some (g := 24) (t := 73) (b := true) rfl rfl h73) (K14.out _) (fun _ => rfl) (by have hh := (And.intro h80 h82); go_simp)
      · intro w' hb' fr hout hin
        have h78 : fr.tmps.getD 78 undef = W l := hin 78 (by decide) (by decide)
        have h83 : fr.tmps.getD 83 undef = W l := hin 83 (by decide) (by decide)
        have h73 : fr.tmps.getD 73 undef = .bool true := hin 73 (by decide) (by decide)
        clear hout hin
        exact op_eqW (n := l) (.tmp 78) (.tmp 83) _ rfl h78 h83 (wanted_some (g := 24) (t := 73) (b := true) rfl rfl h73) rfl
      · intro w' hb' fr hout hin
        have h73 : fr.tmps.getD 73 undef = .bool true := hin 73 (by decide) (by decide)
        have h84 : fr.tmps.getD 84 undef = .bool true := hin 84 (by decide) (by decide)
        clear hout hin
        exact relStep_pick (.tmp 73) (.tmp 84) (.const (.bool false)) rfl h73 (wanted_none rfl) (by show fr.tmps.getD 84 undef = _; rw [h84])
      · intro w' hb' fr hout hin
        have h85 : fr.tmps.getD 85 undef = .bool true := hin 85 (by decide) (by decide)
        clear hout hin
        exact relStep_move (.tmp 85) rfl (wanted_none rfl) (by show fr.tmps.getD 85 undef = _; rw [h85])
      · intro w' hb' fr hout hin
        have e1 : fr.tmps.getD 1 undef = .pointer (some ⟨w.heap.size, 0, none⟩) := hout 1 (by decide)
        have h86 : fr.tmps.getD 86 undef = .bool true := hin 86 (by decide) (by decide)
        clear hout hin
        exact op_field (.tmp 1) rfl (by omega) e1 (wanted_some (g := 37) (t := 86) (b := true) rfl rfl h86) rfl
      · intro w' hb' fr hout hin
        have h87 : fr.tmps.getD 87 undef = .pointer (some ⟨w.heap.size, 8, none⟩) := hin 87 (by decide) (by decide)
        have h86 : fr.tmps.getD 86 undef = .bool true := hin 86 (by decide) (by decide)
        clear hout hin
        exact op_load (n := c) (.tmp 87) rfl h87 (cells3c (hx.below hb' hx.lt)) (wanted_some (g := 37) (t := 86) (b := true) rfl rfl h86) rfl
      · intro w' hb' fr hout hin
        have e1 : fr.tmps.getD 1 undef = .pointer (some ⟨w.heap.size, 0, none⟩) := hout 1 (by decide)
        have h86 : fr.tmps.getD 86 undef = .bool true := hin 86 (by decide) (by decide)
        clear hout hin
        exact op_field (.tmp 1) rfl (by omega) e1 (wanted_some (g := 37) (t := 86) (b := true) rfl rfl h86) rfl
      · intro w' hb' fr hout hin
        have h89 : fr.tmps.getD 89 undef = .pointer (some ⟨w.heap.size, 0, none⟩) := hin 89 (by decide) (by decide)
        have h86 : fr.tmps.getD 86 undef = .bool true := hin 86 (by decide) (by decide)
        clear hout hin
        exact op_load (n := a) (.tmp 89) rfl h89 (cells3a (hx.below hb' hx.lt)) (wanted_some (g := 37) (t := 86) (b := true) rfl rfl h86) rfl
      · intro w' hb' fr hout hin
        have h88 : fr.tmps.getD 88 undef = W c := hin 88 (by decide) (by decide)
        have h90 : fr.tmps.getD 90 undef = W a := hin 90 (by decide) (by decide)
        have h86 : fr.tmps.getD 86 undef = .bool true := hin 86 (by decide) (by decide)
        clear hout hin
        exact relStep_callW 70 #[W c, W a] (wanted_some (g := 37) (t := 86) (b := true) rfl rfl h86) (K15.out _) (fun _ => rfl) (by have hh := (And.intro h88 h90); go_simp)
      · intro w' hb' fr hout hin
        have e1 : fr.tmps.getD 1 undef = .pointer (some ⟨w.heap.size, 0, none⟩) := hout 1 (by decide)
        have h86 : fr.tmps.getD 86 undef = .bool true := hin 86 (by decide) (by decide)
        clear hout hin
        exact op_field (.tmp 1) rfl (by omega) e1 (wanted_some (g := 37) (t := 86) (b := true) rfl rfl h86) rfl
      · intro w' hb' fr hout hin
        have h92 : fr.tmps.getD 92 undef = .pointer (some ⟨w.heap.size, 8, none⟩) := hin 92 (by decide) (by decide)
        have h86 : fr.tmps.getD 86 undef = .bool true := hin 86 (by decide) (by decide)
        clear hout hin
        exact op_load (n := c) (.tmp 92) rfl h92 (cells3c (hx.below hb' hx.lt)) (wanted_some (g := 37) (t := 86) (b := true) rfl rfl h86) rfl
      · intro w' hb' fr hout hin
        have e1 : fr.tmps.getD 1 undef = .pointer (some ⟨w.heap.size, 0, none⟩) := hout 1 (by decide)
        have h86 : fr.tmps.getD 86 undef = .bool true := hin 86 (by decide) (by decide)
        clear hout hin
        exact op_field (.tmp 1) rfl (by omega) e1 (wanted_some (g := 37) (t := 86) (b := true) rfl rfl h86) rfl
      · intro w' hb' fr hout hin
        have h94 : fr.tmps.getD 94 undef = .pointer (some ⟨w.heap.size, 0, none⟩) := hin 94 (by decide) (by decide)
        have h86 : fr.tmps.getD 86 undef = .bool true := hin 86 (by decide) (by decide)
        clear hout hin
        exact op_load (n := a) (.tmp 94) rfl h94 (cells3a (hx.below hb' hx.lt)) (wanted_some (g := 37) (t := 86) (b := true) rfl rfl h86) rfl
      · intro w' hb' fr hout hin
        have h93 : fr.tmps.getD 93 undef = W c := hin 93 (by decide) (by decide)
        have h95 : fr.tmps.getD 95 undef = W a := hin 95 (by decide) (by decide)
        have h86 : fr.tmps.getD 86 undef = .bool true := hin 86 (by decide) (by decide)
        clear hout hin
        exact relStep_callW 71 #[W c, W a] (wanted_some (g := 37) (t := 86) (b := true) rfl rfl h86) (K16.out _) (fun _ => rfl) (by have hh := (And.intro h93 h95); go_simp)
      · intro w' hb' fr hout hin
        have h91 : fr.tmps.getD 91 undef = W r := hin 91 (by decide) (by decide)
        have h96 : fr.tmps.getD 96 undef = W r := hin 96 (by decide) (by decide)
        have h86 : fr.tmps.getD 86 undef = .bool true := hin 86 (by decide) (by decide)
        clear hout hin
        exact op_eqW (n := r) (.tmp 91) (.tmp 96) _ rfl h91 h96 (wanted_some (g := 37) (t := 86) (b := true) rfl rfl h86) rfl
      · intro w' hb' fr hout hin
        have h86 : fr.tmps.getD 86 undef = .bool true := hin 86 (by decide) (by decide)
        have h97 : fr.tmps.getD 97 undef = .bool true := hin 97 (by decide) (by decide)
        clear hout hin
        exact relStep_pick (.tmp 86) (.tmp 97) (.const (.bool false)) rfl h86 (wanted_none rfl) (by show fr.tmps.getD 97 undef = _; rw [h97])
      · intro w' hb' fr hout hin
        have h98 : fr.tmps.getD 98 undef = .bool true := hin 98 (by decide) (by decide)
        clear hout hin
        exact relStep_move (.tmp 98) rfl (wanted_none rfl) (by show fr.tmps.getD 98 undef = _; rw [h98])
      · intro w' hb' fr hout hin
        have e1 : fr.tmps.getD 1 undef = .pointer (some ⟨w.heap.size, 0, none⟩) := hout 1 (by decide)
        have h99 : fr.tmps.getD 99 undef = .bool true := hin 99 (by decide) (by decide)
        clear hout hin
        exact op_field (.tmp 1) rfl (by omega) e1 (wanted_some (g := 50) (t := 99) (b := true) rfl rfl h99) rfl
      · intro w' hb' fr hout hin
        have h100 : fr.tmps.getD 100 undef = .pointer (some ⟨w.heap.size, 8, none⟩) := hin 100 (by decide) (by decide)
        have h99 : fr.tmps.getD 99 undef = .bool true := hin 99 (by decide) (by decide)
        clear hout hin
        exact op_load (n := c) (.tmp 100) rfl h100 (cells3c (hx.below hb' hx.lt)) (wanted_some (g := 50) (t := 99) (b := true) rfl rfl h99) rfl
      · intro w' hb' fr hout hin
        have e1 : fr.tmps.getD 1 undef = .pointer (some ⟨w.heap.size, 0, none⟩) := hout 1 (by decide)
        have h99 : fr.tmps.getD 99 undef = .bool true := hin 99 (by decide) (by decide)
        clear hout hin
        exact op_field (.tmp 1) rfl (by omega) e1 (wanted_some (g := 50) (t := 99) (b := true) rfl rfl h99) rfl
      · intro w' hb' fr hout hin
        have h102 : fr.tmps.getD 102 undef = .pointer (some ⟨w.heap.size, 0, none⟩) := hin 102 (by decide) (by decide)
        have h99 : fr.tmps.getD 99 undef = .bool true := hin 99 (by decide) (by decide)
        clear hout hin
        exact op_load (n := a) (.tmp 102) rfl h102 (cells3a (hx.below hb' hx.lt)) (wanted_some (g := 50) (t := 99) (b := true) rfl rfl h99) rfl
      · intro w' hb' fr hout hin
        have h101 : fr.tmps.getD 101 undef = W c := hin 101 (by decide) (by decide)
        have h103 : fr.tmps.getD 103 undef = W a := hin 103 (by decide) (by decide)
        have h99 : fr.tmps.getD 99 undef = .bool true := hin 99 (by decide) (by decide)
        clear hout hin
        exact relStep_callW 72 #[W c, W a] (wanted_some (g := 50) (t := 99) (b := true) rfl rfl h99) (K17.out _) (fun _ => rfl) (by have hh := (And.intro h101 h103); go_simp)
      · intro w' hb' fr hout hin
        have e1 : fr.tmps.getD 1 undef = .pointer (some ⟨w.heap.size, 0, none⟩) := hout 1 (by decide)
        have h99 : fr.tmps.getD 99 undef = .bool true := hin 99 (by decide) (by decide)
        clear hout hin
        exact op_field (.tmp 1) rfl (by omega) e1 (wanted_some (g := 50) (t := 99) (b := true) rfl rfl h99) rfl
      · intro w' hb' fr hout hin
        have h105 : fr.tmps.getD 105 undef = .pointer (some ⟨w.heap.size, 8, none⟩) := hin 105 (by decide) (by decide)
        have h99 : fr.tmps.getD 99 undef = .bool true := hin 99 (by decide) (by decide)
        clear hout hin
        exact op_load (n := c) (.tmp 105) rfl h105 (cells3c (hx.below hb' hx.lt)) (wanted_some (g := 50) (t := 99) (b := true) rfl rfl h99) rfl
      · intro w' hb' fr hout hin
        have e1 : fr.tmps.getD 1 undef = .pointer (some ⟨w.heap.size, 0, none⟩) := hout 1 (by decide)
        have h99 : fr.tmps.getD 99 undef = .bool true := hin 99 (by decide) (by decide)
        clear hout hin
        exact op_field (.tmp 1) rfl (by omega) e1 (wanted_some (g := 50) (t := 99) (b := true) rfl rfl h99) rfl
      · intro w' hb' fr hout hin
        have h107 : fr.tmps.getD 107 undef = .pointer (some ⟨w.heap.size, 0, none⟩) := hin 107 (by decide) (by decide)
        have h99 : fr.tmps.getD 99 undef = .bool true := hin 99 (by decide) (by decide)
        clear hout hin
        exact op_load (n := a) (.tmp 107) rfl h107 (cells3a (hx.below hb' hx.lt)) (wanted_some (g := 50) (t := 99) (b := true) rfl rfl h99) rfl
      · intro w' hb' fr hout hin
        have h106 : fr.tmps.getD 106 undef = W c := hin 106 (by decide) (by decide)
        have h108 : fr.tmps.getD 108 undef = W a := hin 108 (by decide) (by decide)
        have h99 : fr.tmps.getD 99 undef = .bool true := hin 99 (by decide) (by decide)
        clear hout hin
        exact relStep_callW 73 #[W c, W a] (wanted_some (g := 50) (t := 99) (b := true) rfl rfl h99) (K18.out _) (fun _ => rfl) (by have hh := (And.intro h106 h108); go_simp)
      · intro w' hb' fr hout hin
        have h104 : fr.tmps.getD 104 undef = W s := hin 104 (by decide) (by decide)
        have h109 : fr.tmps.getD 109 undef = W s := hin 109 (by decide) (by decide)
        have h99 : fr.tmps.getD 99 undef = .bool true := hin 99 (by decide) (by decide)
        clear hout hin
        exact op_eqW (n := s) (.tmp 104) (.tmp 109) _ rfl h104 h109 (wanted_some (g := 50) (t := 99) (b := true) rfl rfl h99) rfl
      · intro w' hb' fr hout hin
        have h99 : fr.tmps.getD 99 undef = .bool true := hin 99 (by decide) (by decide)
        have h110 : fr.tmps.getD 110 undef = .bool true := hin 110 (by decide) (by decide)
        clear hout hin
        exact relStep_pick (.tmp 99) (.tmp 110) (.const (.bool false)) rfl h99 (wanted_none rfl) (by show fr.tmps.getD 110 undef = _; rw [h110])
      · intro w' hb' fr hout hin
        have h111 : fr.tmps.getD 111 undef = .bool true := hin 111 (by decide) (by decide)
        clear hout hin
        exact relStep_move (.tmp 111) rfl (wanted_none rfl) (by show fr.tmps.getD 111 undef = _; rw [h111])
      · intro w' hb' fr hout hin
        have h112 : fr.tmps.getD 112 undef = .bool true := hin 112 (by decide) (by decide)
        clear hout hin
        exact relStep_callV 35 #[] (wanted_some (g := 63) (t := 112) (b := true) rfl rfl h112) (wakes_c _) (fun _ => rfl) (by go_simp)
      · intro w' hb' fr hout hin
        have h112 : fr.tmps.getD 112 undef = .bool true := hin 112 (by decide) (by decide)
        have h113 : fr.tmps.getD 113 undef = .bool true := hin 113 (by decide) (by decide)
        clear hout hin
        exact relStep_pick (.tmp 112) (.tmp 113) (.const (.bool false)) rfl h112 (wanted_none rfl) (by show fr.tmps.getD 113 undef = _; rw [h113])
      · intro w' hb' fr hout hin
        have h114 : fr.tmps.getD 114 undef = .bool true := hin 114 (by decide) (by decide)
        clear hout hin
        exact relStep_assign (.tmp 114) rfl (wanted_none rfl) (by show fr.tmps.getD 114 undef = _; rw [h114])
    · intro w' hb'
      refine relAsk_in (by rfl) ?_
      intro v49 h49
      obtain rfl : v49 = .pointer (some ⟨w.heap.size, 8, none⟩) := h49
      refine relAsk_in (by rfl) ?_
      intro v50 h50
      obtain rfl : v50 = W c := h50
      refine relAsk_in (by rfl) ?_
      intro v51 h51
      obtain rfl : v51 = .pointer (some ⟨w.heap.size, 0, none⟩) := h51
      refine relAsk_in (by rfl) ?_
      intro v52 h52
      obtain rfl : v52 = W a := h52
      refine relAsk_in (by rfl) ?_
      intro v53 h53
      obtain rfl : v53 = W e := h53
      refine relAsk_in (by rfl) ?_
      intro v54 h54
      obtain rfl : v54 = .pointer (some ⟨w.heap.size, 8, none⟩) := h54
      refine relAsk_in (by rfl) ?_
      intro v55 h55
      obtain rfl : v55 = W c := h55
      refine relAsk_in (by rfl) ?_
      intro v56 h56
      obtain rfl : v56 = .pointer (some ⟨w.heap.size, 0, none⟩) := h56
      refine relAsk_in (by rfl) ?_
      intro v57 h57
      obtain rfl : v57 = W a := h57
      refine relAsk_in (by rfl) ?_
      intro v58 h58
      obtain rfl : v58 = W e := h58
      refine relAsk_in (by rfl) ?_
      intro v59 h59
      obtain rfl : v59 = .bool true := h59
      refine relAsk_in (by rfl) ?_
      intro v60 h60
      obtain rfl : v60 = .bool true := h60
      refine relAsk_in (by rfl) ?_
      intro v61 h61
      obtain rfl : v61 = .pointer (some ⟨w.heap.size, 8, none⟩) := h61
      refine relAsk_in (by rfl) ?_
      intro v62 h62
      obtain rfl : v62 = W c := h62
      refine relAsk_in (by rfl) ?_
      intro v63 h63
      obtain rfl : v63 = .pointer (some ⟨w.heap.size, 0, none⟩) := h63
      refine relAsk_in (by rfl) ?_
      intro v64 h64
      obtain rfl : v64 = W a := h64
      refine relAsk_in (by rfl) ?_
      intro v65 h65
      obtain rfl : v65 = W t := h65
      refine relAsk_in (by rfl) ?_
      intro v66 h66
      obtain rfl : v66 = .pointer (some ⟨w.heap.size, 8, none⟩) := h66
      refine relAsk_in (by rfl) ?_
      intro v67 h67
      obtain rfl : v67 = W c := h67
      refine relAsk_in (by rfl) ?_
      intro v68 h68
      obtain rfl : v68 = .pointer (some ⟨w.heap.size, 0, none⟩) := h68
      refine relAsk_in (by rfl) ?_
      intro v69 h69
      obtain rfl : v69 = W a := h69
      refine relAsk_in (by rfl) ?_
      intro v70 h70
      obtain rfl : v70 = W t := h70
      refine relAsk_in (by rfl) ?_
      intro v71 h71
      obtain rfl : v71 = .bool true := h71
      refine relAsk_in (by rfl) ?_
      intro v72 h72
      obtain rfl : v72 = .bool true := h72
      refine relAsk_in (by rfl) ?_
      intro v73 h73
      obtain rfl : v73 = .bool true := h73
      refine relAsk_in (by rfl) ?_
      intro v74 h74
      obtain rfl : v74 = .pointer (some ⟨w.heap.size, 8, none⟩) := h74
      refine relAsk_in (by rfl) ?_
      intro v75 h75
      obtain rfl : v75 = W c := h75
      refine relAsk_in (by rfl) ?_
      intro v76 h76
      obtain rfl : v76 = .pointer (some ⟨w.heap.size, 0, none⟩) := h76
      refine relAsk_in (by rfl) ?_
      intro v77 h77
      obtain rfl : v77 = W a := h77
      refine relAsk_in (by rfl) ?_
      intro v78 h78
      obtain rfl : v78 = W l := h78
      refine relAsk_in (by rfl) ?_
      intro v79 h79
      obtain rfl : v79 = .pointer (some ⟨w.heap.size, 8, none⟩) := h79
      refine relAsk_in (by rfl) ?_
      intro v80 h80
      obtain rfl : v80 = W c := h80
      refine relAsk_in (by rfl) ?_
      intro v81 h81
      obtain rfl : v81 = .pointer (some ⟨w.heap.size, 0, none⟩) := h81
      refine relAsk_in (by rfl) ?_
      intro v82 h82
      obtain rfl : v82 = W a := h82
      refine relAsk_in (by rfl) ?_
      intro v83 h83
      obtain rfl : v83 = W l := h83
      refine relAsk_in (by rfl) ?_
      intro v84 h84
      obtain rfl : v84 = .bool true := h84
      refine relAsk_in (by rfl) ?_
      intro v85 h85
      obtain rfl : v85 = .bool true := h85
      refine relAsk_in (by rfl) ?_
      intro v86 h86
      obtain rfl : v86 = .bool true := h86
      refine relAsk_in (by rfl) ?_
      intro v87 h87
      obtain rfl : v87 = .pointer (some ⟨w.heap.size, 8, none⟩) := h87
      refine relAsk_in (by rfl) ?_
      intro v88 h88
      obtain rfl : v88 = W c := h88
      refine relAsk_in (by rfl) ?_
      intro v89 h89
      obtain rfl : v89 = .pointer (some ⟨w.heap.size, 0, none⟩) := h89
      refine relAsk_in (by rfl) ?_
      intro v90 h90
      obtain rfl : v90 = W a := h90
      refine relAsk_in (by rfl) ?_
      intro v91 h91
      obtain rfl : v91 = W r := h91
      refine relAsk_in (by rfl) ?_
      intro v92 h92
      obtain rfl : v92 = .pointer (some ⟨w.heap.size, 8, none⟩) := h92
      refine relAsk_in (by rfl) ?_
      intro v93 h93
      obtain rfl : v93 = W c := h93
      refine relAsk_in (by rfl) ?_
      intro v94 h94
      obtain rfl : v94 = .pointer (some ⟨w.heap.size, 0, none⟩) := h94
      refine relAsk_in (by rfl) ?_
      intro v95 h95
      obtain rfl : v95 = W a := h95
      refine relAsk_in (by rfl) ?_
      intro v96 h96
      obtain rfl : v96 = W r := h96
      refine relAsk_in (by rfl) ?_
      intro v97 h97
      obtain rfl : v97 = .bool true := h97
      refine relAsk_in (by rfl) ?_
      intro v98 h98
      obtain rfl : v98 = .bool true := h98
      refine relAsk_in (by rfl) ?_
      intro v99 h99
      obtain rfl : v99 = .bool true := h99
      refine relAsk_in (by rfl) ?_
      intro v100 h100
      obtain rfl : v100 = .pointer (some ⟨w.heap.size, 8, none⟩) := h100
      refine relAsk_in (by rfl) ?_
      intro v101 h101
      obtain rfl : v101 = W c := h101
      refine relAsk_in (by rfl) ?_
      intro v102 h102
      obtain rfl : v102 = .pointer (some ⟨w.heap.size, 0, none⟩) := h102
      refine relAsk_in (by rfl) ?_
      intro v103 h103
      obtain rfl : v103 = W a := h103
      refine relAsk_in (by rfl) ?_
      intro v104 h104
      obtain rfl : v104 = W s := h104
      refine relAsk_in (by rfl) ?_
      intro v105 h105
      obtain rfl : v105 = .pointer (some ⟨w.heap.size, 8, none⟩) := h105
      refine relAsk_in (by rfl) ?_
      intro v106 h106
      obtain rfl : v106 = W c := h106
      refine relAsk_in (by rfl) ?_
      intro v107 h107
      obtain rfl : v107 = .pointer (some ⟨w.heap.size, 0, none⟩) := h107
      refine relAsk_in (by rfl) ?_
      intro v108 h108
      obtain rfl : v108 = W a := h108
      refine relAsk_in (by rfl) ?_
      intro v109 h109
      obtain rfl : v109 = W s := h109
      refine relAsk_in (by rfl) ?_
      intro v110 h110
      obtain rfl : v110 = .bool true := h110
      refine relAsk_in (by rfl) ?_
      intro v111 h111
      obtain rfl : v111 = .bool true := h111
      refine relAsk_in (by rfl) ?_
      intro v112 h112
      obtain rfl : v112 = .bool true := h112
      refine relAsk_in (by rfl) ?_
      intro v113 h113
      obtain rfl : v113 = .bool true := h113
      refine relAsk_in (by rfl) ?_
      intro v114 h114
      obtain rfl : v114 = .bool true := h114
      refine relAsk_in (by rfl) ?_
      intro v2 h2
      obtain rfl : v2 = .bool true := h2
      refine relAsk_nil ?_
      refine wpList_nil ?_
      go_simp
      go_wp2_with fail
      go_ret
      exact ⟨rfl, hW.trans (hb'.mono hW.size)⟩
end Go.Proofs.Ytihffojljbgpcaa
