/- The law WordForms, by the contracts of its callees. -/
import Derived.Test.YtihffojljbgpcaaForms1
import Derived.Test.YtihffojljbgpcaaOps4
import Derived.Test.YtihffojljbgpcaaSmall
import Derived.Test.YtihffojljbgpcaaByte
import Derived.Test.YtihffojljbgpcaaWakes
namespace Go.Proofs.Ytihffojljbgpcaa
open Go.RowKit

theorem FV_eq (bs : List Nat) : ∃ (n : Nat) (t : Bool), FV bs = .tuple #[W n, .bool t] := by
  unfold FV
  split
  · exact ⟨_, _, rfl⟩
  · exact ⟨0, false, rfl⟩
theorem sml_eq (a : Nat) : ∃ (n : Nat) (t : Bool), sml a = .tuple #[.int .u64 (n : Nat), .bool t] := by
  unfold sml
  split
  · exact ⟨_, _, rfl⟩
  · exact ⟨0, false, rfl⟩
theorem cmp_self (a : Nat) : cmpv a a = 0 := by unfold cmpv; simp
theorem c0 {v : Value} {z : Int} (h : v = .int .i64 z) (e : z = 0) : v = .int .i64 0 := by rw [h, e]
set_option maxRecDepth 100000 in
set_option maxHeartbeats 12800000 in
theorem forms_c {a b c : Nat} (ha : Big a) (hb : Big b) (_hc : Big c) {A : Option Addr} {cap : Nat} {bs : List Nat} (w : World) (hrd : Rd .u8 w A cap bs) (hds : Ds 256 bs) :
    Calls Try.prog 3 #[V3 a b c, .slice A bs.length cap] w (RetV (.bool true) w) := by
  obtain ⟨xs, hxs⟩ : ∃ xs, xs = bs.take 100 := ⟨_, rfl⟩
  have HXS := Lib.hid hxs
  clear hxs
  obtain ⟨nf, tf, hfv⟩ := FV_eq xs
  obtain ⟨sn, st, hsm⟩ := sml_eq a
  have k1 : ∀ w, Calls Try.prog 23 #[W a] w (RetV (BV (bytes32 a)) w) := fun w => bytes_c ha w
  have k2 : ∀ w, Calls Try.prog 24 #[W a] w (RetV (BV (bytes32 a)) w) := fun w => bytes1_c ha w
  have k3 : ∀ w, Calls Try.prog 25 #[W a] w (RetR (fun w' v => Byt w' v (shortv a)) w) := fun w => short_c ha w
  have k4 : ∀ w, Calls Try.prog 26 #[W a] w (RetR (fun w' v => Byt w' v (shortv a)) w) := fun w => short1_c ha w
  have k5 : ∀ w, Calls Try.prog 27 #[W a] w (RetV (.int .i64 (blen a : Nat)) w) := fun w => bitsW_c ha w
  have k6 : ∀ w, Calls Try.prog 28 #[W a] w (RetV (.int .i64 (blen a : Nat)) w) := fun w => bits1_c ha w
  have k7 : ∀ w, Calls Try.prog 29 #[.int .u64 (lim 0 a : Nat)] w (RetW (lim 0 a) w) := fun w => of_c _ (lim_lt 0 a) w
  have k8 : ∀ w, Calls Try.prog 30 #[.int .u64 (lim 0 a : Nat)] w (RetW (lim 0 a) w) := fun w => of1_c _ (lim_lt 0 a) w
  have k9 : ∀ w, Calls Try.prog 31 #[W a, W b] w (RetV (.int .i64 (cmpv a b)) w) := fun w => cmp_c (isW_lim ha) (isW_lim hb) w
  have k10 : ∀ w, Calls Try.prog 32 #[W a, W b] w (RetV (.int .i64 (cmpv a b)) w) := fun w => cmp1_c ha hb w
  have k11 : ∀ w, Calls Try.prog 33 #[W a, W b] w (RetV (.int .i64 (scmpv a b)) w) := fun w => scmp_c ha hb w
  have k12 : ∀ w, Calls Try.prog 34 #[W a, W b] w (RetV (.int .i64 (scmpv a b)) w) := fun w => scmp1_c ha hb w
  have k13 : ∀ w, Calls Try.prog 31 #[W a, W a] w (RetV (.int .i64 (cmpv a a)) w) := fun w => cmp_c (isW_lim ha) (isW_lim ha) w
  have k14 : ∀ w, Calls Try.prog 21 #[.agg #[.int .u64 (lim 0 a : Nat), .int .u64 (lim 1 a : Nat), .int .u64 (lim 2 a : Nat), .int .u64 (lim 3 a : Nat)]] w (RetV (.tuple #[.int .u64 (sn : Nat), .bool st]) w) := fun w => by rw [← hsm]; exact small_c ha w
  have k15 : ∀ w, Calls Try.prog 22 #[.agg #[.int .u64 (lim 0 a : Nat), .int .u64 (lim 1 a : Nat), .int .u64 (lim 2 a : Nat), .int .u64 (lim 3 a : Nat)]] w (RetV (.tuple #[.int .u64 (sn : Nat), .bool st]) w) := fun w => by rw [← hsm]; exact small1_c ha w
  have K1 := Lib.hid k1
  have K2 := Lib.hid k2
  have K3 := Lib.hid k3
  have K4 := Lib.hid k4
  have K5 := Lib.hid k5
  have K6 := Lib.hid k6
  have K7 := Lib.hid k7
  have K8 := Lib.hid k8
  have K9 := Lib.hid k9
  have K10 := Lib.hid k10
  have K11 := Lib.hid k11
  have K12 := Lib.hid k12
  have K13 := Lib.hid k13
  have K14 := Lib.hid k14
  have K15 := Lib.hid k15
  have hx0 := box3 w a b c
  have hW0 : Below w.heap.size w (Box3 w a b c) := (Below.refl _ _).alloc (Nat.le_refl _) _
  dsimp only [Box3] at hx0 hW0
  have hrd1 := hrd.alloc (.cells #[.int .u64 (lim 0 a : Nat), .int .u64 (lim 1 a : Nat), .int .u64 (lim 2 a : Nat), .int .u64 (lim 3 a : Nat), .int .u64 (lim 0 b : Nat), .int .u64 (lim 1 b : Nat), .int .u64 (lim 2 b : Nat), .int .u64 (lim 3 b : Nat), .int .u64 (lim 0 c : Nat), .int .u64 (lim 1 c : Nat), .int .u64 (lim 2 c : Nat), .int .u64 (lim 3 c : Nat)] 26)
  obtain ⟨L, hL⟩ : ∃ L, L = bs.length := ⟨_, rfl⟩
  rw [← hL]
  have HL := Lib.hid hL
  have HDS := Lib.hid hds
  have HFV := Lib.hid hfv
  clear k1 k2 k3 k4 k5 k6 k7 k8 k9 k10 k11 k12 k13 k14 k15 hfv hsm hrd hds ha hb hL
  go_enter Try.func3, Try.ntmps3
  go_upto_region 1 with (fail)
  generalize w.alloc (.cells #[.int .u64 (lim 0 a : Nat), .int .u64 (lim 1 a : Nat), .int .u64 (lim 2 a : Nat), .int .u64 (lim 3 a : Nat), .int .u64 (lim 0 b : Nat), .int .u64 (lim 1 b : Nat), .int .u64 (lim 2 b : Nat), .int .u64 (lim 3 b : Nat), .int .u64 (lim 0 c : Nat), .int .u64 (lim 1 c : Nat), .int .u64 (lim 2 c : Nat), .int .u64 (lim 3 c : Nat)] 26) = X at *
  have hx := Lib.hid hx0
  have gW := Lib.hid hW0
  have HB := Lib.hid hrd1
  clear hx0 hW0 hrd1
  have ht : Calls Try.prog 19 #[.slice A L cap, .int .i64 100] X (RetR (fun w' v => Byt w' v xs) X) := by
    have h := twin_c X HB.out HDS.out 100 (by omega) (by omega)
    rw [← HL.out, ← HXS.out] at h
    exact h
  have HT := Lib.hid ht
  clear ht
  go_wp2_with fail
  (with_reducible refine HT.out.mono ?_)
  rintro e u5 ⟨v5, rfl, hby, hb1⟩
  have hx := Lib.hid (hx.out.below hb1 hx.out.lt)
  have gW := Lib.hid (gW.out.trans (hb1.mono gW.out.size))
  have HB := Lib.hid (HB.out.below hb1)
  obtain ⟨A2, c2, rfl, hrd2, hds2⟩ := hby
  have hf := from_c u5 hrd2 hds2
  rw [HFV.out] at hf
  have HF := Lib.hid hf
  clear hf hrd2 hds2 hb1 HT
  go_wp2_with fail
  (with_reducible refine HF.out.mono ?_)
  rintro e t5 ⟨rfl, hb1⟩
  have hx := Lib.hid (hx.out.below hb1 hx.out.lt)
  have gW := Lib.hid (gW.out.trans (hb1.mono gW.out.size))
  have HB := Lib.hid (HB.out.below hb1)
  clear hb1 HF
  go_upto_region 2 with (fail)
  have G5 := Lib.hid (Arr.new4 t5 24 (lim 0 nf) (lim 1 nf) (lim 2 nf) (lim 3 nf))
  have hx := Lib.hid (hx.out.alloc (.cells #[.int .u64 (lim 0 nf : Nat), .int .u64 (lim 1 nf : Nat), .int .u64 (lim 2 nf : Nat), .int .u64 (lim 3 nf : Nat)] 24))
  have gW := Lib.hid (gW.out.alloc gW.out.size (.cells #[.int .u64 (lim 0 nf : Nat), .int .u64 (lim 1 nf : Nat), .int .u64 (lim 2 nf : Nat), .int .u64 (lim 3 nf : Nat)] 24))
  have HB := Lib.hid (HB.out.alloc (.cells #[.int .u64 (lim 0 nf : Nat), .int .u64 (lim 1 nf : Nat), .int .u64 (lim 2 nf : Nat), .int .u64 (lim 3 nf : Nat)] 24))
  generalize t5.alloc (.cells #[.int .u64 (lim 0 nf : Nat), .int .u64 (lim 1 nf : Nat), .int .u64 (lim 2 nf : Nat), .int .u64 (lim 3 nf : Nat)] 24) = Y5 at *
  generalize t5.heap.size = g5 at *

  have ht : Calls Try.prog 19 #[.slice A L cap, .int .i64 100] Y5 (RetR (fun w' v => Byt w' v xs) Y5) := by
    have h := twin_c Y5 HB.out HDS.out 100 (by omega) (by omega)
    rw [← HL.out, ← HXS.out] at h
    exact h
  have HT := Lib.hid ht
  clear ht
  go_wp2_with fail
  (with_reducible refine HT.out.mono ?_)
  rintro e u7 ⟨v7, rfl, hby, hb1⟩
  have hx := Lib.hid (hx.out.below hb1 hx.out.lt)
  have gW := Lib.hid (gW.out.trans (hb1.mono gW.out.size))
  have HB := Lib.hid (HB.out.below hb1)
  have G5 := Lib.hid (G5.out.below hb1 G5.out.lt)
  obtain ⟨A2, c2, rfl, hrd2, hds2⟩ := hby
  have hf := from1_c u7 hrd2 hds2
  rw [HFV.out] at hf
  have HF := Lib.hid hf
  clear hf hrd2 hds2 hb1 HT
  go_wp2_with fail
  (with_reducible refine HF.out.mono ?_)
  rintro e t7 ⟨rfl, hb1⟩
  have hx := Lib.hid (hx.out.below hb1 hx.out.lt)
  have gW := Lib.hid (gW.out.trans (hb1.mono gW.out.size))
  have HB := Lib.hid (HB.out.below hb1)
  have G5 := Lib.hid (G5.out.below hb1 G5.out.lt)
  clear hb1 HF
  go_upto_region 3 with (fail)
  have G7 := Lib.hid (Arr.new4 t7 24 (lim 0 nf) (lim 1 nf) (lim 2 nf) (lim 3 nf))
  have hx := Lib.hid (hx.out.alloc (.cells #[.int .u64 (lim 0 nf : Nat), .int .u64 (lim 1 nf : Nat), .int .u64 (lim 2 nf : Nat), .int .u64 (lim 3 nf : Nat)] 24))
  have gW := Lib.hid (gW.out.alloc gW.out.size (.cells #[.int .u64 (lim 0 nf : Nat), .int .u64 (lim 1 nf : Nat), .int .u64 (lim 2 nf : Nat), .int .u64 (lim 3 nf : Nat)] 24))
  have HB := Lib.hid (HB.out.alloc (.cells #[.int .u64 (lim 0 nf : Nat), .int .u64 (lim 1 nf : Nat), .int .u64 (lim 2 nf : Nat), .int .u64 (lim 3 nf : Nat)] 24))
  have G5 := Lib.hid (G5.out.alloc (.cells #[.int .u64 (lim 0 nf : Nat), .int .u64 (lim 1 nf : Nat), .int .u64 (lim 2 nf : Nat), .int .u64 (lim 3 nf : Nat)] 24))
  generalize t7.alloc (.cells #[.int .u64 (lim 0 nf : Nat), .int .u64 (lim 1 nf : Nat), .int .u64 (lim 2 nf : Nat), .int .u64 (lim 3 nf : Nat)] 24) = Y7 at *
  generalize t7.heap.size = g7 at *

  clear HB HDS HFV HL HXS
  obtain ⟨x0, x1, x2, x3⟩ := cells3a hx.out
  go_wp2_with fail
  (with_reducible refine (K14.out _).mono ?_)
  rintro e s1 ⟨rfl, hb1⟩
  have hx := Lib.hid (hx.out.below hb1 hx.out.lt)
  have gW := Lib.hid (gW.out.trans (hb1.mono gW.out.size))
  have G5 := Lib.hid (G5.out.below hb1 G5.out.lt)
  have G7 := Lib.hid (G7.out.below hb1 G7.out.lt)
  clear hb1 x0 x1 x2 x3

  go_upto_region 4 with (fail)
  obtain ⟨x0, x1, x2, x3⟩ := cells3a hx.out
  go_wp2_with fail
  (with_reducible refine (K15.out _).mono ?_)
  rintro e s2 ⟨rfl, hb1⟩
  have hx := Lib.hid (hx.out.below hb1 hx.out.lt)
  have gW := Lib.hid (gW.out.trans (hb1.mono gW.out.size))
  have G5 := Lib.hid (G5.out.below hb1 G5.out.lt)
  have G7 := Lib.hid (G7.out.below hb1 G7.out.lt)
  clear hb1 x0 x1 x2 x3

  go_upto_region 5 with (fail)
  clear K14 K15
  refine wp_region_see 96 [37, 38, 39, 40, 41, 42, 43, 44, 45, 46, 47, 48, 49, 50, 51, 52, 53, 54, 55, 56, 57, 58, 59, 60, 61, 62, 63, 64, 65, 66, 67, 68, 69, 70, 71, 72, 73, 74, 75, 76, 77, 78, 79, 80, 81, 82, 83, 84, 85, 86, 87, 88, 89, 90, 91, 92, 93, 94, 95, 96, 97, 98, 99, 100, 101, 102, 103, 104, 105, 106, 107, 108, 109, 110, 111, 112, 113, 114, 115, 116, 117, 118, 119, 120, 121, 122, 123, 124, 125, 126, 127, 128, 129, 130, 131, 4] [(37, .is (W nf)), (38, .is (W nf)), (39, .is (.bool true)), (40, .is (.bool true)), (41, .is (.bool tf)), (42, .is (.bool tf)), (43, .is (.bool true)), (44, .is (.bool true)), (45, .is (.bool true)), (46, .is (.int .u64 (sn : Nat))), (47, .is (.int .u64 (sn : Nat))), (48, .is (.bool true)), (49, .is (.bool true)), (50, .is (.bool true)), (51, .is (.bool st)), (52, .is (.bool st)), (53, .is (.bool true)), (54, .is (.bool true)), (55, .is (.bool true)), (56, .is (.pointer (some ⟨w.heap.size, 0, none⟩))), (57, .is (W a)), (58, .is (BV (bytes32 a))), (59, .is (.pointer (some ⟨w.heap.size, 0, none⟩))), (60, .is (W a)), (61, .is (BV (bytes32 a))), (62, .is (.bool true)), (63, .is (.bool true)), (64, .is (.bool true)), (65, .is (.pointer (some ⟨w.heap.size, 0, none⟩))), (66, .is (W a)), (67, .byt (shortv a)), (68, .is (.string (sOf (shortv a)))), (69, .is (.pointer (some ⟨w.heap.size, 0, none⟩))), (70, .is (W a)), (71, .byt (shortv a)), (72, .is (.string (sOf (shortv a)))), (73, .is (.bool true)), (74, .is (.bool true)), (75, .is (.bool true)), (76, .is (.pointer (some ⟨w.heap.size, 0, none⟩))), (77, .is (W a)), (78, .is (.int .i64 (blen a : Nat))), (79, .is (.pointer (some ⟨w.heap.size, 0, none⟩))), (80, .is (W a)), (81, .is (.int .i64 (blen a : Nat))), (82, .is (.bool true)), (83, .is (.bool true)), (84, .is (.bool true)), (85, .is (.pointer (some ⟨w.heap.size, 0, none⟩))), (86, .is (.pointer (some ⟨w.heap.size, 0, none⟩))), (87, .is (.int .u64 (lim 0 a : Nat))), (88, .is (W (lim 0 a))), (89, .is (.pointer (some ⟨w.heap.size, 0, none⟩))), (90, .is (.pointer (some ⟨w.heap.size, 0, none⟩))), (91, .is (.int .u64 (lim 0 a : Nat))), (92, .is (W (lim 0 a))), (93, .is (.bool true)), (94, .is (.bool true)), (95, .is (.bool true)), (96, .is (.pointer (some ⟨w.heap.size, 0, none⟩))), (97, .is (W a)), (98, .is (.pointer (some ⟨w.heap.size, 4, none⟩))), (99, .is (W b)), (100, .is (.int .i64 (cmpv a b))), (101, .is (.pointer (some ⟨w.heap.size, 0, none⟩))), (102, .is (W a)), (103, .is (.pointer (some ⟨w.heap.size, 4, none⟩))), (104, .is (W b)), (105, .is (.int .i64 (cmpv a b))), (106, .is (.bool true)), (107, .is (.bool true)), (108, .is (.bool true)), (109, .is (.pointer (some ⟨w.heap.size, 0, none⟩))), (110, .is (W a)), (111, .is (.pointer (some ⟨w.heap.size, 4, none⟩))), (112, .is (W b)), (113, .is (.int .i64 (scmpv a b))), (114, .is (.pointer (some ⟨w.heap.size, 0, none⟩))), (115, .is (W a)), (116, .is (.pointer (some ⟨w.heap.size, 4, none⟩))), (117, .is (W b)), (118, .is (.int .i64 (scmpv a b))), (119, .is (.bool true)), (120, .is (.bool true)), (121, .is (.bool true)), (122, .is (.pointer (some ⟨w.heap.size, 0, none⟩))), (123, .is (W a)), (124, .is (.pointer (some ⟨w.heap.size, 0, none⟩))), (125, .is (W a)), (126, .is (.int .i64 (cmpv a a))), (127, .is (.bool true)), (128, .is (.bool true)), (129, .is (.bool true)), (130, .is (.bool true)), (131, .is (.bool true)), (4, .is (.bool true))] (by kernel_rfl) (by kernel_rfl) (by rfl) ?_ ?_
  · refine seeOps_cons ?_ (seeOps_cons ?_ (seeOps_cons ?_ (seeOps_cons ?_ (seeOps_cons ?_ (seeOps_cons ?_ (seeOps_cons ?_ (seeOps_cons ?_ (seeOps_cons ?_ (seeOps_cons ?_ (seeOps_cons ?_ (seeOps_cons ?_ (seeOps_cons ?_ (seeOps_cons ?_ (seeOps_cons ?_ (seeOps_cons ?_ (seeOps_cons ?_ (seeOps_cons ?_ (seeOps_cons ?_ (seeOps_cons ?_ (seeOps_cons ?_ (seeOps_cons ?_ (seeOps_cons ?_ (seeOps_cons ?_ (seeOps_cons ?_ (seeOps_cons ?_ (seeOps_cons ?_ (seeOps_cons ?_ (seeOps_cons ?_ (seeOps_cons ?_ (seeOps_cons ?_ (seeOps_cons ?_ (seeOps_cons ?_ (seeOps_cons ?_ (seeOps_cons ?_ (seeOps_cons ?_ (seeOps_cons ?_ (seeOps_cons ?_ (seeOps_cons ?_ (seeOps_cons ?_ (seeOps_cons ?_ (seeOps_cons ?_ (seeOps_cons ?_ (seeOps_cons ?_ (seeOps_cons ?_ (seeOps_cons ?_ (seeOps_cons ?_ (seeOps_cons ?_ (seeOps_cons ?_ (seeOps_cons ?_ (seeOps_cons ?_ (seeOps_cons ?_ (seeOps_cons ?_ (seeOps_cons ?_ (seeOps_cons ?_ (seeOps_cons ?_ (seeOps_cons ?_ (seeOps_cons ?_ (seeOps_cons ?_ (seeOps_cons ?_ (seeOps_cons ?_ (seeOps_cons ?_ (seeOps_cons ?_ (seeOps_cons ?_ (seeOps_cons ?_ (seeOps_cons ?_ (seeOps_cons ?_ (seeOps_cons ?_ (seeOps_cons ?_ (seeOps_cons ?_ (seeOps_cons ?_ (seeOps_cons ?_ (seeOps_cons ?_ (seeOps_cons ?_ (seeOps_cons ?_ (seeOps_cons ?_ (seeOps_cons ?_ (seeOps_cons ?_ (seeOps_cons ?_ (seeOps_cons ?_ (seeOps_cons ?_ (seeOps_cons ?_ (seeOps_cons ?_ (seeOps_cons ?_ (seeOps_cons ?_ (seeOps_cons ?_ (seeOps_cons ?_ (seeOps_cons ?_ (seeOps_cons ?_ (seeOps_cons ?_ (seeOps_cons ?_ (seeOps_cons ?_ (seeOps_cons ?_ (seeOps_cons ?_ (seeOps_cons ?_ (seeOps_cons ?_ seeOps_nil)))))))))))))))))))))))))))))))))))))))))))))))))))))))))))))))))))))))))))))))))))))))))))))))
    · intro w' hb' fr hout hin
      have e5 : fr.tmps.getD 5 undef = .pointer (some ⟨g5, 0, none⟩) := hout 5 (by decide)
      clear hout hin
      exact op_load (n := nf) (.tmp 5) rfl e5 ((G5.out.below hb' G5.out.lt).cells4) (wanted_none rfl) rfl
    · intro w' hb' fr hout hin
      have e7 : fr.tmps.getD 7 undef = .pointer (some ⟨g7, 0, none⟩) := hout 7 (by decide)
      clear hout hin
      exact op_load (n := nf) (.tmp 7) rfl e7 ((G7.out.below hb' G7.out.lt).cells4) (wanted_none rfl) rfl
    · intro w' hb' fr hout hin
      have h37 : fr.tmps.getD 37 undef = W nf := hin 37 (by decide) (by decide)
      have h38 : fr.tmps.getD 38 undef = W nf := hin 38 (by decide) (by decide)
      clear hout hin
      exact op_eqW (n := nf) (.tmp 37) (.tmp 38) _ rfl h37 h38 (wanted_none rfl) rfl
    · intro w' hb' fr hout hin
      have h39 : fr.tmps.getD 39 undef = .bool true := hin 39 (by decide) (by decide)
      clear hout hin
      exact relStep_move (.tmp 39) rfl (wanted_none rfl) (by show fr.tmps.getD 39 undef = _; rw [h39])
    · intro w' hb' fr hout hin
      have e6 : fr.tmps.getD 6 undef = .bool tf := hout 6 (by decide)
      have h40 : fr.tmps.getD 40 undef = .bool true := hin 40 (by decide) (by decide)
      clear hout hin
      exact relStep_move (.tmp 6) rfl (wanted_some (g := 3) (t := 40) (b := true) rfl rfl h40) (by show fr.tmps.getD 6 undef = _; rw [e6])
    · intro w' hb' fr hout hin
      have e8 : fr.tmps.getD 8 undef = .bool tf := hout 8 (by decide)
      have h40 : fr.tmps.getD 40 undef = .bool true := hin 40 (by decide) (by decide)
      clear hout hin
      exact relStep_move (.tmp 8) rfl (wanted_some (g := 3) (t := 40) (b := true) rfl rfl h40) (by show fr.tmps.getD 8 undef = _; rw [e8])
    · intro w' hb' fr hout hin
      have h41 : fr.tmps.getD 41 undef = .bool tf := hin 41 (by decide) (by decide)
      have h42 : fr.tmps.getD 42 undef = .bool tf := hin 42 (by decide) (by decide)
      have h40 : fr.tmps.getD 40 undef = .bool true := hin 40 (by decide) (by decide)
      clear hout hin
      exact op_eqB (.tmp 41) (.tmp 42) _ rfl h41 h42 (wanted_some (g := 3) (t := 40) (b := true) rfl rfl h40) rfl
    · intro w' hb' fr hout hin
      have h40 : fr.tmps.getD 40 undef = .bool true := hin 40 (by decide) (by decide)
      have h43 : fr.tmps.getD 43 undef = .bool true := hin 43 (by decide) (by decide)
      clear hout hin
      exact relStep_pick (.tmp 40) (.tmp 43) (.const (.bool false)) rfl h40 (wanted_none rfl) (by show fr.tmps.getD 43 undef = _; rw [h43])
    · intro w' hb' fr hout hin
      have h44 : fr.tmps.getD 44 undef = .bool true := hin 44 (by decide) (by decide)
      clear hout hin
      exact relStep_move (.tmp 44) rfl (wanted_none rfl) (by show fr.tmps.getD 44 undef = _; rw [h44])
    · intro w' hb' fr hout hin
      have e9 : fr.tmps.getD 9 undef = .int .u64 (sn : Nat) := hout 9 (by decide)
      have h45 : fr.tmps.getD 45 undef = .bool true := hin 45 (by decide) (by decide)
      clear hout hin
      exact relStep_move (.tmp 9) rfl (wanted_some (g := 8) (t := 45) (b := true) rfl rfl h45) (by show fr.tmps.getD 9 undef = _; rw [e9])
    · intro w' hb' fr hout hin
      have e11 : fr.tmps.getD 11 undef = .int .u64 (sn : Nat) := hout 11 (by decide)
      have h45 : fr.tmps.getD 45 undef = .bool true := hin 45 (by decide) (by decide)
      clear hout hin
      exact relStep_move (.tmp 11) rfl (wanted_some (g := 8) (t := 45) (b := true) rfl rfl h45) (by show fr.tmps.getD 11 undef = _; rw [e11])
    · intro w' hb' fr hout hin
      have h46 : fr.tmps.getD 46 undef = .int .u64 (sn : Nat) := hin 46 (by decide) (by decide)
      have h47 : fr.tmps.getD 47 undef = .int .u64 (sn : Nat) := hin 47 (by decide) (by decide)
      have h45 : fr.tmps.getD 45 undef = .bool true := hin 45 (by decide) (by decide)
      clear hout hin
      exact op_eqU (.tmp 46) (.tmp 47) _ rfl h46 h47 (wanted_some (g := 8) (t := 45) (b := true) rfl rfl h45) rfl
    · intro w' hb' fr hout hin
      have h45 : fr.tmps.getD 45 undef = .bool true := hin 45 (by decide) (by decide)
      have h48 : fr.tmps.getD 48 undef = .bool true := hin 48 (by decide) (by decide)
      clear hout hin
      exact relStep_pick (.tmp 45) (.tmp 48) (.const (.bool false)) rfl h45 (wanted_none rfl) (by show fr.tmps.getD 48 undef = _; rw [h48])
    · intro w' hb' fr hout hin
      have h49 : fr.tmps.getD 49 undef = .bool true := hin 49 (by decide) (by decide)
      clear hout hin
      exact relStep_move (.tmp 49) rfl (wanted_none rfl) (by show fr.tmps.getD 49 undef = _; rw [h49])
    · intro w' hb' fr hout hin
      have e10 : fr.tmps.getD 10 undef = .bool st := hout 10 (by decide)
      have h50 : fr.tmps.getD 50 undef = .bool true := hin 50 (by decide) (by decide)
      clear hout hin
      exact relStep_move (.tmp 10) rfl (wanted_some (g := 13) (t := 50) (b := true) rfl rfl h50) (by show fr.tmps.getD 10 undef = _; rw [e10])
    · intro w' hb' fr hout hin
      have e12 : fr.tmps.getD 12 undef = .bool st := hout 12 (by decide)
      have h50 : fr.tmps.getD 50 undef = .bool true := hin 50 (by decide) (by decide)
      clear hout hin
      exact relStep_move (.tmp 12) rfl (wanted_some (g := 13) (t := 50) (b := true) rfl rfl h50) (by show fr.tmps.getD 12 undef = _; rw [e12])
    · intro w' hb' fr hout hin
      have h51 : fr.tmps.getD 51 undef = .bool st := hin 51 (by decide) (by decide)
      have h52 : fr.tmps.getD 52 undef = .bool st := hin 52 (by decide) (by decide)
      have h50 : fr.tmps.getD 50 undef = .bool true := hin 50 (by decide) (by decide)
      clear hout hin
      exact op_eqB (.tmp 51) (.tmp 52) _ rfl h51 h52 (wanted_some (g := 13) (t := 50) (b := true) rfl rfl h50) rfl
    · intro w' hb' fr hout hin
      have h50 : fr.tmps.getD 50 undef = .bool true := hin 50 (by decide) (by decide)
      have h53 : fr.tmps.getD 53 undef = .bool true := hin 53 (by decide) (by decide)
      clear hout hin
      exact relStep_pick (.tmp 50) (.tmp 53) (.const (.bool false)) rfl h50 (wanted_none rfl) (by show fr.tmps.getD 53 undef = _; rw [h53])
    · intro w' hb' fr hout hin
      have h54 : fr.tmps.getD 54 undef = .bool true := hin 54 (by decide) (by decide)
      clear hout hin
      exact relStep_move (.tmp 54) rfl (wanted_none rfl) (by show fr.tmps.getD 54 undef = _; rw [h54])
    · intro w' hb' fr hout hin
      have e2 : fr.tmps.getD 2 undef = .pointer (some ⟨w.heap.size, 0, none⟩) := hout 2 (by decide)
      have h55 : fr.tmps.getD 55 undef = .bool true := hin 55 (by decide) (by decide)
      clear hout hin
      exact op_field (.tmp 2) rfl (by omega) e2 (wanted_some (g := 18) (t := 55) (b := true) rfl rfl h55) rfl
    · intro w' hb' fr hout hin
      have h56 : fr.tmps.getD 56 undef = .pointer (some ⟨w.heap.size, 0, none⟩) := hin 56 (by decide) (by decide)
      have h55 : fr.tmps.getD 55 undef = .bool true := hin 55 (by decide) (by decide)
      clear hout hin
      exact op_load (n := a) (.tmp 56) rfl h56 (cells3a (hx.out.below hb' hx.out.lt)) (wanted_some (g := 18) (t := 55) (b := true) rfl rfl h55) rfl
    · intro w' hb' fr hout hin
      have h57 : fr.tmps.getD 57 undef = W a := hin 57 (by decide) (by decide)
      have h55 : fr.tmps.getD 55 undef = .bool true := hin 55 (by decide) (by decide)
      clear hout hin
      exact relStep_callV 23 #[W a] (wanted_some (g := 18) (t := 55) (b := true) rfl rfl h55) (K1.out _) (fun _ => rfl) (by have hh := h57; go_simp)
    · intro w' hb' fr hout hin
      have e2 : fr.tmps.getD 2 undef = .pointer (some ⟨w.heap.size, 0, none⟩) := hout 2 (by decide)
      have h55 : fr.tmps.getD 55 undef = .bool true := hin 55 (by decide) (by decide)
      clear hout hin
      exact op_field (.tmp 2) rfl (by omega) e2 (wanted_some (g := 18) (t := 55) (b := true) rfl rfl h55) rfl
    · intro w' hb' fr hout hin
      have h59 : fr.tmps.getD 59 undef = .pointer (some ⟨w.heap.size, 0, none⟩) := hin 59 (by decide) (by decide)
      have h55 : fr.tmps.getD 55 undef = .bool true := hin 55 (by decide) (by decide)
      clear hout hin
      exact op_load (n := a) (.tmp 59) rfl h59 (cells3a (hx.out.below hb' hx.out.lt)) (wanted_some (g := 18) (t := 55) (b := true) rfl rfl h55) rfl
    · intro w' hb' fr hout hin
      have h60 : fr.tmps.getD 60 undef = W a := hin 60 (by decide) (by decide)
      have h55 : fr.tmps.getD 55 undef = .bool true := hin 55 (by decide) (by decide)
      clear hout hin
      exact relStep_callV 24 #[W a] (wanted_some (g := 18) (t := 55) (b := true) rfl rfl h55) (K2.out _) (fun _ => rfl) (by have hh := h60; go_simp)
    · intro w' hb' fr hout hin
      have h58 : fr.tmps.getD 58 undef = BV (bytes32 a) := hin 58 (by decide) (by decide)
      have h61 : fr.tmps.getD 61 undef = BV (bytes32 a) := hin 61 (by decide) (by decide)
      have h55 : fr.tmps.getD 55 undef = .bool true := hin 55 (by decide) (by decide)
      clear hout hin
      exact op_eq33 (bytes32_len _) (.tmp 58) (.tmp 61) _ rfl h58 h61 (wanted_some (g := 18) (t := 55) (b := true) rfl rfl h55) rfl
    · intro w' hb' fr hout hin
      have h55 : fr.tmps.getD 55 undef = .bool true := hin 55 (by decide) (by decide)
      have h62 : fr.tmps.getD 62 undef = .bool true := hin 62 (by decide) (by decide)
      clear hout hin
      exact relStep_pick (.tmp 55) (.tmp 62) (.const (.bool false)) rfl h55 (wanted_none rfl) (by show fr.tmps.getD 62 undef = _; rw [h62])
    · intro w' hb' fr hout hin
      have h63 : fr.tmps.getD 63 undef = .bool true := hin 63 (by decide) (by decide)
      clear hout hin
      exact relStep_move (.tmp 63) rfl (wanted_none rfl) (by show fr.tmps.getD 63 undef = _; rw [h63])
    · intro w' hb' fr hout hin
      have e2 : fr.tmps.getD 2 undef = .pointer (some ⟨w.heap.size, 0, none⟩) := hout 2 (by decide)
      have h64 : fr.tmps.getD 64 undef = .bool true := hin 64 (by decide) (by decide)
      clear hout hin
      exact op_field (.tmp 2) rfl (by omega) e2 (wanted_some (g := 27) (t := 64) (b := true) rfl rfl h64) rfl
    · intro w' hb' fr hout hin
      have h65 : fr.tmps.getD 65 undef = .pointer (some ⟨w.heap.size, 0, none⟩) := hin 65 (by decide) (by decide)
      have h64 : fr.tmps.getD 64 undef = .bool true := hin 64 (by decide) (by decide)
      clear hout hin
      exact op_load (n := a) (.tmp 65) rfl h65 (cells3a (hx.out.below hb' hx.out.lt)) (wanted_some (g := 27) (t := 64) (b := true) rfl rfl h64) rfl
    · intro w' hb' fr hout hin
      have h66 : fr.tmps.getD 66 undef = W a := hin 66 (by decide) (by decide)
      have h64 : fr.tmps.getD 64 undef = .bool true := hin 64 (by decide) (by decide)
      clear hout hin
      exact relStep_call 25 #[W a] (wanted_some (g := 27) (t := 64) (b := true) rfl rfl h64) (K3.out _) (fun _ _ h => h) (by have hh := h66; go_simp)
    · intro w' hb' fr hout hin
      have h67 : Byt w' (fr.tmps.getD 67 undef) (shortv a) := hin 67 (by decide) (by decide)
      have h64 : fr.tmps.getD 64 undef = .bool true := hin 64 (by decide) (by decide)
      clear hout hin
      exact op_str (.tmp 67) rfl h67 (wanted_some (g := 27) (t := 64) (b := true) rfl rfl h64) rfl
    · intro w' hb' fr hout hin
      have e2 : fr.tmps.getD 2 undef = .pointer (some ⟨w.heap.size, 0, none⟩) := hout 2 (by decide)
      have h64 : fr.tmps.getD 64 undef = .bool true := hin 64 (by decide) (by decide)
      clear hout hin
      exact op_field (.tmp 2) rfl (by omega) e2 (wanted_some (g := 27) (t := 64) (b := true) rfl rfl h64) rfl
    · intro w' hb' fr hout hin
      have h69 : fr.tmps.getD 69 undef = .pointer (some ⟨w.heap.size, 0, none⟩) := hin 69 (by decide) (by decide)
      have h64 : fr.tmps.getD 64 undef = .bool true := hin 64 (by decide) (by decide)
      clear hout hin
      exact op_load (n := a) (.tmp 69) rfl h69 (cells3a (hx.out.below hb' hx.out.lt)) (wanted_some (g := 27) (t := 64) (b := true) rfl rfl h64) rfl
    · intro w' hb' fr hout hin
      have h70 : fr.tmps.getD 70 undef = W a := hin 70 (by decide) (by decide)
      have h64 : fr.tmps.getD 64 undef = .bool true := hin 64 (by decide) (by decide)
      clear hout hin
      exact relStep_call 26 #[W a] (wanted_some (g := 27) (t := 64) (b := true) rfl rfl h64) (K4.out _) (fun _ _ h => h) (by have hh := h70; go_simp)
    · intro w' hb' fr hout hin
      have h71 : Byt w' (fr.tmps.getD 71 undef) (shortv a) := hin 71 (by decide) (by decide)
      have h64 : fr.tmps.getD 64 undef = .bool true := hin 64 (by decide) (by decide)
      clear hout hin
      exact op_str (.tmp 71) rfl h71 (wanted_some (g := 27) (t := 64) (b := true) rfl rfl h64) rfl
    · intro w' hb' fr hout hin
      have h68 : fr.tmps.getD 68 undef = .string (sOf (shortv a)) := hin 68 (by decide) (by decide)
      have h72 : fr.tmps.getD 72 undef = .string (sOf (shortv a)) := hin 72 (by decide) (by decide)
      have h64 : fr.tmps.getD 64 undef = .bool true := hin 64 (by decide) (by decide)
      clear hout hin
      exact op_eqS (.tmp 68) (.tmp 72) _ rfl h68 h72 (wanted_some (g := 27) (t := 64) (b := true) rfl rfl h64) rfl
    · intro w' hb' fr hout hin
      have h64 : fr.tmps.getD 64 undef = .bool true := hin 64 (by decide) (by decide)
      have h73 : fr.tmps.getD 73 undef = .bool true := hin 73 (by decide) (by decide)
      clear hout hin
      exact relStep_pick (.tmp 64) (.tmp 73) (.const (.bool false)) rfl h64 (wanted_none rfl) (by show fr.tmps.getD 73 undef = _; rw [h73])
    · intro w' hb' fr hout hin
      have h74 : fr.tmps.getD 74 undef = .bool true := hin 74 (by decide) (by decide)
      clear hout hin
      exact relStep_move (.tmp 74) rfl (wanted_none rfl) (by show fr.tmps.getD 74 undef = _; rw [h74])
    · intro w' hb' fr hout hin
      have e2 : fr.tmps.getD 2 undef = .pointer (some ⟨w.heap.size, 0, none⟩) := hout 2 (by decide)
      have h75 : fr.tmps.getD 75 undef = .bool true := hin 75 (by decide) (by decide)
      clear hout hin
      exact op_field (.tmp 2) rfl (by omega) e2 (wanted_some (g := 38) (t := 75) (b := true) rfl rfl h75) rfl
    · intro w' hb' fr hout hin
      have h76 : fr.tmps.getD 76 undef = .pointer (some ⟨w.heap.size, 0, none⟩) := hin 76 (by decide) (by decide)
      have h75 : fr.tmps.getD 75 undef = .bool true := hin 75 (by decide) (by decide)
      clear hout hin
      exact op_load (n := a) (.tmp 76) rfl h76 (cells3a (hx.out.below hb' hx.out.lt)) (wanted_some (g := 38) (t := 75) (b := true) rfl rfl h75) rfl
    · intro w' hb' fr hout hin
      have h77 : fr.tmps.getD 77 undef = W a := hin 77 (by decide) (by decide)
      have h75 : fr.tmps.getD 75 undef = .bool true := hin 75 (by decide) (by decide)
      clear hout hin
      exact relStep_callV 27 #[W a] (wanted_some (g := 38) (t := 75) (b := true) rfl rfl h75) (K5.out _) (fun _ => rfl) (by have hh := h77; go_simp)
    · intro w' hb' fr hout hin
      have e2 : fr.tmps.getD 2 undef = .pointer (some ⟨w.heap.size, 0, none⟩) := hout 2 (by decide)
      have h75 : fr.tmps.getD 75 undef = .bool true := hin 75 (by decide) (by decide)
      clear hout hin
      exact op_field (.tmp 2) rfl (by omega) e2 (wanted_some (g := 38) (t := 75) (b := true) rfl rfl h75) rfl
    · intro w' hb' fr hout hin
      have h79 : fr.tmps.getD 79 undef = .pointer (some ⟨w.heap.size, 0, none⟩) := hin 79 (by decide) (by decide)
      have h75 : fr.tmps.getD 75 undef = .bool true := hin 75 (by decide) (by decide)
      clear hout hin
      exact op_load (n := a) (.tmp 79) rfl h79 (cells3a (hx.out.below hb' hx.out.lt)) (wanted_some (g := 38) (t := 75) (b := true) rfl rfl h75) rfl
    · intro w' hb' fr hout hin
      have h80 : fr.tmps.getD 80 undef = W a := hin 80 (by decide) (by decide)
      have h75 : fr.tmps.getD 75 undef = .bool true := hin 75 (by decide) (by decide)
      clear hout hin
      exact relStep_callV 28 #[W a] (wanted_some (g := 38) (t := 75) (b := true) rfl rfl h75) (K6.out _) (fun _ => rfl) (by have hh := h80; go_simp)
    · intro w' hb' fr hout hin
      have h78 : fr.tmps.getD 78 undef = .int .i64 (blen a : Nat) := hin 78 (by decide) (by decide)
      have h81 : fr.tmps.getD 81 undef = .int .i64 (blen a : Nat) := hin 81 (by decide) (by decide)
      have h75 : fr.tmps.getD 75 undef = .bool true := hin 75 (by decide) (by decide)
      clear hout hin
      exact op_eqI (.tmp 78) (.tmp 81) _ rfl h78 h81 (wanted_some (g := 38) (t := 75) (b := true) rfl rfl h75) rfl
    · intro w' hb' fr hout hin
      have h75 : fr.tmps.getD 75 undef = .bool true := hin 75 (by decide) (by decide)
      have h82 : fr.tmps.getD 82 undef = .bool true := hin 82 (by decide) (by decide)
      clear hout hin
      exact relStep_pick (.tmp 75) (.tmp 82) (.const (.bool false)) rfl h75 (wanted_none rfl) (by show fr.tmps.getD 82 undef = _; rw [h82])
    · intro w' hb' fr hout hin
      have h83 : fr.tmps.getD 83 undef = .bool true := hin 83 (by decide) (by decide)
      clear hout hin
      exact relStep_move (.tmp 83) rfl (wanted_none rfl) (by show fr.tmps.getD 83 undef = _; rw [h83])
    · intro w' hb' fr hout hin
      have e2 : fr.tmps.getD 2 undef = .pointer (some ⟨w.heap.size, 0, none⟩) := hout 2 (by decide)
      have h84 : fr.tmps.getD 84 undef = .bool true := hin 84 (by decide) (by decide)
      clear hout hin
      exact op_field (.tmp 2) rfl (by omega) e2 (wanted_some (g := 47) (t := 84) (b := true) rfl rfl h84) rfl
    · intro w' hb' fr hout hin
      have h85 : fr.tmps.getD 85 undef = .pointer (some ⟨w.heap.size, 0, none⟩) := hin 85 (by decide) (by decide)
      have h84 : fr.tmps.getD 84 undef = .bool true := hin 84 (by decide) (by decide)
      clear hout hin
      exact op_indexW (.tmp 85) rfl h85 (wanted_some (g := 47) (t := 84) (b := true) rfl rfl h84) rfl
    · intro w' hb' fr hout hin
      have h86 : fr.tmps.getD 86 undef = .pointer (some ⟨w.heap.size, 0, none⟩) := hin 86 (by decide) (by decide)
      have h84 : fr.tmps.getD 84 undef = .bool true := hin 84 (by decide) (by decide)
      clear hout hin
      exact op_load64 (.tmp 86) rfl h86 ((cells3a (hx.out.below hb' hx.out.lt)).1) (wanted_some (g := 47) (t := 84) (b := true) rfl rfl h84) rfl
    · intro w' hb' fr hout hin
      have h87 : fr.tmps.getD 87 undef = .int .u64 (lim 0 a : Nat) := hin 87 (by decide) (by decide)
      have h84 : fr.tmps.getD 84 undef = .bool true := hin 84 (by decide) (by decide)
      clear hout hin
      exact relStep_callW 29 #[.int .u64 (lim 0 a : Nat)] (wanted_some (g := 47) (t := 84) (b := true) rfl rfl h84) (K7.out _) (fun _ => rfl) (by have hh := h87; go_simp)
    · intro w' hb' fr hout hin
      have e2 : fr.tmps.getD 2 undef = .pointer (some ⟨w.heap.size, 0, none⟩) := hout 2 (by decide)
      have h84 : fr.tmps.getD 84 undef = .bool true := hin 84 (by decide) (by decide)
      clear hout hin
      exact op_field (.tmp 2) rfl (by omega) e2 (wanted_some (g := 47) (t := 84) (b := true) rfl rfl h84) rfl
    · intro w' hb' fr hout hin
      have h89 : fr.tmps.getD 89 undef = .pointer (some ⟨w.heap.size, 0, none⟩) := hin 89 (by decide) (by decide)
      have h84 : fr.tmps.getD 84 undef = .bool true := hin 84 (by decide) (by decide)
      clear hout hin
      exact op_indexW (.tmp 89) rfl h89 (wanted_some (g := 47) (t := 84) (b := true) rfl rfl h84) rfl
    · intro w' hb' fr hout hin
      have h90 : fr.tmps.getD 90 undef = .pointer (some ⟨w.heap.size, 0, none⟩) := hin 90 (by decide) (by decide)
      have h84 : fr.tmps.getD 84 undef = .bool true := hin 84 (by decide) (by decide)
      clear hout hin
      exact op_load64 (.tmp 90) rfl h90 ((cells3a (hx.out.below hb' hx.out.lt)).1) (wanted_some (g := 47) (t := 84) (b := true) rfl rfl h84) rfl
    · intro w' hb' fr hout hin
      have h91 : fr.tmps.getD 91 undef = .int .u64 (lim 0 a : Nat) := hin 91 (by decide) (by decide)
      have h84 : fr.tmps.getD 84 undef = .bool true := hin 84 (by decide) (by decide)
      clear hout hin
      exact relStep_callW 30 #[.int .u64 (lim 0 a : Nat)] (wanted_some (g := 47) (t := 84) (b := true) rfl rfl h84) (K8.out _) (fun _ => rfl) (by have hh := h91; go_simp)
    · intro w' hb' fr hout hin
      have h88 : fr.tmps.getD 88 undef = W (lim 0 a) := hin 88 (by decide) (by decide)
      have h92 : fr.tmps.getD 92 undef = W (lim 0 a) := hin 92 (by decide) (by decide)
      have h84 : fr.tmps.getD 84 undef = .bool true := hin 84 (by decide) (by decide)
      clear hout hin
      exact op_eqW (n := (lim 0 a)) (.tmp 88) (.tmp 92) _ rfl h88 h92 (wanted_some (g := 47) (t := 84) (b := true) rfl rfl h84) rfl
    · intro w' hb' fr hout hin
      have h84 : fr.tmps.getD 84 undef = .bool true := hin 84 (by decide) (by decide)
      have h93 : fr.tmps.getD 93 undef = .bool true := hin 93 (by decide) (by decide)
      clear hout hin
      exact relStep_pick (.tmp 84) (.tmp 93) (.const (.bool false)) rfl h84 (wanted_none rfl) (by show fr.tmps.getD 93 undef = _; rw [h93])
    · intro w' hb' fr hout hin
      have h94 : fr.tmps.getD 94 undef = .bool true := hin 94 (by decide) (by decide)
      clear hout hin
      exact relStep_move (.tmp 94) rfl (wanted_none rfl) (by show fr.tmps.getD 94 undef = _; rw [h94])
    · intro w' hb' fr hout hin
      have e2 : fr.tmps.getD 2 undef = .pointer (some ⟨w.heap.size, 0, none⟩) := hout 2 (by decide)
      have h95 : fr.tmps.getD 95 undef = .bool true := hin 95 (by decide) (by decide)
      clear hout hin
      exact op_field (.tmp 2) rfl (by omega) e2 (wanted_some (g := 58) (t := 95) (b := true) rfl rfl h95) rfl
    · intro w' hb' fr hout hin
      have h96 : fr.tmps.getD 96 undef = .pointer (some ⟨w.heap.size, 0, none⟩) := hin 96 (by decide) (by decide)
      have h95 : fr.tmps.getD 95 undef = .bool true := hin 95 (by decide) (by decide)
      clear hout hin
      exact op_load (n := a) (.tmp 96) rfl h96 (cells3a (hx.out.below hb' hx.out.lt)) (wanted_some (g := 58) (t := 95) (b := true) rfl rfl h95) rfl
    · intro w' hb' fr hout hin
      have e2 : fr.tmps.getD 2 undef = .pointer (some ⟨w.heap.size, 0, none⟩) := hout 2 (by decide)
      have h95 : fr.tmps.getD 95 undef = .bool true := hin 95 (by decide) (by decide)
      clear hout hin
      exact op_field (.tmp 2) rfl (by omega) e2 (wanted_some (g := 58) (t := 95) (b := true) rfl rfl h95) rfl
    · intro w' hb' fr hout hin
      have h98 : fr.tmps.getD 98 undef = .pointer (some ⟨w.heap.size, 4, none⟩) := hin 98 (by decide) (by decide)
      have h95 : fr.tmps.getD 95 undef = .bool true := hin 95 (by decide) (by decide)
      clear hout hin
      exact op_load (n := b) (.tmp 98) rfl h98 (cells3b (hx.out.below hb' hx.out.lt)) (wanted_some (g := 58) (t := 95) (b := true) rfl rfl h95) rfl
    · intro w' hb' fr hout hin
      have h97 : fr.tmps.getD 97 undef = W a := hin 97 (by decide) (by decide)
      have h99 : fr.tmps.getD 99 undef = W b := hin 99 (by decide) (by decide)
      have h95 : fr.tmps.getD 95 undef = .bool true := hin 95 (by decide) (by decide)
      clear hout hin
      exact relStep_callV 31 #[W a, W b] (wanted_some (g := 58) (t := 95) (b := true) rfl rfl h95) (K9.out _) (fun _ => rfl) (by have hh := (And.intro h97 h99); go_simp)
    · intro w' hb' fr hout hin
      have e2 : fr.tmps.getD 2 undef = .pointer (some ⟨w.heap.size, 0, none⟩) := hout 2 (by decide)
      have h95 : fr.tmps.getD 95 undef = .bool true := hin 95 (by decide) (by decide)
      clear hout hin
      exact op_field (.tmp 2) rfl (by omega) e2 (wanted_some (g := 58) (t := 95) (b := true) rfl rfl h95) rfl
    · intro w' hb' fr hout hin
      have h101 : fr.tmps.getD 101 undef = .pointer (some ⟨w.heap.size, 0, none⟩) := hin 101 (by decide) (by decide)
      have h95 : fr.tmps.getD 95 undef = .bool true := hin 95 (by decide) (by decide)
      clear hout hin
      exact op_load (n := a) (.tmp 101) rfl h101 (cells3a (hx.out.below hb' hx.out.lt)) (wanted_some (g := 58) (t := 95) (b := true) rfl rfl h95) rfl
    · intro w' hb' fr hout hin
      have e2 : fr.tmps.getD 2 undef = .pointer (some ⟨w.heap.size, 0, none⟩) := hout 2 (by decide)
      have h95 : fr.tmps.getD 95 undef = .bool true := hin 95 (by decide) (by decide)
      clear hout hin
      exact op_field (.tmp 2) rfl (by omega) e2 (wanted_some (g := 58) (t := 95) (b := true) rfl rfl h95) rfl
    · intro w' hb' fr hout hin
      have h103 : fr.tmps.getD 103 undef = .pointer (some ⟨w.heap.size, 4, none⟩) := hin 103 (by decide) (by decide)
      have h95 : fr.tmps.getD 95 undef = .bool true := hin 95 (by decide) (by decide)
      clear hout hin
      exact op_load (n := b) (.tmp 103) rfl h103 (cells3b (hx.out.below hb' hx.out.lt)) (wanted_some (g := 58) (t := 95) (b := true) rfl rfl h95) rfl
    · intro w' hb' fr hout hin
      have h102 : fr.tmps.getD 102 undef = W a := hin 102 (by decide) (by decide)
      have h104 : fr.tmps.getD 104 undef = W b := hin 104 (by decide) (by decide)
      have h95 : fr.tmps.getD 95 undef = .bool true := hin 95 (by decide) (by decide)
      clear hout hin
      exact relStep_callV 32 #[W a, W b] (wanted_some (g := 58) (t := 95) (b := true) rfl rfl h95) (K10.out _) (fun _ => rfl) (by have hh := (And.intro h102 h104); go_simp)
    · intro w' hb' fr hout hin
      have h100 : fr.tmps.getD 100 undef = .int .i64 (cmpv a b) := hin 100 (by decide) (by decide)
      have h105 : fr.tmps.getD 105 undef = .int .i64 (cmpv a b) := hin 105 (by decide) (by decide)
      have h95 : fr.tmps.getD 95 undef = .bool true := hin 95 (by decide) (by decide)
      clear hout hin
      exact op_eqI (.tmp 100) (.tmp 105) _ rfl h100 h105 (wanted_some (g := 58) (t := 95) (b := true) rfl rfl h95) rfl
    · intro w' hb' fr hout hin
      have h95 : fr.tmps.getD 95 undef = .bool true := hin 95 (by decide) (by decide)
      have h106 : fr.tmps.getD 106 undef = .bool true := hin 106 (by decide) (by decide)
      clear hout hin
      exact relStep_pick (.tmp 95) (.tmp 106) (.const (.bool false)) rfl h95 (wanted_none rfl) (by show fr.tmps.getD 106 undef = _; rw [h106])
    · intro w' hb' fr hout hin
      have h107 : fr.tmps.getD 107 undef = .bool true := hin 107 (by decide) (by decide)
      clear hout hin
      exact relStep_move (.tmp 107) rfl (wanted_none rfl) (by show fr.tmps.getD 107 undef = _; rw [h107])
    · intro w' hb' fr hout hin
      have e2 : fr.tmps.getD 2 undef = .pointer (some ⟨w.heap.size, 0, none⟩) := hout 2 (by decide)
      have h108 : fr.tmps.getD 108 undef = .bool true := hin 108 (by decide) (by decide)
      clear hout hin
      exact op_field (.tmp 2) rfl (by omega) e2 (wanted_some (g := 71) (t := 108) (b := true) rfl rfl h108) rfl
    · intro w' hb' fr hout hin
      have h109 : fr.tmps.getD 109 undef = .pointer (some ⟨w.heap.size, 0, none⟩) := hin 109 (by decide) (by decide)
      have h108 : fr.tmps.getD 108 undef = .bool true := hin 108 (by decide) (by decide)
      clear hout hin
      exact op_load (n := a) (.tmp 109) rfl h109 (cells3a (hx.out.below hb' hx.out.lt)) (wanted_some (g := 71) (t := 108) (b := true) rfl rfl h108) rfl
    · intro w' hb' fr hout hin
      have e2 : fr.tmps.getD 2 undef = .pointer (some ⟨w.heap.size, 0, none⟩) := hout 2 (by decide)
      have h108 : fr.tmps.getD 108 undef = .bool true := hin 108 (by decide) (by decide)
      clear hout hin
      exact op_field (.tmp 2) rfl (by omega) e2 (wanted_some (g := 71) (t := 108) (b := true) rfl rfl h108) rfl
    · intro w' hb' fr hout hin
      have h111 : fr.tmps.getD 111 undef = .pointer (some ⟨w.heap.size, 4, none⟩) := hin 111 (by decide) (by decide)
      have h108 : fr.tmps.getD 108 undef = .bool true := hin 108 (by decide) (by decide)
      clear hout hin
      exact op_load (n := b) (.tmp 111) rfl h111 (cells3b (hx.out.below hb' hx.out.lt)) (wanted_some (g := 71) (t := 108) (b := true) rfl rfl h108) rfl
    · intro w' hb' fr hout hin
      have h110 : fr.tmps.getD 110 undef = W a := hin 110 (by decide) (by decide)
      have h112 : fr.tmps.getD 112 undef = W b := hin 112 (by decide) (by decide)
      have h108 : fr.tmps.getD 108 undef = .bool true := hin 108 (by decide) (by decide)
      clear hout hin
      exact relStep_callV 33 #[W a, W b] (wanted_some (g := 71) (t := 108) (b := true) rfl rfl h108) (K11.out _) (fun _ => rfl) (by have hh := (And.intro h110 h112); go_simp)
    · intro w' hb' fr hout hin
      have e2 : fr.tmps.getD 2 undef = .pointer (some ⟨w.heap.size, 0, none⟩) := hout 2 (by decide)
      have h108 : fr.tmps.getD 108 undef = .bool true := hin 108 (by decide) (by decide)
      clear hout hin
      exact op_field (.tmp 2) rfl (by omega) e2 (wanted_some (g := 71) (t := 108) (b := true) rfl rfl h108) rfl
    · intro w' hb' fr hout hin
      have h114 : fr.tmps.getD 114 undef = .pointer (some ⟨w.heap.size, 0, none⟩) := hin 114 (by decide) (by decide)
      have h108 : fr.tmps.getD 108 undef = .bool true := hin 108 (by decide) (by decide)
      clear hout hin
      exact op_load (n := a) (.tmp 114) rfl h114 (cells3a (hx.out.below hb' hx.out.lt)) (wanted_some (g := 71) (t := 108) (b := true) rfl rfl h108) rfl
    · intro w' hb' fr hout hin
      have e2 : fr.tmps.getD 2 undef = .pointer (some ⟨w.heap.size, 0, none⟩) := hout 2 (by decide)
      have h108 : fr.tmps.getD 108 undef = .bool true := hin 108 (by decide) (by decide)
      clear hout hin
      exact op_field (.tmp 2) rfl (by omega) e2 (wanted_some (g := 71) (t := 108) (b := true) rfl rfl h108) rfl
    · intro w' hb' fr hout hin
      have h116 : fr.tmps.getD 116 undef = .pointer (some ⟨w.heap.size, 4, none⟩) := hin 116 (by decide) (by decide)
      have h108 : fr.tmps.getD 108 undef = .bool true := hin 108 (by decide) (by decide)
      clear hout hin
      exact op_load (n := b) (.tmp 116) rfl h116 (cells3b (hx.out.below hb' hx.out.lt)) (wanted_some (g := 71) (t := 108) (b := true) rfl rfl h108) rfl
    · intro w' hb' fr hout hin
      have h115 : fr.tmps.getD 115 undef = W a := hin 115 (by decide) (by decide)
      have h117 : fr.tmps.getD 117 undef = W b := hin 117 (by decide) (by decide)
      have h108 : fr.tmps.getD 108 undef = .bool true := hin 108 (by decide) (by decide)
      clear hout hin
      exact relStep_callV 34 #[W a, W b] (wanted_some (g := 71) (t := 108) (b := true) rfl rfl h108) (K12.out _) (fun _ => rfl) (by have hh := (And.intro h115 h117); go_simp)
    · intro w' hb' fr hout hin
      have h113 : fr.tmps.getD 113 undef = .int .i64 (scmpv a b) := hin 113 (by decide) (by decide)
      have h118 : fr.tmps.getD 118 undef = .int .i64 (scmpv a b) := hin 118 (by decide) (by decide)
      have h108 : fr.tmps.getD 108 undef = .bool true := hin 108 (by decide) (by decide)
      clear hout hin
      exact op_eqI (.tmp 113) (.tmp 118) _ rfl h113 h118 (wanted_some (g := 71) (t := 108) (b := true) rfl rfl h108) rfl
    · intro w' hb' fr hout hin
      have h108 : fr.tmps.getD 108 undef = .bool true := hin 108 (by decide) (by decide)
      have h119 : fr.tmps.getD 119 undef = .bool true := hin 119 (by decide) (by decide)
      clear hout hin
      exact relStep_pick (.tmp 108) (.tmp 119) (.const (.bool false)) rfl h108 (wanted_none rfl) (by show fr.tmps.getD 119 undef = _; rw [h119])
    · intro w' hb' fr hout hin
      have h120 : fr.tmps.getD 120 undef = .bool true := hin 120 (by decide) (by decide)
      clear hout hin
      exact relStep_move (.tmp 120) rfl (wanted_none rfl) (by show fr.tmps.getD 120 undef = _; rw [h120])
    · intro w' hb' fr hout hin
      have e2 : fr.tmps.getD 2 undef = .pointer (some ⟨w.heap.size, 0, none⟩) := hout 2 (by decide)
      have h121 : fr.tmps.getD 121 undef = .bool true := hin 121 (by decide) (by decide)
      clear hout hin
      exact op_field (.tmp 2) rfl (by omega) e2 (wanted_some (g := 84) (t := 121) (b := true) rfl rfl h121) rfl
    · intro w' hb' fr hout hin
      have h122 : fr.tmps.getD 122 undef = .pointer (some ⟨w.heap.size, 0, none⟩) := hin 122 (by decide) (by decide)
      have h121 : fr.tmps.getD 121 undef = .bool true := hin 121 (by decide) (by decide)
      clear hout hin
      exact op_load (n := a) (.tmp 122) rfl h122 (cells3a (hx.out.below hb' hx.out.lt)) (wanted_some (g := 84) (t := 121) (b := true) rfl rfl h121) rfl
    · intro w' hb' fr hout hin
      have e2 : fr.tmps.getD 2 undef = .pointer (some ⟨w.heap.size, 0, none⟩) := hout 2 (by decide)
      have h121 : fr.tmps.getD 121 undef = .bool true := hin 121 (by decide) (by decide)
      clear hout hin
      exact op_field (.tmp 2) rfl (by omega) e2 (wanted_some (g := 84) (t := 121) (b := true) rfl rfl h121) rfl
    · intro w' hb' fr hout hin
      have h124 : fr.tmps.getD 124 undef = .pointer (some ⟨w.heap.size, 0, none⟩) := hin 124 (by decide) (by decide)
      have h121 : fr.tmps.getD 121 undef = .bool true := hin 121 (by decide) (by decide)
      clear hout hin
      exact op_load (n := a) (.tmp 124) rfl h124 (cells3a (hx.out.below hb' hx.out.lt)) (wanted_some (g := 84) (t := 121) (b := true) rfl rfl h121) rfl
    · intro w' hb' fr hout hin
      have h123 : fr.tmps.getD 123 undef = W a := hin 123 (by decide) (by decide)
      have h125 : fr.tmps.getD 125 undef = W a := hin 125 (by decide) (by decide)
      have h121 : fr.tmps.getD 121 undef = .bool true := hin 121 (by decide) (by decide)
      clear hout hin
      exact relStep_callV 31 #[W a, W a] (wanted_some (g := 84) (t := 121) (b := true) rfl rfl h121) (K13.out _) (fun _ => rfl) (by have hh := (And.intro h123 h125); go_simp)
    · intro w' hb' fr hout hin
      have h126 : fr.tmps.getD 126 undef = .int .i64 (cmpv a a) := hin 126 (by decide) (by decide)
      have h121 : fr.tmps.getD 121 undef = .bool true := hin 121 (by decide) (by decide)
      clear hout hin
      exact op_eqI (.tmp 126) (.const (.int .i64 0)) _ rfl ((fun h => c0 h (cmp_self a)) h126) rfl (wanted_some (g := 84) (t := 121) (b := true) rfl rfl h121) rfl
    · intro w' hb' fr hout hin
      have h121 : fr.tmps.getD 121 undef = .bool true := hin 121 (by decide) (by decide)
      have h127 : fr.tmps.getD 127 undef = .bool true := hin 127 (by decide) (by decide)
      clear hout hin
      exact relStep_pick (.tmp 121) (.tmp 127) (.const (.bool false)) rfl h121 (wanted_none rfl) (by show fr.tmps.getD 127 undef = _; rw [h127])
    · intro w' hb' fr hout hin
      have h128 : fr.tmps.getD 128 undef = .bool true := hin 128 (by decide) (by decide)
      clear hout hin
      exact relStep_move (.tmp 128) rfl (wanted_none rfl) (by show fr.tmps.getD 128 undef = _; rw [h128])
    · intro w' hb' fr hout hin
      have h129 : fr.tmps.getD 129 undef = .bool true := hin 129 (by decide) (by decide)
      clear hout hin
      exact relStep_callV 35 #[] (wanted_some (g := 92) (t := 129) (b := true) rfl rfl h129) (wakes_c _) (fun _ => rfl) (by go_simp)
    · intro w' hb' fr hout hin
      have h129 : fr.tmps.getD 129 undef = .bool true := hin 129 (by decide) (by decide)
      have h130 : fr.tmps.getD 130 undef = .bool true := hin 130 (by decide) (by decide)
      clear hout hin
      exact relStep_pick (.tmp 129) (.tmp 130) (.const (.bool false)) rfl h129 (wanted_none rfl) (by show fr.tmps.getD 130 undef = _; rw [h130])
    · intro w' hb' fr hout hin
      have h131 : fr.tmps.getD 131 undef = .bool true := hin 131 (by decide) (by decide)
      clear hout hin
      exact relStep_assign (.tmp 131) rfl (wanted_none rfl) (by show fr.tmps.getD 131 undef = _; rw [h131])
  · intro w' hb'
    refine relAsk_in (by rfl) ?_
    intro v37 h37
    obtain rfl : v37 = W nf := h37
    refine relAsk_in (by rfl) ?_
    intro v38 h38
    obtain rfl : v38 = W nf := h38
    refine relAsk_in (by rfl) ?_
    intro v39 h39
    obtain rfl : v39 = .bool true := h39
    refine relAsk_in (by rfl) ?_
    intro v40 h40
    obtain rfl : v40 = .bool true := h40
    refine relAsk_in (by rfl) ?_
    intro v41 h41
    obtain rfl : v41 = .bool tf := h41
    refine relAsk_in (by rfl) ?_
    intro v42 h42
    obtain rfl : v42 = .bool tf := h42
    refine relAsk_in (by rfl) ?_
    intro v43 h43
    obtain rfl : v43 = .bool true := h43
    refine relAsk_in (by rfl) ?_
    intro v44 h44
    obtain rfl : v44 = .bool true := h44
    refine relAsk_in (by rfl) ?_
    intro v45 h45
    obtain rfl : v45 = .bool true := h45
    refine relAsk_in (by rfl) ?_
    intro v46 h46
    obtain rfl : v46 = .int .u64 (sn : Nat) := h46
    refine relAsk_in (by rfl) ?_
    intro v47 h47
    obtain rfl : v47 = .int .u64 (sn : Nat) := h47
    refine relAsk_in (by rfl) ?_
    intro v48 h48
    obtain rfl : v48 = .bool true := h48
    refine relAsk_in (by rfl) ?_
    intro v49 h49
    obtain rfl : v49 = .bool true := h49
    refine relAsk_in (by rfl) ?_
    intro v50 h50
    obtain rfl : v50 = .bool true := h50
    refine relAsk_in (by rfl) ?_
    intro v51 h51
    obtain rfl : v51 = .bool st := h51
    refine relAsk_in (by rfl) ?_
    intro v52 h52
    obtain rfl : v52 = .bool st := h52
    refine relAsk_in (by rfl) ?_
    intro v53 h53
    obtain rfl : v53 = .bool true := h53
    refine relAsk_in (by rfl) ?_
    intro v54 h54
    obtain rfl : v54 = .bool true := h54
    refine relAsk_in (by rfl) ?_
    intro v55 h55
    obtain rfl : v55 = .bool true := h55
    refine relAsk_in (by rfl) ?_
    intro v56 h56
    obtain rfl : v56 = .pointer (some ⟨w.heap.size, 0, none⟩) := h56
    refine relAsk_in (by rfl) ?_
    intro v57 h57
    obtain rfl : v57 = W a := h57
    refine relAsk_in (by rfl) ?_
    intro v58 h58
    obtain rfl : v58 = BV (bytes32 a) := h58
    refine relAsk_in (by rfl) ?_
    intro v59 h59
    obtain rfl : v59 = .pointer (some ⟨w.heap.size, 0, none⟩) := h59
    refine relAsk_in (by rfl) ?_
    intro v60 h60
    obtain rfl : v60 = W a := h60
    refine relAsk_in (by rfl) ?_
    intro v61 h61
    obtain rfl : v61 = BV (bytes32 a) := h61
    refine relAsk_in (by rfl) ?_
    intro v62 h62
    obtain rfl : v62 = .bool true := h62
    refine relAsk_in (by rfl) ?_
    intro v63 h63
    obtain rfl : v63 = .bool true := h63
    refine relAsk_in (by rfl) ?_
    intro v64 h64
    obtain rfl : v64 = .bool true := h64
    refine relAsk_in (by rfl) ?_
    intro v65 h65
    obtain rfl : v65 = .pointer (some ⟨w.heap.size, 0, none⟩) := h65
    refine relAsk_in (by rfl) ?_
    intro v66 h66
    obtain rfl : v66 = W a := h66
    refine relAsk_in (by rfl) ?_
    intro v67 h67
    refine relAsk_in (by rfl) ?_
    intro v68 h68
    obtain rfl : v68 = .string (sOf (shortv a)) := h68
    refine relAsk_in (by rfl) ?_
    intro v69 h69
    obtain rfl : v69 = .pointer (some ⟨w.heap.size, 0, none⟩) := h69
    refine relAsk_in (by rfl) ?_
    intro v70 h70
    obtain rfl : v70 = W a := h70
    refine relAsk_in (by rfl) ?_
    intro v71 h71
    refine relAsk_in (by rfl) ?_
    intro v72 h72
    obtain rfl : v72 = .string (sOf (shortv a)) := h72
    refine relAsk_in (by rfl) ?_
    intro v73 h73
    obtain rfl : v73 = .bool true := h73
    refine relAsk_in (by rfl) ?_
    intro v74 h74
    obtain rfl : v74 = .bool true := h74
    refine relAsk_in (by rfl) ?_
    intro v75 h75
    obtain rfl : v75 = .bool true := h75
    refine relAsk_in (by rfl) ?_
    intro v76 h76
    obtain rfl : v76 = .pointer (some ⟨w.heap.size, 0, none⟩) := h76
    refine relAsk_in (by rfl) ?_
    intro v77 h77
    obtain rfl : v77 = W a := h77
    refine relAsk_in (by rfl) ?_
    intro v78 h78
    obtain rfl : v78 = .int .i64 (blen a : Nat) := h78
    refine relAsk_in (by rfl) ?_
    intro v79 h79
    obtain rfl : v79 = .pointer (some ⟨w.heap.size, 0, none⟩) := h79
    refine relAsk_in (by rfl) ?_
    intro v80 h80
    obtain rfl : v80 = W a := h80
    refine relAsk_in (by rfl) ?_
    intro v81 h81
    obtain rfl : v81 = .int .i64 (blen a : Nat) := h81
    refine relAsk_in (by rfl) ?_
    intro v82 h82
    obtain rfl : v82 = .bool true := h82
    refine relAsk_in (by rfl) ?_
    intro v83 h83
    obtain rfl : v83 = .bool true := h83
    refine relAsk_in (by rfl) ?_
    intro v84 h84
    obtain rfl : v84 = .bool true := h84
    refine relAsk_in (by rfl) ?_
    intro v85 h85
    obtain rfl : v85 = .pointer (some ⟨w.heap.size, 0, none⟩) := h85
    refine relAsk_in (by rfl) ?_
    intro v86 h86
    obtain rfl : v86 = .pointer (some ⟨w.heap.size, 0, none⟩) := h86
    refine relAsk_in (by rfl) ?_
    intro v87 h87
    obtain rfl : v87 = .int .u64 (lim 0 a : Nat) := h87
    refine relAsk_in (by rfl) ?_
    intro v88 h88
    obtain rfl : v88 = W (lim 0 a) := h88
    refine relAsk_in (by rfl) ?_
    intro v89 h89
    obtain rfl : v89 = .pointer (some ⟨w.heap.size, 0, none⟩) := h89
    refine relAsk_in (by rfl) ?_
    intro v90 h90
    obtain rfl : v90 = .pointer (some ⟨w.heap.size, 0, none⟩) := h90
    refine relAsk_in (by rfl) ?_
    intro v91 h91
    obtain rfl : v91 = .int .u64 (lim 0 a : Nat) := h91
    refine relAsk_in (by rfl) ?_
    intro v92 h92
    obtain rfl : v92 = W (lim 0 a) := h92
    refine relAsk_in (by rfl) ?_
    intro v93 h93
    obtain rfl : v93 = .bool true := h93
    refine relAsk_in (by rfl) ?_
    intro v94 h94
    obtain rfl : v94 = .bool true := h94
    refine relAsk_in (by rfl) ?_
    intro v95 h95
    obtain rfl : v95 = .bool true := h95
    refine relAsk_in (by rfl) ?_
    intro v96 h96
    obtain rfl : v96 = .pointer (some ⟨w.heap.size, 0, none⟩) := h96
    refine relAsk_in (by rfl) ?_
    intro v97 h97
    obtain rfl : v97 = W a := h97
    refine relAsk_in (by rfl) ?_
    intro v98 h98
    obtain rfl : v98 = .pointer (some ⟨w.heap.size, 4, none⟩) := h98
    refine relAsk_in (by rfl) ?_
    intro v99 h99
    obtain rfl : v99 = W b := h99
    refine relAsk_in (by rfl) ?_
    intro v100 h100
    obtain rfl : v100 = .int .i64 (cmpv a b) := h100
    refine relAsk_in (by rfl) ?_
    intro v101 h101
    obtain rfl : v101 = .pointer (some ⟨w.heap.size, 0, none⟩) := h101
    refine relAsk_in (by rfl) ?_
    intro v102 h102
    obtain rfl : v102 = W a := h102
    refine relAsk_in (by rfl) ?_
    intro v103 h103
    obtain rfl : v103 = .pointer (some ⟨w.heap.size, 4, none⟩) := h103
    refine relAsk_in (by rfl) ?_
    intro v104 h104
    obtain rfl : v104 = W b := h104
    refine relAsk_in (by rfl) ?_
    intro v105 h105
    obtain rfl : v105 = .int .i64 (cmpv a b) := h105
    refine relAsk_in (by rfl) ?_
    intro v106 h106
    obtain rfl : v106 = .bool true := h106
    refine relAsk_in (by rfl) ?_
    intro v107 h107
    obtain rfl : v107 = .bool true := h107
    refine relAsk_in (by rfl) ?_
    intro v108 h108
    obtain rfl : v108 = .bool true := h108
    refine relAsk_in (by rfl) ?_
    intro v109 h109
    obtain rfl : v109 = .pointer (some ⟨w.heap.size, 0, none⟩) := h109
    refine relAsk_in (by rfl) ?_
    intro v110 h110
    obtain rfl : v110 = W a := h110
    refine relAsk_in (by rfl) ?_
    intro v111 h111
    obtain rfl : v111 = .pointer (some ⟨w.heap.size, 4, none⟩) := h111
    refine relAsk_in (by rfl) ?_
    intro v112 h112
    obtain rfl : v112 = W b := h112
    refine relAsk_in (by rfl) ?_
    intro v113 h113
    obtain rfl : v113 = .int .i64 (scmpv a b) := h113
    refine relAsk_in (by rfl) ?_
    intro v114 h114
    obtain rfl : v114 = .pointer (some ⟨w.heap.size, 0, none⟩) := h114
    refine relAsk_in (by rfl) ?_
    intro v115 h115
    obtain rfl : v115 = W a := h115
    refine relAsk_in (by rfl) ?_
    intro v116 h116
    obtain rfl : v116 = .pointer (some ⟨w.heap.size, 4, none⟩) := h116
    refine relAsk_in (by rfl) ?_
    intro v117 h117
    obtain rfl : v117 = W b := h117
    refine relAsk_in (by rfl) ?_
    intro v118 h118
    obtain rfl : v118 = .int .i64 (scmpv a b) := h118
    refine relAsk_in (by rfl) ?_
    intro v119 h119
    obtain rfl : v119 = .bool true := h119
    refine relAsk_in (by rfl) ?_
    intro v120 h120
    obtain rfl : v120 = .bool true := h120
    refine relAsk_in (by rfl) ?_
    intro v121 h121
    obtain rfl : v121 = .bool true := h121
    refine relAsk_in (by rfl) ?_
    intro v122 h122
    obtain rfl : v122 = .pointer (some ⟨w.heap.size, 0, none⟩) := h122
    refine relAsk_in (by rfl) ?_
    intro v123 h123
    obtain rfl : v123 = W a := h123
    refine relAsk_in (by rfl) ?_
    intro v124 h124
    obtain rfl : v124 = .pointer (some ⟨w.heap.size, 0, none⟩) := h124
    refine relAsk_in (by rfl) ?_
    intro v125 h125
    obtain rfl : v125 = W a := h125
    refine relAsk_in (by rfl) ?_
    intro v126 h126
    obtain rfl : v126 = .int .i64 (cmpv a a) := h126
    refine relAsk_in (by rfl) ?_
    intro v127 h127
    obtain rfl : v127 = .bool true := h127
    refine relAsk_in (by rfl) ?_
    intro v128 h128
    obtain rfl : v128 = .bool true := h128
    refine relAsk_in (by rfl) ?_
    intro v129 h129
    obtain rfl : v129 = .bool true := h129
    refine relAsk_in (by rfl) ?_
    intro v130 h130
    obtain rfl : v130 = .bool true := h130
    refine relAsk_in (by rfl) ?_
    intro v131 h131
    obtain rfl : v131 = .bool true := h131
    refine relAsk_in (by rfl) ?_
    intro v4 h4
    obtain rfl : v4 = .bool true := h4
    refine relAsk_nil ?_
    refine wpList_nil ?_
    go_simp
    go_wp2_with fail
    go_ret
    exact ⟨rfl, gW.out.trans (hb'.mono gW.out.size)⟩
end Go.Proofs.Ytihffojljbgpcaa
