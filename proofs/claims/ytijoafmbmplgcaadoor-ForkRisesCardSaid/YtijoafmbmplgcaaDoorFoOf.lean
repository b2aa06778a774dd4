/- Package fork: Of, which tells a fork's numbers. (Written by wip/genfoof.py.) -/
import Derived.Test.YtijoafmbmplgcaaDoorFoOf1
import Derived.Test.YtijoafmbmplgcaaDoorFkOfNo
namespace Go.Proofs.YtijoafmbmplgcaaDoor
open Go.RowKit

theorem fobuilt (f k0 k1 k2 k3 k4 k5 k6 k7 k8 k9 k10 k11 k12 k13 k14 k15 k16 k17 k18 k19 k20 k21 k22 : Int) : Tryd.prog.built 41 [(0, .int .i64 f), (1, .int .u64 21000), (2, .int .u64 k0), (3, .int .u64 4), (4, .int .u64 k1), (5, .int .u64 k2), (6, .int .u64 k3), (7, .int .u64 k4), (8, .int .i64 k5), (9, .int .i64 k6), (10, .int .u64 k7), (11, .int .u64 k8), (12, .int .u64 k9), (13, .int .u64 k10), (14, .int .u64 k11), (15, .int .u64 k12), (16, .int .u64 k13), (17, .int .u64 k14), (18, .int .u64 k15), (19, .int .u64 k16), (20, .int .u64 k17), (21, .int .u64 k18), (22, .int .u64 k19), (23, .int .u64 k20), (24, .int .u64 k21), (25, .int .u64 k22)] = some #[.int .i64 f, .int .u64 21000, .int .u64 k0, .int .u64 4, .int .u64 k1, .int .u64 k2, .int .u64 k3, .int .u64 k4, .int .i64 k5, .int .i64 k6, .int .u64 k7, .int .u64 k8, .int .u64 k9, .int .u64 k10, .int .u64 k11, .int .u64 k12, .int .u64 k13, .int .u64 k14, .int .u64 k15, .int .u64 k16, .int .u64 k17, .int .u64 k18, .int .u64 k19, .int .u64 k20, .int .u64 k21, .int .u64 k22] := by kernel_rfl

set_option maxRecDepth 100000 in
set_option maxHeartbeats 12800000 in
theorem foof_c (f : Int) (w : World) (h0 : 0 ≤ f) (h1 : f ≤ 15) : Calls Tryd.prog 14 #[.int .i64 f] w (RetV (.tuple #[RulesV f, .int .i64 0]) w) := by
  have HG0 : Hid (∃ cs, cs.size = 26 ∧ (w.alloc (.cells #[.int .i64 0, .int .u64 0, .int .u64 0, .int .u64 0, .int .u64 0, .int .u64 0, .int .u64 0, .int .u64 0, .int .i64 0, .int .i64 0, .int .u64 0, .int .u64 0, .int .u64 0, .int .u64 0, .int .u64 0, .int .u64 0, .int .u64 0, .int .u64 0, .int .u64 0, .int .u64 0, .int .u64 0, .int .u64 0, .int .u64 0, .int .u64 0, .int .u64 0, .int .u64 0] 41)).heap[w.heap.size]? = some (.cells cs 41 (0, 0))) := ⟨_, rfl, heap_alloc_new w _⟩
  have HL0 : Hid (Below w.heap.size w (w.alloc (.cells #[.int .i64 0, .int .u64 0, .int .u64 0, .int .u64 0, .int .u64 0, .int .u64 0, .int .u64 0, .int .u64 0, .int .i64 0, .int .i64 0, .int .u64 0, .int .u64 0, .int .u64 0, .int .u64 0, .int .u64 0, .int .u64 0, .int .u64 0, .int .u64 0, .int .u64 0, .int .u64 0, .int .u64 0, .int .u64 0, .int .u64 0, .int .u64 0, .int .u64 0, .int .u64 0] 41)) ∧ w.heap.size < (w.alloc (.cells #[.int .i64 0, .int .u64 0, .int .u64 0, .int .u64 0, .int .u64 0, .int .u64 0, .int .u64 0, .int .u64 0, .int .i64 0, .int .i64 0, .int .u64 0, .int .u64 0, .int .u64 0, .int .u64 0, .int .u64 0, .int .u64 0, .int .u64 0, .int .u64 0, .int .u64 0, .int .u64 0, .int .u64 0, .int .u64 0, .int .u64 0, .int .u64 0, .int .u64 0, .int .u64 0] 41)).heap.size) := ⟨(Below.refl _ _).alloc (Nat.le_refl _) _, by simp⟩
  have hv := small_49152 f
  have hw := small_24576 f
  have CF : Hid (∀ w, Calls Tryd.prog 28 #[.int .i64 f] w fun e w' => e = .returned (.bool true) ∧ w' = w) := fun w => by
    have h := isFork_c f w
    rw [decide_eq_true ⟨h0, h1⟩] at h
    exact h
  clear h0 h1
  obtain ⟨k0, hk0⟩ : ∃ k, k = fromZ f 0 [(1, 32000)] := ⟨_, rfl⟩
  have HK0 := Lib.hid hk0
  clear hk0
  obtain ⟨k1, hk1⟩ : ∃ k, k = fromZ f 68 [(7, 16)] := ⟨_, rfl⟩
  have HK1 := Lib.hid hk1
  clear hk1
  obtain ⟨k2, hk2⟩ : ∃ k, k = fromZ f 0 [(9, 2400)] := ⟨_, rfl⟩
  have HK2 := Lib.hid hk2
  clear hk2
  obtain ⟨k3, hk3⟩ : ∃ k, k = fromZ f 0 [(9, 1900)] := ⟨_, rfl⟩
  have HK3 := Lib.hid hk3
  clear hk3
  obtain ⟨k4, hk4⟩ : ∃ k, k = fromZ f 0 [(14, 2)] := ⟨_, rfl⟩
  have HK4 := Lib.hid hk4
  clear hk4
  obtain ⟨k5, hk5⟩ : ∃ k, k = fromZ f 0 [(14, 49152)] := ⟨_, rfl⟩
  rw [← hk5] at hv
  have v5 : IntKind.i64.wrap k5 = k5 := IntWalk.i64_in _ (by omega)
  clear hv
  have HK5 := Lib.hid hk5
  clear hk5
  obtain ⟨k6, hk6⟩ : ∃ k, k = fromZ f 0 [(3, 24576)] := ⟨_, rfl⟩
  rw [← hk6] at hw
  have v6 : IntKind.i64.wrap k6 = k6 := IntWalk.i64_in _ (by omega)
  clear hw
  have HK6 := Lib.hid hk6
  clear hk6
  obtain ⟨k7, hk7⟩ : ∃ k, k = fromZ f 20 [(2, 400), (7, 700), (9, 0)] := ⟨_, rfl⟩
  have HK7 := Lib.hid hk7
  clear hk7
  obtain ⟨k8, hk8⟩ : ∃ k, k = fromZ f 20 [(2, 700), (9, 0)] := ⟨_, rfl⟩
  have HK8 := Lib.hid hk8
  clear hk8
  obtain ⟨k9, hk9⟩ : ∃ k, k = fromZ f 0 [(5, 400), (7, 700), (9, 0)] := ⟨_, rfl⟩
  have HK9 := Lib.hid hk9
  clear hk9
  obtain ⟨k10, hk10⟩ : ∃ k, k = fromZ f 50 [(2, 200), (7, 800), (9, 0)] := ⟨_, rfl⟩
  have HK10 := Lib.hid hk10
  clear hk10
  obtain ⟨k11, hk11⟩ : ∃ k, k = fromZ f 40 [(2, 700), (9, 0)] := ⟨_, rfl⟩
  have HK11 := Lib.hid hk11
  clear hk11
  obtain ⟨k12, hk12⟩ : ∃ k, k = fromZ f 0 [(9, 2600)] := ⟨_, rfl⟩
  have HK12 := Lib.hid hk12
  clear hk12
  obtain ⟨k13, hk13⟩ : ∃ k, k = fromZ f 0 [(9, 2100)] := ⟨_, rfl⟩
  have HK13 := Lib.hid hk13
  clear hk13
  obtain ⟨k14, hk14⟩ : ∃ k, k = fromZ f 0 [(9, 100)] := ⟨_, rfl⟩
  have HK14 := Lib.hid hk14
  clear hk14
  obtain ⟨k15, hk15⟩ : ∃ k, k = fromZ f 0 [(2, 5000)] := ⟨_, rfl⟩
  have HK15 := Lib.hid hk15
  clear hk15
  obtain ⟨k16, hk16⟩ : ∃ k, k = fromZ f 0 [(2, 25000)] := ⟨_, rfl⟩
  have HK16 := Lib.hid hk16
  clear hk16
  obtain ⟨k17, hk17⟩ : ∃ k, k = fromZ f 24000 [(10, 0)] := ⟨_, rfl⟩
  have HK17 := Lib.hid hk17
  clear hk17
  obtain ⟨k18, hk18⟩ : ∃ k, k = fromZ f 10 [(3, 50)] := ⟨_, rfl⟩
  have HK18 := Lib.hid hk18
  clear hk18
  obtain ⟨k19, hk19⟩ : ∃ k, k = fromZ f 15000 [(10, 4800)] := ⟨_, rfl⟩
  have HK19 := Lib.hid hk19
  clear hk19
  obtain ⟨k20, hk20⟩ : ∃ k, k = fromZ f 2 [(10, 5)] := ⟨_, rfl⟩
  have HK20 := Lib.hid hk20
  clear hk20
  obtain ⟨k21, hk21⟩ : ∃ k, k = fromZ f 5000000000000000000 [(4, 3000000000000000000), (5, 2000000000000000000), (13, 0)] := ⟨_, rfl⟩
  have HK21 := Lib.hid hk21
  clear hk21
  obtain ⟨k22, hk22⟩ : ∃ k, k = fromZ f 0 [(4, 3000000), (5, 5000000), (8, 9000000), (10, 9700000), (11, 10700000), (12, 11400000), (13, 0)] := ⟨_, rfl⟩
  have HK22 := Lib.hid hk22
  clear hk22
  go_enter Tryd.func14, Tryd.ntmps14
  go_wp2_with fail
  (with_reducible refine (CF.out _).mono ?_)
  rintro e w1 ⟨rfl, hw1⟩
  clear CF
  obtain ⟨W0, hW0⟩ : ∃ W0, W0 = w.alloc (.cells #[.int .i64 0, .int .u64 0, .int .u64 0, .int .u64 0, .int .u64 0, .int .u64 0, .int .u64 0, .int .u64 0, .int .i64 0, .int .i64 0, .int .u64 0, .int .u64 0, .int .u64 0, .int .u64 0, .int .u64 0, .int .u64 0, .int .u64 0, .int .u64 0, .int .u64 0, .int .u64 0, .int .u64 0, .int .u64 0, .int .u64 0, .int .u64 0, .int .u64 0, .int .u64 0] 41) := ⟨_, rfl⟩
  rw [← hW0] at HG0 HL0 hw1
  rw [hw1]
  clear hw1 hW0 w1
  have hp := since_new W0 66 [(1, 32000)] #[.int .i64 1, .int .u64 32000] rfl
  have C := Lib.hid (told_n f 0 [(1, 32000)] 1 _ _ hp rfl (by omega))
  rw [← HK0.out] at C
  have hB := (Below.refl W0.heap.size W0).alloc (Nat.le_refl _) (.cells #[.int .i64 1, .int .u64 32000] 66)
  have HB := Lib.hid hB
  clear hp hB
  go_wp2_with fail
  (with_reducible refine C.out.mono ?_)
  rintro e W1 ⟨rfl, hb1⟩
  have hb2 := HB.out.trans (hb1.mono HB.out.size)
  have HG1 : Hid (∃ cs, cs.size = 26 ∧ W1.heap[w.heap.size]? = some (.cells cs 41 (0, 0))) := by
    obtain ⟨cs, h1, h2⟩ := HG0.out
    exact ⟨cs, h1, by rw [hb2.block _ HL0.out.2]; exact h2⟩
  have HL1 : Hid (Below w.heap.size w W1 ∧ w.heap.size < W1.heap.size) := ⟨HL0.out.1.trans (hb2.mono HL0.out.1.size), Nat.lt_of_lt_of_le HL0.out.2 hb2.size⟩
  clear C HB hb1 hb2 HG0 HL0
  have hp := since_new W1 66 [(7, 16)] #[.int .i64 7, .int .u64 16] rfl
  have C := Lib.hid (told_n f 68 [(7, 16)] 1 _ _ hp rfl (by omega))
  rw [← HK1.out] at C
  have hB := (Below.refl W1.heap.size W1).alloc (Nat.le_refl _) (.cells #[.int .i64 7, .int .u64 16] 66)
  have HB := Lib.hid hB
  clear hp hB
  go_wp2_with fail
  (with_reducible refine C.out.mono ?_)
  rintro e W2 ⟨rfl, hb1⟩
  have hb2 := HB.out.trans (hb1.mono HB.out.size)
  have HG2 : Hid (∃ cs, cs.size = 26 ∧ W2.heap[w.heap.size]? = some (.cells cs 41 (0, 0))) := by
    obtain ⟨cs, h1, h2⟩ := HG1.out
    exact ⟨cs, h1, by rw [hb2.block _ HL1.out.2]; exact h2⟩
  have HL2 : Hid (Below w.heap.size w W2 ∧ w.heap.size < W2.heap.size) := ⟨HL1.out.1.trans (hb2.mono HL1.out.1.size), Nat.lt_of_lt_of_le HL1.out.2 hb2.size⟩
  clear C HB hb1 hb2 HG1 HL1
  have hp := since_new W2 66 [(9, 2400)] #[.int .i64 9, .int .u64 2400] rfl
  have C := Lib.hid (told_n f 0 [(9, 2400)] 1 _ _ hp rfl (by omega))
  rw [← HK2.out] at C
  have hB := (Below.refl W2.heap.size W2).alloc (Nat.le_refl _) (.cells #[.int .i64 9, .int .u64 2400] 66)
  have HB := Lib.hid hB
  clear hp hB
  go_wp2_with fail
  (with_reducible refine C.out.mono ?_)
  rintro e W3 ⟨rfl, hb1⟩
  have hb2 := HB.out.trans (hb1.mono HB.out.size)
  have HG3 : Hid (∃ cs, cs.size = 26 ∧ W3.heap[w.heap.size]? = some (.cells cs 41 (0, 0))) := by
    obtain ⟨cs, h1, h2⟩ := HG2.out
    exact ⟨cs, h1, by rw [hb2.block _ HL2.out.2]; exact h2⟩
  have HL3 : Hid (Below w.heap.size w W3 ∧ w.heap.size < W3.heap.size) := ⟨HL2.out.1.trans (hb2.mono HL2.out.1.size), Nat.lt_of_lt_of_le HL2.out.2 hb2.size⟩
  clear C HB hb1 hb2 HG2 HL2
  have hp := since_new W3 66 [(9, 1900)] #[.int .i64 9, .int .u64 1900] rfl
  have C := Lib.hid (told_n f 0 [(9, 1900)] 1 _ _ hp rfl (by omega))
  rw [← HK3.out] at C
  have hB := (Below.refl W3.heap.size W3).alloc (Nat.le_refl _) (.cells #[.int .i64 9, .int .u64 1900] 66)
  have HB := Lib.hid hB
  clear hp hB
  go_wp2_with fail
  (with_reducible refine C.out.mono ?_)
  rintro e W4 ⟨rfl, hb1⟩
  have hb2 := HB.out.trans (hb1.mono HB.out.size)
  have HG4 : Hid (∃ cs, cs.size = 26 ∧ W4.heap[w.heap.size]? = some (.cells cs 41 (0, 0))) := by
    obtain ⟨cs, h1, h2⟩ := HG3.out
    exact ⟨cs, h1, by rw [hb2.block _ HL3.out.2]; exact h2⟩
  have HL4 : Hid (Below w.heap.size w W4 ∧ w.heap.size < W4.heap.size) := ⟨HL3.out.1.trans (hb2.mono HL3.out.1.size), Nat.lt_of_lt_of_le HL3.out.2 hb2.size⟩
  clear C HB hb1 hb2 HG3 HL3
  have hp := since_new W4 66 [(14, 2)] #[.int .i64 14, .int .u64 2] rfl
  have C := Lib.hid (told_n f 0 [(14, 2)] 1 _ _ hp rfl (by omega))
  rw [← HK4.out] at C
  have hB := (Below.refl W4.heap.size W4).alloc (Nat.le_refl _) (.cells #[.int .i64 14, .int .u64 2] 66)
  have HB := Lib.hid hB
  clear hp hB
  go_wp2_with fail
  (with_reducible refine C.out.mono ?_)
  rintro e W5 ⟨rfl, hb1⟩
  have hb2 := HB.out.trans (hb1.mono HB.out.size)
  have HG5 : Hid (∃ cs, cs.size = 26 ∧ W5.heap[w.heap.size]? = some (.cells cs 41 (0, 0))) := by
    obtain ⟨cs, h1, h2⟩ := HG4.out
    exact ⟨cs, h1, by rw [hb2.block _ HL4.out.2]; exact h2⟩
  have HL5 : Hid (Below w.heap.size w W5 ∧ w.heap.size < W5.heap.size) := ⟨HL4.out.1.trans (hb2.mono HL4.out.1.size), Nat.lt_of_lt_of_le HL4.out.2 hb2.size⟩
  clear C HB hb1 hb2 HG4 HL4
  have hp := since_new W5 66 [(14, 49152)] #[.int .i64 14, .int .u64 49152] rfl
  have C := Lib.hid (told_n f 0 [(14, 49152)] 1 _ _ hp rfl (by omega))
  rw [← HK5.out] at C
  have hB := (Below.refl W5.heap.size W5).alloc (Nat.le_refl _) (.cells #[.int .i64 14, .int .u64 49152] 66)
  have HB := Lib.hid hB
  clear hp hB
  go_wp2_with fail
  (with_reducible refine C.out.mono ?_)
  rintro e W6 ⟨rfl, hb1⟩
  have hb2 := HB.out.trans (hb1.mono HB.out.size)
  have HG6 : Hid (∃ cs, cs.size = 26 ∧ W6.heap[w.heap.size]? = some (.cells cs 41 (0, 0))) := by
    obtain ⟨cs, h1, h2⟩ := HG5.out
    exact ⟨cs, h1, by rw [hb2.block _ HL5.out.2]; exact h2⟩
  have HL6 : Hid (Below w.heap.size w W6 ∧ w.heap.size < W6.heap.size) := ⟨HL5.out.1.trans (hb2.mono HL5.out.1.size), Nat.lt_of_lt_of_le HL5.out.2 hb2.size⟩
  clear C HB hb1 hb2 HG5 HL5
  have hp := since_new W6 66 [(3, 24576)] #[.int .i64 3, .int .u64 24576] rfl
  have C := Lib.hid (told_n f 0 [(3, 24576)] 1 _ _ hp rfl (by omega))
  rw [← HK6.out] at C
  have hB := (Below.refl W6.heap.size W6).alloc (Nat.le_refl _) (.cells #[.int .i64 3, .int .u64 24576] 66)
  have HB := Lib.hid hB
  clear hp hB
  go_wp2_with fail
  (with_reducible refine C.out.mono ?_)
  rintro e W7 ⟨rfl, hb1⟩
  have hb2 := HB.out.trans (hb1.mono HB.out.size)
  have HG7 : Hid (∃ cs, cs.size = 26 ∧ W7.heap[w.heap.size]? = some (.cells cs 41 (0, 0))) := by
    obtain ⟨cs, h1, h2⟩ := HG6.out
    exact ⟨cs, h1, by rw [hb2.block _ HL6.out.2]; exact h2⟩
  have HL7 : Hid (Below w.heap.size w W7 ∧ w.heap.size < W7.heap.size) := ⟨HL6.out.1.trans (hb2.mono HL6.out.1.size), Nat.lt_of_lt_of_le HL6.out.2 hb2.size⟩
  clear C HB hb1 hb2 HG6 HL6
  have hp := since_new W7 66 [(2, 400), (7, 700), (9, 0)] #[.int .i64 2, .int .u64 400, .int .i64 7, .int .u64 700, .int .i64 9, .int .u64 0] rfl
  have C := Lib.hid (told_n f 20 [(2, 400), (7, 700), (9, 0)] 3 _ _ hp rfl (by omega))
  rw [← HK7.out] at C
  have hB := (Below.refl W7.heap.size W7).alloc (Nat.le_refl _) (.cells #[.int .i64 2, .int .u64 400, .int .i64 7, .int .u64 700, .int .i64 9, .int .u64 0] 66)
  have HB := Lib.hid hB
  clear hp hB
  go_wp2_with fail
  (with_reducible refine C.out.mono ?_)
  rintro e W8 ⟨rfl, hb1⟩
  have hb2 := HB.out.trans (hb1.mono HB.out.size)
  have HG8 : Hid (∃ cs, cs.size = 26 ∧ W8.heap[w.heap.size]? = some (.cells cs 41 (0, 0))) := by
    obtain ⟨cs, h1, h2⟩ := HG7.out
    exact ⟨cs, h1, by rw [hb2.block _ HL7.out.2]; exact h2⟩
  have HL8 : Hid (Below w.heap.size w W8 ∧ w.heap.size < W8.heap.size) := ⟨HL7.out.1.trans (hb2.mono HL7.out.1.size), Nat.lt_of_lt_of_le HL7.out.2 hb2.size⟩
  clear C HB hb1 hb2 HG7 HL7
  have hp := since_new W8 66 [(2, 700), (9, 0)] #[.int .i64 2, .int .u64 700, .int .i64 9, .int .u64 0] rfl
  have C := Lib.hid (told_n f 20 [(2, 700), (9, 0)] 2 _ _ hp rfl (by omega))
  rw [← HK8.out] at C
  have hB := (Below.refl W8.heap.size W8).alloc (Nat.le_refl _) (.cells #[.int .i64 2, .int .u64 700, .int .i64 9, .int .u64 0] 66)
  have HB := Lib.hid hB
  clear hp hB
  go_wp2_with fail
  (with_reducible refine C.out.mono ?_)
  rintro e W9 ⟨rfl, hb1⟩
  have hb2 := HB.out.trans (hb1.mono HB.out.size)
  have HG9 : Hid (∃ cs, cs.size = 26 ∧ W9.heap[w.heap.size]? = some (.cells cs 41 (0, 0))) := by
    obtain ⟨cs, h1, h2⟩ := HG8.out
    exact ⟨cs, h1, by rw [hb2.block _ HL8.out.2]; exact h2⟩
  have HL9 : Hid (Below w.heap.size w W9 ∧ w.heap.size < W9.heap.size) := ⟨HL8.out.1.trans (hb2.mono HL8.out.1.size), Nat.lt_of_lt_of_le HL8.out.2 hb2.size⟩
  clear C HB hb1 hb2 HG8 HL8
  have hp := since_new W9 66 [(5, 400), (7, 700), (9, 0)] #[.int .i64 5, .int .u64 400, .int .i64 7, .int .u64 700, .int .i64 9, .int .u64 0] rfl
  have C := Lib.hid (told_n f 0 [(5, 400), (7, 700), (9, 0)] 3 _ _ hp rfl (by omega))
  rw [← HK9.out] at C
  have hB := (Below.refl W9.heap.size W9).alloc (Nat.le_refl _) (.cells #[.int .i64 5, .int .u64 400, .int .i64 7, .int .u64 700, .int .i64 9, .int .u64 0] 66)
  have HB := Lib.hid hB
  clear hp hB
  go_wp2_with fail
  (with_reducible refine C.out.mono ?_)
  rintro e W10 ⟨rfl, hb1⟩
  have hb2 := HB.out.trans (hb1.mono HB.out.size)
  have HG10 : Hid (∃ cs, cs.size = 26 ∧ W10.heap[w.heap.size]? = some (.cells cs 41 (0, 0))) := by
    obtain ⟨cs, h1, h2⟩ := HG9.out
    exact ⟨cs, h1, by rw [hb2.block _ HL9.out.2]; exact h2⟩
  have HL10 : Hid (Below w.heap.size w W10 ∧ w.heap.size < W10.heap.size) := ⟨HL9.out.1.trans (hb2.mono HL9.out.1.size), Nat.lt_of_lt_of_le HL9.out.2 hb2.size⟩
  clear C HB hb1 hb2 HG9 HL9
  have hp := since_new W10 66 [(2, 200), (7, 800), (9, 0)] #[.int .i64 2, .int .u64 200, .int .i64 7, .int .u64 800, .int .i64 9, .int .u64 0] rfl
  have C := Lib.hid (told_n f 50 [(2, 200), (7, 800), (9, 0)] 3 _ _ hp rfl (by omega))
  rw [← HK10.out] at C
  have hB := (Below.refl W10.heap.size W10).alloc (Nat.le_refl _) (.cells #[.int .i64 2, .int .u64 200, .int .i64 7, .int .u64 800, .int .i64 9, .int .u64 0] 66)
  have HB := Lib.hid hB
  clear hp hB
  go_wp2_with fail
  (with_reducible refine C.out.mono ?_)
  rintro e W11 ⟨rfl, hb1⟩
  have hb2 := HB.out.trans (hb1.mono HB.out.size)
  have HG11 : Hid (∃ cs, cs.size = 26 ∧ W11.heap[w.heap.size]? = some (.cells cs 41 (0, 0))) := by
    obtain ⟨cs, h1, h2⟩ := HG10.out
    exact ⟨cs, h1, by rw [hb2.block _ HL10.out.2]; exact h2⟩
  have HL11 : Hid (Below w.heap.size w W11 ∧ w.heap.size < W11.heap.size) := ⟨HL10.out.1.trans (hb2.mono HL10.out.1.size), Nat.lt_of_lt_of_le HL10.out.2 hb2.size⟩
  clear C HB hb1 hb2 HG10 HL10
  have hp := since_new W11 66 [(2, 700), (9, 0)] #[.int .i64 2, .int .u64 700, .int .i64 9, .int .u64 0] rfl
  have C := Lib.hid (told_n f 40 [(2, 700), (9, 0)] 2 _ _ hp rfl (by omega))
  rw [← HK11.out] at C
  have hB := (Below.refl W11.heap.size W11).alloc (Nat.le_refl _) (.cells #[.int .i64 2, .int .u64 700, .int .i64 9, .int .u64 0] 66)
  have HB := Lib.hid hB
  clear hp hB
  go_wp2_with fail
  (with_reducible refine C.out.mono ?_)
  rintro e W12 ⟨rfl, hb1⟩
  have hb2 := HB.out.trans (hb1.mono HB.out.size)
  have HG12 : Hid (∃ cs, cs.size = 26 ∧ W12.heap[w.heap.size]? = some (.cells cs 41 (0, 0))) := by
    obtain ⟨cs, h1, h2⟩ := HG11.out
    exact ⟨cs, h1, by rw [hb2.block _ HL11.out.2]; exact h2⟩
  have HL12 : Hid (Below w.heap.size w W12 ∧ w.heap.size < W12.heap.size) := ⟨HL11.out.1.trans (hb2.mono HL11.out.1.size), Nat.lt_of_lt_of_le HL11.out.2 hb2.size⟩
  clear C HB hb1 hb2 HG11 HL11
  have hp := since_new W12 66 [(9, 2600)] #[.int .i64 9, .int .u64 2600] rfl
  have C := Lib.hid (told_n f 0 [(9, 2600)] 1 _ _ hp rfl (by omega))
  rw [← HK12.out] at C
  have hB := (Below.refl W12.heap.size W12).alloc (Nat.le_refl _) (.cells #[.int .i64 9, .int .u64 2600] 66)
  have HB := Lib.hid hB
  clear hp hB
  go_wp2_with fail
  (with_reducible refine C.out.mono ?_)
  rintro e W13 ⟨rfl, hb1⟩
  have hb2 := HB.out.trans (hb1.mono HB.out.size)
  have HG13 : Hid (∃ cs, cs.size = 26 ∧ W13.heap[w.heap.size]? = some (.cells cs 41 (0, 0))) := by
    obtain ⟨cs, h1, h2⟩ := HG12.out
    exact ⟨cs, h1, by rw [hb2.block _ HL12.out.2]; exact h2⟩
  have HL13 : Hid (Below w.heap.size w W13 ∧ w.heap.size < W13.heap.size) := ⟨HL12.out.1.trans (hb2.mono HL12.out.1.size), Nat.lt_of_lt_of_le HL12.out.2 hb2.size⟩
  clear C HB hb1 hb2 HG12 HL12
  have hp := since_new W13 66 [(9, 2100)] #[.int .i64 9, .int .u64 2100] rfl
  have C := Lib.hid (told_n f 0 [(9, 2100)] 1 _ _ hp rfl (by omega))
  rw [← HK13.out] at C
  have hB := (Below.refl W13.heap.size W13).alloc (Nat.le_refl _) (.cells #[.int .i64 9, .int .u64 2100] 66)
  have HB := Lib.hid hB
  clear hp hB
  go_wp2_with fail
  (with_reducible refine C.out.mono ?_)
  rintro e W14 ⟨rfl, hb1⟩
  have hb2 := HB.out.trans (hb1.mono HB.out.size)
  have HG14 : Hid (∃ cs, cs.size = 26 ∧ W14.heap[w.heap.size]? = some (.cells cs 41 (0, 0))) := by
    obtain ⟨cs, h1, h2⟩ := HG13.out
    exact ⟨cs, h1, by rw [hb2.block _ HL13.out.2]; exact h2⟩
  have HL14 : Hid (Below w.heap.size w W14 ∧ w.heap.size < W14.heap.size) := ⟨HL13.out.1.trans (hb2.mono HL13.out.1.size), Nat.lt_of_lt_of_le HL13.out.2 hb2.size⟩
  clear C HB hb1 hb2 HG13 HL13
  have hp := since_new W14 66 [(9, 100)] #[.int .i64 9, .int .u64 100] rfl
  have C := Lib.hid (told_n f 0 [(9, 100)] 1 _ _ hp rfl (by omega))
  rw [← HK14.out] at C
  have hB := (Below.refl W14.heap.size W14).alloc (Nat.le_refl _) (.cells #[.int .i64 9, .int .u64 100] 66)
  have HB := Lib.hid hB
  clear hp hB
  go_wp2_with fail
  (with_reducible refine C.out.mono ?_)
  rintro e W15 ⟨rfl, hb1⟩
  have hb2 := HB.out.trans (hb1.mono HB.out.size)
  have HG15 : Hid (∃ cs, cs.size = 26 ∧ W15.heap[w.heap.size]? = some (.cells cs 41 (0, 0))) := by
    obtain ⟨cs, h1, h2⟩ := HG14.out
    exact ⟨cs, h1, by rw [hb2.block _ HL14.out.2]; exact h2⟩
  have HL15 : Hid (Below w.heap.size w W15 ∧ w.heap.size < W15.heap.size) := ⟨HL14.out.1.trans (hb2.mono HL14.out.1.size), Nat.lt_of_lt_of_le HL14.out.2 hb2.size⟩
  clear C HB hb1 hb2 HG14 HL14
  have hp := since_new W15 66 [(2, 5000)] #[.int .i64 2, .int .u64 5000] rfl
  have C := Lib.hid (told_n f 0 [(2, 5000)] 1 _ _ hp rfl (by omega))
  rw [← HK15.out] at C
  have hB := (Below.refl W15.heap.size W15).alloc (Nat.le_refl _) (.cells #[.int .i64 2, .int .u64 5000] 66)
  have HB := Lib.hid hB
  clear hp hB
  go_wp2_with fail
  (with_reducible refine C.out.mono ?_)
  rintro e W16 ⟨rfl, hb1⟩
  have hb2 := HB.out.trans (hb1.mono HB.out.size)
  have HG16 : Hid (∃ cs, cs.size = 26 ∧ W16.heap[w.heap.size]? = some (.cells cs 41 (0, 0))) := by
    obtain ⟨cs, h1, h2⟩ := HG15.out
    exact ⟨cs, h1, by rw [hb2.block _ HL15.out.2]; exact h2⟩
  have HL16 : Hid (Below w.heap.size w W16 ∧ w.heap.size < W16.heap.size) := ⟨HL15.out.1.trans (hb2.mono HL15.out.1.size), Nat.lt_of_lt_of_le HL15.out.2 hb2.size⟩
  clear C HB hb1 hb2 HG15 HL15
  have hp := since_new W16 66 [(2, 25000)] #[.int .i64 2, .int .u64 25000] rfl
  have C := Lib.hid (told_n f 0 [(2, 25000)] 1 _ _ hp rfl (by omega))
  rw [← HK16.out] at C
  have hB := (Below.refl W16.heap.size W16).alloc (Nat.le_refl _) (.cells #[.int .i64 2, .int .u64 25000] 66)
  have HB := Lib.hid hB
  clear hp hB
  go_wp2_with fail
  (with_reducible refine C.out.mono ?_)
  rintro e W17 ⟨rfl, hb1⟩
  have hb2 := HB.out.trans (hb1.mono HB.out.size)
  have HG17 : Hid (∃ cs, cs.size = 26 ∧ W17.heap[w.heap.size]? = some (.cells cs 41 (0, 0))) := by
    obtain ⟨cs, h1, h2⟩ := HG16.out
    exact ⟨cs, h1, by rw [hb2.block _ HL16.out.2]; exact h2⟩
  have HL17 : Hid (Below w.heap.size w W17 ∧ w.heap.size < W17.heap.size) := ⟨HL16.out.1.trans (hb2.mono HL16.out.1.size), Nat.lt_of_lt_of_le HL16.out.2 hb2.size⟩
  clear C HB hb1 hb2 HG16 HL16
  have hp := since_new W17 66 [(10, 0)] #[.int .i64 10, .int .u64 0] rfl
  have C := Lib.hid (told_n f 24000 [(10, 0)] 1 _ _ hp rfl (by omega))
  rw [← HK17.out] at C
  have hB := (Below.refl W17.heap.size W17).alloc (Nat.le_refl _) (.cells #[.int .i64 10, .int .u64 0] 66)
  have HB := Lib.hid hB
  clear hp hB
  go_wp2_with fail
  (with_reducible refine C.out.mono ?_)
  rintro e W18 ⟨rfl, hb1⟩
  have hb2 := HB.out.trans (hb1.mono HB.out.size)
  have HG18 : Hid (∃ cs, cs.size = 26 ∧ W18.heap[w.heap.size]? = some (.cells cs 41 (0, 0))) := by
    obtain ⟨cs, h1, h2⟩ := HG17.out
    exact ⟨cs, h1, by rw [hb2.block _ HL17.out.2]; exact h2⟩
  have HL18 : Hid (Below w.heap.size w W18 ∧ w.heap.size < W18.heap.size) := ⟨HL17.out.1.trans (hb2.mono HL17.out.1.size), Nat.lt_of_lt_of_le HL17.out.2 hb2.size⟩
  clear C HB hb1 hb2 HG17 HL17
  have hp := since_new W18 66 [(3, 50)] #[.int .i64 3, .int .u64 50] rfl
  have C := Lib.hid (told_n f 10 [(3, 50)] 1 _ _ hp rfl (by omega))
  rw [← HK18.out] at C
  have hB := (Below.refl W18.heap.size W18).alloc (Nat.le_refl _) (.cells #[.int .i64 3, .int .u64 50] 66)
  have HB := Lib.hid hB
  clear hp hB
  go_wp2_with fail
  (with_reducible refine C.out.mono ?_)
  rintro e W19 ⟨rfl, hb1⟩
  have hb2 := HB.out.trans (hb1.mono HB.out.size)
  have HG19 : Hid (∃ cs, cs.size = 26 ∧ W19.heap[w.heap.size]? = some (.cells cs 41 (0, 0))) := by
    obtain ⟨cs, h1, h2⟩ := HG18.out
    exact ⟨cs, h1, by rw [hb2.block _ HL18.out.2]; exact h2⟩
  have HL19 : Hid (Below w.heap.size w W19 ∧ w.heap.size < W19.heap.size) := ⟨HL18.out.1.trans (hb2.mono HL18.out.1.size), Nat.lt_of_lt_of_le HL18.out.2 hb2.size⟩
  clear C HB hb1 hb2 HG18 HL18
  have hp := since_new W19 66 [(10, 4800)] #[.int .i64 10, .int .u64 4800] rfl
  have C := Lib.hid (told_n f 15000 [(10, 4800)] 1 _ _ hp rfl (by omega))
  rw [← HK19.out] at C
  have hB := (Below.refl W19.heap.size W19).alloc (Nat.le_refl _) (.cells #[.int .i64 10, .int .u64 4800] 66)
  have HB := Lib.hid hB
  clear hp hB
  go_wp2_with fail
  (with_reducible refine C.out.mono ?_)
  rintro e W20 ⟨rfl, hb1⟩
  have hb2 := HB.out.trans (hb1.mono HB.out.size)
  have HG20 : Hid (∃ cs, cs.size = 26 ∧ W20.heap[w.heap.size]? = some (.cells cs 41 (0, 0))) := by
    obtain ⟨cs, h1, h2⟩ := HG19.out
    exact ⟨cs, h1, by rw [hb2.block _ HL19.out.2]; exact h2⟩
  have HL20 : Hid (Below w.heap.size w W20 ∧ w.heap.size < W20.heap.size) := ⟨HL19.out.1.trans (hb2.mono HL19.out.1.size), Nat.lt_of_lt_of_le HL19.out.2 hb2.size⟩
  clear C HB hb1 hb2 HG19 HL19
  have hp := since_new W20 66 [(10, 5)] #[.int .i64 10, .int .u64 5] rfl
  have C := Lib.hid (told_n f 2 [(10, 5)] 1 _ _ hp rfl (by omega))
  rw [← HK20.out] at C
  have hB := (Below.refl W20.heap.size W20).alloc (Nat.le_refl _) (.cells #[.int .i64 10, .int .u64 5] 66)
  have HB := Lib.hid hB
  clear hp hB
  go_wp2_with fail
  (with_reducible refine C.out.mono ?_)
  rintro e W21 ⟨rfl, hb1⟩
  have hb2 := HB.out.trans (hb1.mono HB.out.size)
  have HG21 : Hid (∃ cs, cs.size = 26 ∧ W21.heap[w.heap.size]? = some (.cells cs 41 (0, 0))) := by
    obtain ⟨cs, h1, h2⟩ := HG20.out
    exact ⟨cs, h1, by rw [hb2.block _ HL20.out.2]; exact h2⟩
  have HL21 : Hid (Below w.heap.size w W21 ∧ w.heap.size < W21.heap.size) := ⟨HL20.out.1.trans (hb2.mono HL20.out.1.size), Nat.lt_of_lt_of_le HL20.out.2 hb2.size⟩
  clear C HB hb1 hb2 HG20 HL20
  have C := Lib.hid (reward_c f W21)
  rw [← HK21.out] at C
  have HB : Hid (Below W21.heap.size W21 W21) := Below.refl _ _
  go_wp2_with fail
  (with_reducible refine C.out.mono ?_)
  rintro e W22 ⟨rfl, hb1⟩
  have hb2 := HB.out.trans (hb1.mono HB.out.size)
  have HG22 : Hid (∃ cs, cs.size = 26 ∧ W22.heap[w.heap.size]? = some (.cells cs 41 (0, 0))) := by
    obtain ⟨cs, h1, h2⟩ := HG21.out
    exact ⟨cs, h1, by rw [hb2.block _ HL21.out.2]; exact h2⟩
  have HL22 : Hid (Below w.heap.size w W22 ∧ w.heap.size < W22.heap.size) := ⟨HL21.out.1.trans (hb2.mono HL21.out.1.size), Nat.lt_of_lt_of_le HL21.out.2 hb2.size⟩
  clear C HB hb1 hb2 HG21 HL21
  have C := Lib.hid (bomb_c f W22)
  rw [← HK22.out] at C
  have HB : Hid (Below W22.heap.size W22 W22) := Below.refl _ _
  go_wp2_with fail
  rename_i KK hKK
  (with_reducible refine C.out.mono ?_)
  rintro e W23 ⟨rfl, hb1⟩
  have hb2 := HB.out.trans (hb1.mono HB.out.size)
  have HG23 : Hid (∃ cs, cs.size = 26 ∧ W23.heap[w.heap.size]? = some (.cells cs 41 (0, 0))) := by
    obtain ⟨cs, h1, h2⟩ := HG22.out
    exact ⟨cs, h1, by rw [hb2.block _ HL22.out.2]; exact h2⟩
  have HL23 : Hid (Below w.heap.size w W23 ∧ w.heap.size < W23.heap.size) := ⟨HL22.out.1.trans (hb2.mono HL22.out.1.size), Nat.lt_of_lt_of_le HL22.out.2 hb2.size⟩
  clear C HB hb1 hb2 HG22 HL22
  have hR : RulesC f = #[.int .i64 f, .int .u64 21000, .int .u64 k0, .int .u64 4, .int .u64 k1, .int .u64 k2, .int .u64 k3, .int .u64 k4, .int .i64 k5, .int .i64 k6, .int .u64 k7, .int .u64 k8, .int .u64 k9, .int .u64 k10, .int .u64 k11, .int .u64 k12, .int .u64 k13, .int .u64 k14, .int .u64 k15, .int .u64 k16, .int .u64 k17, .int .u64 k18, .int .u64 k19, .int .u64 k20, .int .u64 k21, .int .u64 k22] := by
    unfold RulesC
    rw [← HK0.out, ← HK1.out, ← HK2.out, ← HK3.out, ← HK4.out, ← HK5.out, ← HK6.out, ← HK7.out, ← HK8.out, ← HK9.out, ← HK10.out, ← HK11.out, ← HK12.out, ← HK13.out, ← HK14.out, ← HK15.out, ← HK16.out, ← HK17.out, ← HK18.out, ← HK19.out, ← HK20.out, ← HK21.out, ← HK22.out]
  show KK _ _
  refine hKK _ _ ?_
  clear hKK KK
  refine wpList_buildTo rfl 41 _ rfl (some 107) rfl #[.int .i64 f, .int .u64 21000, .int .u64 k0, .int .u64 4, .int .u64 k1, .int .u64 k2, .int .u64 k3, .int .u64 k4, .int .i64 k5, .int .i64 k6, .int .u64 k7, .int .u64 k8, .int .u64 k9, .int .u64 k10, .int .u64 k11, .int .u64 k12, .int .u64 k13, .int .u64 k14, .int .u64 k15, .int .u64 k16, .int .u64 k17, .int .u64 k18, .int .u64 k19, .int .u64 k20, .int .u64 k21, .int .u64 k22] (Eq.trans (b := Program.built Tryd.prog 41 [(0, .int .i64 f), (1, .int .u64 21000), (2, .int .u64 k0), (3, .int .u64 4), (4, .int .u64 k1), (5, .int .u64 k2), (6, .int .u64 k3), (7, .int .u64 k4), (8, .int .i64 k5), (9, .int .i64 k6), (10, .int .u64 k7), (11, .int .u64 k8), (12, .int .u64 k9), (13, .int .u64 k10), (14, .int .u64 k11), (15, .int .u64 k12), (16, .int .u64 k13), (17, .int .u64 k14), (18, .int .u64 k15), (19, .int .u64 k16), (20, .int .u64 k17), (21, .int .u64 k18), (22, .int .u64 k19), (23, .int .u64 k20), (24, .int .u64 k21), (25, .int .u64 k22)]) (congrArg (Program.built Tryd.prog 41) (by kernel_rfl)) (fobuilt f k0 k1 k2 k3 k4 k5 k6 k7 k8 k9 k10 k11 k12 k13 k14 k15 k16 k17 k18 k19 k20 k21 k22)) ?_
  obtain ⟨cs, hcs, hg⟩ := HG23.out
  refine wpList_store_row rfl 41 (.tmp 2) (.tmp 107) rfl w.heap.size #[.int .i64 f, .int .u64 21000, .int .u64 k0, .int .u64 4, .int .u64 k1, .int .u64 k2, .int .u64 k3, .int .u64 k4, .int .i64 k5, .int .i64 k6, .int .u64 k7, .int .u64 k8, .int .u64 k9, .int .u64 k10, .int .u64 k11, .int .u64 k12, .int .u64 k13, .int .u64 k14, .int .u64 k15, .int .u64 k16, .int .u64 k17, .int .u64 k18, .int .u64 k19, .int .u64 k20, .int .u64 k21, .int .u64 k22] rfl rfl 41 cs hg infoRules (by rw [hcs]; rfl) (by simp [Value.oneCell']) ?_
  have hg2 := setRow_heap W23 w.heap.size _ #[.int .i64 f, .int .u64 21000, .int .u64 k0, .int .u64 4, .int .u64 k1, .int .u64 k2, .int .u64 k3, .int .u64 k4, .int .i64 k5, .int .i64 k6, .int .u64 k7, .int .u64 k8, .int .u64 k9, .int .u64 k10, .int .u64 k11, .int .u64 k12, .int .u64 k13, .int .u64 k14, .int .u64 k15, .int .u64 k16, .int .u64 k17, .int .u64 k18, .int .u64 k19, .int .u64 k20, .int .u64 k21, .int .u64 k22] 41 (0, 0) hg
  have hb2 := below_setRow HL23.out.1 (Nat.le_refl w.heap.size) #[.int .i64 f, .int .u64 21000, .int .u64 k0, .int .u64 4, .int .u64 k1, .int .u64 k2, .int .u64 k3, .int .u64 k4, .int .i64 k5, .int .i64 k6, .int .u64 k7, .int .u64 k8, .int .u64 k9, .int .u64 k10, .int .u64 k11, .int .u64 k12, .int .u64 k13, .int .u64 k14, .int .u64 k15, .int .u64 k16, .int .u64 k17, .int .u64 k18, .int .u64 k19, .int .u64 k20, .int .u64 k21, .int .u64 k22]
  generalize W23.setRow w.heap.size #[.int .i64 f, .int .u64 21000, .int .u64 k0, .int .u64 4, .int .u64 k1, .int .u64 k2, .int .u64 k3, .int .u64 k4, .int .i64 k5, .int .i64 k6, .int .u64 k7, .int .u64 k8, .int .u64 k9, .int .u64 k10, .int .u64 k11, .int .u64 k12, .int .u64 k13, .int .u64 k14, .int .u64 k15, .int .u64 k16, .int .u64 k17, .int .u64 k18, .int .u64 k19, .int .u64 k20, .int .u64 k21, .int .u64 k22] = Y at *
  have HG2 := Lib.hid hg2
  clear hg hg2
  refine wpList_plain rfl fun K hK => ?_; go_simp; refine hK _ _ ?_; clear hK K
  refine wpList_nil ?_
  go_simp
  go_wp2_with fail
  have hg3 := HG2.out
  rw [← hR] at hg3
  have hsz : (Tryd.prog.info? 41).map (·.size) = some (RulesC f).size := by rw [hR]; exact infoRules
  refine bodyPost_ret (v := .tuple #[RulesV f, .int .i64 0]) (results_row_slot Tryd.results14 _ _ rfl (run_loadVar_row Y _ _ _ (RulesC f) (0, 0) _ hg3 Tryd.underlying41 rfl hsz) rfl) rfl ⟨rfl, hb2⟩

set_option maxRecDepth 100000 in
set_option maxHeartbeats 6400000 in
theorem foof_no (f : Int) (w : World) (h : ¬ (0 ≤ f ∧ f ≤ 15)) : Calls Tryd.prog 14 #[.int .i64 f] w (RetV (.tuple #[Rules0, .int .i64 1]) w) := by
  have CF : Hid (∀ w, Calls Tryd.prog 28 #[.int .i64 f] w fun e w' => e = .returned (.bool false) ∧ w' = w) := fun w => by
    have h2 := isFork_c f w
    rw [decide_eq_false h] at h2
    exact h2
  clear h
  go_enter Tryd.func14, Tryd.ntmps14
  go_wp2_with fail
  (with_reducible refine (CF.out _).mono ?_)
  rintro e w1 ⟨rfl, hw1⟩
  rw [hw1]
  clear hw1 w1
  go_upto_region 2 with (fail)
  refine wp_region_lit ?_
  refine wpList_buildTo rfl 41 _ rfl (some 7) rfl Rules0C (by simpa using builtRules0) ?_
  have hg : (w.alloc (.cells Rules0C 41)).heap[w.heap.size]? = some (.cells Rules0C 41 (0, 0)) := heap_alloc_new w _
  have hb : Below w.heap.size w (w.alloc (.cells Rules0C 41)) := (Below.refl _ _).alloc (Nat.le_refl _) _
  refine wpList_store_row rfl 41 (.tmp 2) (.tmp 7) rfl w.heap.size Rules0C rfl rfl 41 _ hg infoRules rfl (by simp [Rules0C, Value.oneCell']) ?_
  have hg2 := setRow_heap (w.alloc (.cells Rules0C 41)) w.heap.size _ Rules0C 41 (0, 0) hg
  have hb2 := below_setRow hb (Nat.le_refl w.heap.size) Rules0C
  show wpList _ _ _ _ _ ((w.alloc (.cells Rules0C 41)).setRow w.heap.size Rules0C)
  generalize (w.alloc (.cells Rules0C 41)).setRow w.heap.size Rules0C = Y at *
  have HG2 := Lib.hid hg2
  clear hg hg2 hb
  refine wpList_plain rfl fun K hK => ?_; go_simp; refine hK _ _ ?_; clear hK K
  refine wpList_nil ?_
  go_simp
  go_wp2_with fail
  refine bodyPost_ret (v := .tuple #[Rules0, .int .i64 1]) (results_row_slot Tryd.results14 _ _ rfl (run_loadVar_row Y _ _ _ Rules0C (0, 0) _ HG2.out Tryd.underlying41 rfl infoRules) rfl) rfl ⟨rfl, hb2⟩
end Go.Proofs.YtijoafmbmplgcaaDoor
