/- Package quarryref13: Of, which tells a fork's numbers. (Written by wip/genfkof.py.) -/
import Derived.Test.YtiflfcdegpmhnaaFkFrom
import Derived.Test.YtiflfcdegpmhnaaFkNative
import Derived.Great.BuildSlice
import Derived.Laws.CopyOwn
import Derived.Laws.Rows
namespace Go.Proofs.Ytiflfcdegpmhnaa
open Go.RowKit

/-- A fork's numbers. -/
def RulesC (f : Int) : Array Value := #[.int .i64 f, .int .u64 21000, .int .u64 (fromZ f 0 [(1, 32000)]), .int .u64 4, .int .u64 (fromZ f 68 [(7, 16)]), .int .u64 (fromZ f 0 [(9, 2400)]), .int .u64 (fromZ f 0 [(9, 1900)]), .int .u64 (fromZ f 0 [(14, 2)]), .int .i64 (fromZ f 0 [(14, 49152)]), .int .i64 (fromZ f 0 [(3, 24576)]), .int .u64 (fromZ f 20 [(2, 400), (7, 700), (9, 0)]), .int .u64 (fromZ f 20 [(2, 700), (9, 0)]), .int .u64 (fromZ f 0 [(5, 400), (7, 700), (9, 0)]), .int .u64 (fromZ f 50 [(2, 200), (7, 800), (9, 0)]), .int .u64 (fromZ f 40 [(2, 700), (9, 0)]), .int .u64 (fromZ f 0 [(9, 2600)]), .int .u64 (fromZ f 0 [(9, 2100)]), .int .u64 (fromZ f 0 [(9, 100)]), .int .u64 (fromZ f 0 [(2, 5000)]), .int .u64 (fromZ f 0 [(2, 25000)]), .int .u64 (fromZ f 24000 [(10, 0)]), .int .u64 (fromZ f 10 [(3, 50)]), .int .u64 (fromZ f 15000 [(10, 4800)]), .int .u64 (fromZ f 2 [(10, 5)]), .int .u64 (fromZ f 5000000000000000000 [(4, 3000000000000000000), (5, 2000000000000000000), (13, 0)]), .int .u64 (fromZ f 0 [(4, 3000000), (5, 5000000), (8, 9000000), (10, 9700000), (11, 10700000), (12, 11400000), (13, 0)])]
def RulesV (f : Int) : Value := .agg (RulesC f)
/-- No fork's. -/
def Rules0 : Value := .agg #[.int .i64 0, .int .u64 0, .int .u64 0, .int .u64 0, .int .u64 0, .int .u64 0, .int .u64 0, .int .u64 0, .int .i64 0, .int .i64 0, .int .u64 0, .int .u64 0, .int .u64 0, .int .u64 0, .int .u64 0, .int .u64 0, .int .u64 0, .int .u64 0, .int .u64 0, .int .u64 0, .int .u64 0, .int .u64 0, .int .u64 0, .int .u64 0, .int .u64 0, .int .u64 0]
theorem infoRules : (Try.prog.info? 26).map (·.size) = some 26 := by kernel_rfl
/-- Two results: a row, and a slot. -/
theorem results_row_slot {fn : Func} {p q : Tmp} {ty : TypeId} (h : fn.results = #[.cell p ty, .tmp q]) (tmps : Array Value) (w : World) {g : Nat} {cs : Array Value} {v : Value}
    (hp : tmps.getD p undef = .pointer (some ⟨g, 0, none⟩)) (hv : (loadVar ty ⟨g, 0, none⟩).run Try.prog w = .ok (.agg cs) w) (hq : tmps.getD q undef = v) :
    (results fn tmps).run Try.prog w = .ok (.tuple #[.agg cs, v]) w := by
  have hp' : tmps[p]?.getD undef = .pointer (some ⟨g, 0, none⟩) := by simpa using hp
  have hq' : tmps[q]?.getD undef = v := by simpa using hq
  simp [results, h, hp', hq', asAddr, hv]
theorem builtRules (f k0 k1 k2 k3 k4 k5 k6 k7 k8 k9 k10 k11 k12 k13 k14 k15 k16 k17 k18 k19 k20 k21 k22 : Int) : Try.prog.built 26 [(0, .int .i64 f), (1, .int .u64 21000), (3, .int .u64 4), (2, .int .u64 k0), (4, .int .u64 k1), (5, .int .u64 k2), (6, .int .u64 k3), (7, .int .u64 k4), (8, .int .i64 k5), (9, .int .i64 k6), (10, .int .u64 k7), (11, .int .u64 k8), (12, .int .u64 k9), (13, .int .u64 k10), (14, .int .u64 k11), (15, .int .u64 k12), (16, .int .u64 k13), (17, .int .u64 k14), (18, .int .u64 k15), (19, .int .u64 k16), (20, .int .u64 k17), (21, .int .u64 k18), (22, .int .u64 k19), (23, .int .u64 k20), (24, .int .u64 k21), (25, .int .u64 k22)] = some #[.int .i64 f, .int .u64 21000, .int .u64 k0, .int .u64 4, .int .u64 k1, .int .u64 k2, .int .u64 k3, .int .u64 k4, .int .i64 k5, .int .i64 k6, .int .u64 k7, .int .u64 k8, .int .u64 k9, .int .u64 k10, .int .u64 k11, .int .u64 k12, .int .u64 k13, .int .u64 k14, .int .u64 k15, .int .u64 k16, .int .u64 k17, .int .u64 k18, .int .u64 k19, .int .u64 k20, .int .u64 k21, .int .u64 k22] := by kernel_rfl
theorem small_49152 (f : Int) : 0 ≤ fromZ f 0 [(14, 49152)] ∧ fromZ f 0 [(14, 49152)] ≤ 49152 := by
  simp only [fromZ]
  split <;> omega
theorem small_24576 (f : Int) : 0 ≤ fromZ f 0 [(3, 24576)] ∧ fromZ f 0 [(3, 24576)] ≤ 24576 := by
  simp only [fromZ]
  split <;> omega

set_option maxRecDepth 100000 in
set_option maxHeartbeats 12800000 in
theorem rfkof_c (f : Int) (w : World) (h0 : 0 ≤ f) (h1 : f ≤ 15) : Calls Try.prog 32 #[.int .i64 f] w (RetV (.tuple #[RulesV f, .bool true]) w) := by
  obtain ⟨W0, hW0⟩ : ∃ W0, W0 = w.alloc (.cells #[.int .i64 0, .int .u64 0, .int .u64 0, .int .u64 0, .int .u64 0, .int .u64 0, .int .u64 0, .int .u64 0, .int .i64 0, .int .i64 0, .int .u64 0, .int .u64 0, .int .u64 0, .int .u64 0, .int .u64 0, .int .u64 0, .int .u64 0, .int .u64 0, .int .u64 0, .int .u64 0, .int .u64 0, .int .u64 0, .int .u64 0, .int .u64 0, .int .u64 0, .int .u64 0] 26) := ⟨_, rfl⟩
  have HG0 : Hid (∃ cs, cs.size = 26 ∧ W0.heap[w.heap.size]? = some (.cells cs 26 (0, 0))) := by rw [hW0]; exact ⟨_, rfl, heap_alloc_new w _⟩
  have HL0 : Hid (Below w.heap.size w W0 ∧ w.heap.size < W0.heap.size) := by rw [hW0]; exact ⟨(Below.refl _ _).alloc (Nat.le_refl _) _, by simp⟩
  have hv := small_49152 f
  have hw := small_24576 f
  obtain ⟨k0, hk0⟩ : ∃ k, k = fromZ f 0 [(1, 32000)] := ⟨_, rfl⟩
  have HK0 := Lib.hid hk0
  clear hk0
  obtain ⟨k1, hk1⟩ : ∃ k, k = fromZ f 68 [(7, 16)] := ⟨_, rfl⟩
  have HK1 := Lib.hid hk1
  clear hk1
  obtain ⟨k2, hk2⟩ : ∃ k, k = fromZ f 0 [(9, 2400)] := ⟨_, rfl⟩
  have HK2 := Lib.hid hk2
  clear hk2
  obtain ⟨k3, hk3⟩ : ∃ k, k = fromZ f 0 [(9, 1900)] := ⟨_, rfl⟩
  have HK3 := Lib.hid hk3
  clear hk3
  obtain ⟨k4, hk4⟩ : ∃ k, k = fromZ f 0 [(14, 2)] := ⟨_, rfl⟩
  have HK4 := Lib.hid hk4
  clear hk4
  obtain ⟨k5, hk5⟩ : ∃ k, k = fromZ f 0 [(14, 49152)] := ⟨_, rfl⟩
  rw [← hk5] at hv
  have v5 : IntKind.i64.wrap k5 = k5 := IntWalk.i64_in _ (by omega)
  have HK5 := Lib.hid hk5
  clear hk5
  obtain ⟨k6, hk6⟩ : ∃ k, k = fromZ f 0 [(3, 24576)] := ⟨_, rfl⟩
  rw [← hk6] at hw
  have v6 : IntKind.i64.wrap k6 = k6 := IntWalk.i64_in _ (by omega)
  have HK6 := Lib.hid hk6
  clear hk6
  obtain ⟨k7, hk7⟩ : ∃ k, k = fromZ f 20 [(2, 400), (7, 700), (9, 0)] := ⟨_, rfl⟩
  have HK7 := Lib.hid hk7
  clear hk7
  obtain ⟨k8, hk8⟩ : ∃ k, k = fromZ f 20 [(2, 700), (9, 0)] := ⟨_, rfl⟩
  have HK8 := Lib.hid hk8
  clear hk8
  obtain ⟨k9, hk9⟩ : ∃ k, k = fromZ f 0 [(5, 400), (7, 700), (9, 0)] := ⟨_, rfl⟩
  have HK9 := Lib.hid hk9
  clear hk9
  obtain ⟨k10, hk10⟩ : ∃ k, k = fromZ f 50 [(2, 200), (7, 800), (9, 0)] := ⟨_, rfl⟩
  have HK10 := Lib.hid hk10
  clear hk10
  obtain ⟨k11, hk11⟩ : ∃ k, k = fromZ f 40 [(2, 700), (9, 0)] := ⟨_, rfl⟩
  have HK11 := Lib.hid hk11
  clear hk11
  obtain ⟨k12, hk12⟩ : ∃ k, k = fromZ f 0 [(9, 2600)] := ⟨_, rfl⟩
  have HK12 := Lib.hid hk12
  clear hk12
  obtain ⟨k13, hk13⟩ : ∃ k, k = fromZ f 0 [(9, 2100)] := ⟨_, rfl⟩
  have HK13 := Lib.hid hk13
  clear hk13
  obtain ⟨k14, hk14⟩ : ∃ k, k = fromZ f 0 [(9, 100)] := ⟨_, rfl⟩
  have HK14 := Lib.hid hk14
  clear hk14
  obtain ⟨k15, hk15⟩ : ∃ k, k = fromZ f 0 [(2, 5000)] := ⟨_, rfl⟩
  have HK15 := Lib.hid hk15
  clear hk15
  obtain ⟨k16, hk16⟩ : ∃ k, k = fromZ f 0 [(2, 25000)] := ⟨_, rfl⟩
  have HK16 := Lib.hid hk16
  clear hk16
  obtain ⟨k17, hk17⟩ : ∃ k, k = fromZ f 24000 [(10, 0)] := ⟨_, rfl⟩
  have HK17 := Lib.hid hk17
  clear hk17
  obtain ⟨k18, hk18⟩ : ∃ k, k = fromZ f 10 [(3, 50)] := ⟨_, rfl⟩
  have HK18 := Lib.hid hk18
  clear hk18
  obtain ⟨k19, hk19⟩ : ∃ k, k = fromZ f 15000 [(10, 4800)] := ⟨_, rfl⟩
  have HK19 := Lib.hid hk19
  clear hk19
  obtain ⟨k20, hk20⟩ : ∃ k, k = fromZ f 2 [(10, 5)] := ⟨_, rfl⟩
  have HK20 := Lib.hid hk20
  clear hk20
  obtain ⟨k21, hk21⟩ : ∃ k, k = fromZ f 5000000000000000000 [(4, 3000000000000000000), (5, 2000000000000000000), (13, 0)] := ⟨_, rfl⟩
  have HK21 := Lib.hid hk21
  clear hk21
  obtain ⟨k22, hk22⟩ : ∃ k, k = fromZ f 0 [(4, 3000000), (5, 5000000), (8, 9000000), (10, 9700000), (11, 10700000), (12, 11400000), (13, 0)] := ⟨_, rfl⟩
  have HK22 := Lib.hid hk22
  clear hk22
  go_enter Try.func32, Try.ntmps32
  have hs0 : W0.heap.size = w.heap.size + 1 := by rw [hW0]; simp
  have HC : Hid (∀ W : World, ∀ n : Nat, True) := fun _ _ => trivial
  have hp := pairs_new (w.alloc (.cells #[.int .i64 0, .int .u64 0, .int .u64 0, .int .u64 0, .int .u64 0, .int .u64 0, .int .u64 0, .int .u64 0, .int .i64 0, .int .i64 0, .int .u64 0, .int .u64 0, .int .u64 0, .int .u64 0, .int .u64 0, .int .u64 0, .int .u64 0, .int .u64 0, .int .u64 0, .int .u64 0, .int .u64 0, .int .u64 0, .int .u64 0, .int .u64 0, .int .u64 0, .int .u64 0] 26)) 93 [(1, 32000)] #[.int .u64 1, .int .u64 32000] rfl
  have C := Lib.hid (rffrom_n f 0 [(1, 32000)] 1 _ _ hp rfl (by omega) (by simp))
  rw [← hW0, hs0, ← HK0.out] at C
  clear hp
  go_wp2_with fail
  rw [← hW0]
  (with_reducible refine C.out.mono ?_)
  rintro e w1 ⟨rfl, rfl⟩
  clear C hW0
  obtain ⟨W1, hW1⟩ : ∃ W, W = W0.alloc (.cells #[.int .u64 1, .int .u64 32000] 93) := ⟨_, rfl⟩
  have HG1 : Hid (∃ cs, cs.size = 26 ∧ W1.heap[w.heap.size]? = some (.cells cs 26 (0, 0))) := by
    obtain ⟨cs, h1, h2⟩ := HG0.out
    exact ⟨cs, h1, by rw [hW1, Below.heap_alloc _ _ _ HL0.out.2]; exact h2⟩
  have HL1 : Hid (Below w.heap.size w W1 ∧ w.heap.size < W1.heap.size) := by
    rw [hW1]; exact ⟨HL0.out.1.alloc HL0.out.1.size _, by have := HL0.out.2; simp; omega⟩
  rw [← hW1]
  clear HG0 HL0 hW1
  have hp := pairs_new W1 93 [(7, 16)] #[.int .u64 7, .int .u64 16] rfl
  have C := Lib.hid (rffrom_n f 68 [(7, 16)] 1 _ _ hp rfl (by omega) (by simp))
  rw [← HK1.out] at C
  clear hp
  go_wp2_with fail
  (with_reducible refine C.out.mono ?_)
  rintro e w1 ⟨rfl, rfl⟩
  clear C
  obtain ⟨W2, hW2⟩ : ∃ W, W = W1.alloc (.cells #[.int .u64 7, .int .u64 16] 93) := ⟨_, rfl⟩
  have HG2 : Hid (∃ cs, cs.size = 26 ∧ W2.heap[w.heap.size]? = some (.cells cs 26 (0, 0))) := by
    obtain ⟨cs, h1, h2⟩ := HG1.out
    exact ⟨cs, h1, by rw [hW2, Below.heap_alloc _ _ _ HL1.out.2]; exact h2⟩
  have HL2 : Hid (Below w.heap.size w W2 ∧ w.heap.size < W2.heap.size) := by
    rw [hW2]; exact ⟨HL1.out.1.alloc HL1.out.1.size _, by have := HL1.out.2; simp; omega⟩
  rw [← hW2]
  clear HG1 HL1 hW2
  have hp := pairs_new W2 93 [(9, 2400)] #[.int .u64 9, .int .u64 2400] rfl
  have C := Lib.hid (rffrom_n f 0 [(9, 2400)] 1 _ _ hp rfl (by omega) (by simp))
  rw [← HK2.out] at C
  clear hp
  go_wp2_with fail
  (with_reducible refine C.out.mono ?_)
  rintro e w1 ⟨rfl, rfl⟩
  clear C
  obtain ⟨W3, hW3⟩ : ∃ W, W = W2.alloc (.cells #[.int .u64 9, .int .u64 2400] 93) := ⟨_, rfl⟩
  have HG3 : Hid (∃ cs, cs.size = 26 ∧ W3.heap[w.heap.size]? = some (.cells cs 26 (0, 0))) := by
    obtain ⟨cs, h1, h2⟩ := HG2.out
    exact ⟨cs, h1, by rw [hW3, Below.heap_alloc _ _ _ HL2.out.2]; exact h2⟩
  have HL3 : Hid (Below w.heap.size w W3 ∧ w.heap.size < W3.heap.size) := by
    rw [hW3]; exact ⟨HL2.out.1.alloc HL2.out.1.size _, by have := HL2.out.2; simp; omega⟩
  rw [← hW3]
  clear HG2 HL2 hW3
  have hp := pairs_new W3 93 [(9, 1900)] #[.int .u64 9, .int .u64 1900] rfl
  have C := Lib.hid (rffrom_n f 0 [(9, 1900)] 1 _ _ hp rfl (by omega) (by simp))
  rw [← HK3.out] at C
  clear hp
  go_wp2_with fail
  (with_reducible refine C.out.mono ?_)
  rintro e w1 ⟨rfl, rfl⟩
  clear C
  obtain ⟨W4, hW4⟩ : ∃ W, W = W3.alloc (.cells #[.int .u64 9, .int .u64 1900] 93) := ⟨_, rfl⟩
  have HG4 : Hid (∃ cs, cs.size = 26 ∧ W4.heap[w.heap.size]? = some (.cells cs 26 (0, 0))) := by
    obtain ⟨cs, h1, h2⟩ := HG3.out
    exact ⟨cs, h1, by rw [hW4, Below.heap_alloc _ _ _ HL3.out.2]; exact h2⟩
  have HL4 : Hid (Below w.heap.size w W4 ∧ w.heap.size < W4.heap.size) := by
    rw [hW4]; exact ⟨HL3.out.1.alloc HL3.out.1.size _, by have := HL3.out.2; simp; omega⟩
  rw [← hW4]
  clear HG3 HL3 hW4
  have hp := pairs_new W4 93 [(14, 2)] #[.int .u64 14, .int .u64 2] rfl
  have C := Lib.hid (rffrom_n f 0 [(14, 2)] 1 _ _ hp rfl (by omega) (by simp))
  rw [← HK4.out] at C
  clear hp
  go_wp2_with fail
  (with_reducible refine C.out.mono ?_)
  rintro e w1 ⟨rfl, rfl⟩
  clear C
  obtain ⟨W5, hW5⟩ : ∃ W, W = W4.alloc (.cells #[.int .u64 14, .int .u64 2] 93) := ⟨_, rfl⟩
  have HG5 : Hid (∃ cs, cs.size = 26 ∧ W5.heap[w.heap.size]? = some (.cells cs 26 (0, 0))) := by
    obtain ⟨cs, h1, h2⟩ := HG4.out
    exact ⟨cs, h1, by rw [hW5, Below.heap_alloc _ _ _ HL4.out.2]; exact h2⟩
  have HL5 : Hid (Below w.heap.size w W5 ∧ w.heap.size < W5.heap.size) := by
    rw [hW5]; exact ⟨HL4.out.1.alloc HL4.out.1.size _, by have := HL4.out.2; simp; omega⟩
  rw [← hW5]
  clear HG4 HL4 hW5
  have hp := pairs_new W5 93 [(14, 49152)] #[.int .u64 14, .int .u64 49152] rfl
  have C := Lib.hid (rffrom_n f 0 [(14, 49152)] 1 _ _ hp rfl (by omega) (by simp))
  rw [← HK5.out] at C
  clear hp
  go_wp2_with fail
  (with_reducible refine C.out.mono ?_)
  rintro e w1 ⟨rfl, rfl⟩
  clear C
  obtain ⟨W6, hW6⟩ : ∃ W, W = W5.alloc (.cells #[.int .u64 14, .int .u64 49152] 93) := ⟨_, rfl⟩
  have HG6 : Hid (∃ cs, cs.size = 26 ∧ W6.heap[w.heap.size]? = some (.cells cs 26 (0, 0))) := by
    obtain ⟨cs, h1, h2⟩ := HG5.out
    exact ⟨cs, h1, by rw [hW6, Below.heap_alloc _ _ _ HL5.out.2]; exact h2⟩
  have HL6 : Hid (Below w.heap.size w W6 ∧ w.heap.size < W6.heap.size) := by
    rw [hW6]; exact ⟨HL5.out.1.alloc HL5.out.1.size _, by have := HL5.out.2; simp; omega⟩
  rw [← hW6]
  clear HG5 HL5 hW6
  have hp := pairs_new W6 93 [(3, 24576)] #[.int .u64 3, .int .u64 24576] rfl
  have C := Lib.hid (rffrom_n f 0 [(3, 24576)] 1 _ _ hp rfl (by omega) (by simp))
  rw [← HK6.out] at C
  clear hp
  go_wp2_with fail
  (with_reducible refine C.out.mono ?_)
  rintro e w1 ⟨rfl, rfl⟩
  clear C
  obtain ⟨W7, hW7⟩ : ∃ W, W = W6.alloc (.cells #[.int .u64 3, .int .u64 24576] 93) := ⟨_, rfl⟩
  have HG7 : Hid (∃ cs, cs.size = 26 ∧ W7.heap[w.heap.size]? = some (.cells cs 26 (0, 0))) := by
    obtain ⟨cs, h1, h2⟩ := HG6.out
    exact ⟨cs, h1, by rw [hW7, Below.heap_alloc _ _ _ HL6.out.2]; exact h2⟩
  have HL7 : Hid (Below w.heap.size w W7 ∧ w.heap.size < W7.heap.size) := by
    rw [hW7]; exact ⟨HL6.out.1.alloc HL6.out.1.size _, by have := HL6.out.2; simp; omega⟩
  rw [← hW7]
  clear HG6 HL6 hW7
  have hp := pairs_new W7 93 [(2, 400), (7, 700), (9, 0)] #[.int .u64 2, .int .u64 400, .int .u64 7, .int .u64 700, .int .u64 9, .int .u64 0] rfl
  have C := Lib.hid (rffrom_n f 20 [(2, 400), (7, 700), (9, 0)] 3 _ _ hp rfl (by omega) (by simp))
  rw [← HK7.out] at C
  clear hp
  go_wp2_with fail
  (with_reducible refine C.out.mono ?_)
  rintro e w1 ⟨rfl, rfl⟩
  clear C
  obtain ⟨W8, hW8⟩ : ∃ W, W = W7.alloc (.cells #[.int .u64 2, .int .u64 400, .int .u64 7, .int .u64 700, .int .u64 9, .int .u64 0] 93) := ⟨_, rfl⟩
  have HG8 : Hid (∃ cs, cs.size = 26 ∧ W8.heap[w.heap.size]? = some (.cells cs 26 (0, 0))) := by
    obtain ⟨cs, h1, h2⟩ := HG7.out
    exact ⟨cs, h1, by rw [hW8, Below.heap_alloc _ _ _ HL7.out.2]; exact h2⟩
  have HL8 : Hid (Below w.heap.size w W8 ∧ w.heap.size < W8.heap.size) := by
    rw [hW8]; exact ⟨HL7.out.1.alloc HL7.out.1.size _, by have := HL7.out.2; simp; omega⟩
  rw [← hW8]
  clear HG7 HL7 hW8
  have hp := pairs_new W8 93 [(2, 700), (9, 0)] #[.int .u64 2, .int .u64 700, .int .u64 9, .int .u64 0] rfl
  have C := Lib.hid (rffrom_n f 20 [(2, 700), (9, 0)] 2 _ _ hp rfl (by omega) (by simp))
  rw [← HK8.out] at C
  clear hp
  go_wp2_with fail
  (with_reducible refine C.out.mono ?_)
  rintro e w1 ⟨rfl, rfl⟩
  clear C
  obtain ⟨W9, hW9⟩ : ∃ W, W = W8.alloc (.cells #[.int .u64 2, .int .u64 700, .int .u64 9, .int .u64 0] 93) := ⟨_, rfl⟩
  have HG9 : Hid (∃ cs, cs.size = 26 ∧ W9.heap[w.heap.size]? = some (.cells cs 26 (0, 0))) := by
    obtain ⟨cs, h1, h2⟩ := HG8.out
    exact ⟨cs, h1, by rw [hW9, Below.heap_alloc _ _ _ HL8.out.2]; exact h2⟩
  have HL9 : Hid (Below w.heap.size w W9 ∧ w.heap.size < W9.heap.size) := by
    rw [hW9]; exact ⟨HL8.out.1.alloc HL8.out.1.size _, by have := HL8.out.2; simp; omega⟩
  rw [← hW9]
  clear HG8 HL8 hW9
  have hp := pairs_new W9 93 [(5, 400), (7, 700), (9, 0)] #[.int .u64 5, .int .u64 400, .int .u64 7, .int .u64 700, .int .u64 9, .int .u64 0] rfl
  have C := Lib.hid (rffrom_n f 0 [(5, 400), (7, 700), (9, 0)] 3 _ _ hp rfl (by omega) (by simp))
  rw [← HK9.out] at C
  clear hp
  go_wp2_with fail
  (with_reducible refine C.out.mono ?_)
  rintro e w1 ⟨rfl, rfl⟩
  clear C
  obtain ⟨W10, hW10⟩ : ∃ W, W = W9.alloc (.cells #[.int .u64 5, .int .u64 400, .int .u64 7, .int .u64 700, .int .u64 9, .int .u64 0] 93) := ⟨_, rfl⟩
  have HG10 : Hid (∃ cs, cs.size = 26 ∧ W10.heap[w.heap.size]? = some (.cells cs 26 (0, 0))) := by
    obtain ⟨cs, h1, h2⟩ := HG9.out
    exact ⟨cs, h1, by rw [hW10, Below.heap_alloc _ _ _ HL9.out.2]; exact h2⟩
  have HL10 : Hid (Below w.heap.size w W10 ∧ w.heap.size < W10.heap.size) := by
    rw [hW10]; exact ⟨HL9.out.1.alloc HL9.out.1.size _, by have := HL9.out.2; simp; omega⟩
  rw [← hW10]
  clear HG9 HL9 hW10
  have hp := pairs_new W10 93 [(2, 200), (7, 800), (9, 0)] #[.int .u64 2, .int .u64 200, .int .u64 7, .int .u64 800, .int .u64 9, .int .u64 0] rfl
  have C := Lib.hid (rffrom_n f 50 [(2, 200), (7, 800), (9, 0)] 3 _ _ hp rfl (by omega) (by simp))
  rw [← HK10.out] at C
  clear hp
  go_wp2_with fail
  (with_reducible refine C.out.mono ?_)
  rintro e w1 ⟨rfl, rfl⟩
  clear C
  obtain ⟨W11, hW11⟩ : ∃ W, W = W10.alloc (.cells #[.int .u64 2, .int .u64 200, .int .u64 7, .int .u64 800, .int .u64 9, .int .u64 0] 93) := ⟨_, rfl⟩
  have HG11 : Hid (∃ cs, cs.size = 26 ∧ W11.heap[w.heap.size]? = some (.cells cs 26 (0, 0))) := by
    obtain ⟨cs, h1, h2⟩ := HG10.out
    exact ⟨cs, h1, by rw [hW11, Below.heap_alloc _ _ _ HL10.out.2]; exact h2⟩
  have HL11 : Hid (Below w.heap.size w W11 ∧ w.heap.size < W11.heap.size) := by
    rw [hW11]; exact ⟨HL10.out.1.alloc HL10.out.1.size _, by have := HL10.out.2; simp; omega⟩
  rw [← hW11]
  clear HG10 HL10 hW11
  have hp := pairs_new W11 93 [(2, 700), (9, 0)] #[.int .u64 2, .int .u64 700, .int .u64 9, .int .u64 0] rfl
  have C := Lib.hid (rffrom_n f 40 [(2, 700), (9, 0)] 2 _ _ hp rfl (by omega) (by simp))
  rw [← HK11.out] at C
  clear hp
  go_wp2_with fail
  (with_reducible refine C.out.mono ?_)
  rintro e w1 ⟨rfl, rfl⟩
  clear C
  obtain ⟨W12, hW12⟩ : ∃ W, W = W11.alloc (.cells #[.int .u64 2, .int .u64 700, .int .u64 9, .int .u64 0] 93) := ⟨_, rfl⟩
  have HG12 : Hid (∃ cs, cs.size = 26 ∧ W12.heap[w.heap.size]? = some (.cells cs 26 (0, 0))) := by
    obtain ⟨cs, h1, h2⟩ := HG11.out
    exact ⟨cs, h1, by rw [hW12, Below.heap_alloc _ _ _ HL11.out.2]; exact h2⟩
  have HL12 : Hid (Below w.heap.size w W12 ∧ w.heap.size < W12.heap.size) := by
    rw [hW12]; exact ⟨HL11.out.1.alloc HL11.out.1.size _, by have := HL11.out.2; simp; omega⟩
  rw [← hW12]
  clear HG11 HL11 hW12
  have hp := pairs_new W12 93 [(9, 2600)] #[.int .u64 9, .int .u64 2600] rfl
  have C := Lib.hid (rffrom_n f 0 [(9, 2600)] 1 _ _ hp rfl (by omega) (by simp))
  rw [← HK12.out] at C
  clear hp
  go_wp2_with fail
  (with_reducible refine C.out.mono ?_)
  rintro e w1 ⟨rfl, rfl⟩
  clear C
  obtain ⟨W13, hW13⟩ : ∃ W, W = W12.alloc (.cells #[.int .u64 9, .int .u64 2600] 93) := ⟨_, rfl⟩
  have HG13 : Hid (∃ cs, cs.size = 26 ∧ W13.heap[w.heap.size]? = some (.cells cs 26 (0, 0))) := by
    obtain ⟨cs, h1, h2⟩ := HG12.out
    exact ⟨cs, h1, by rw [hW13, Below.heap_alloc _ _ _ HL12.out.2]; exact h2⟩
  have HL13 : Hid (Below w.heap.size w W13 ∧ w.heap.size < W13.heap.size) := by
    rw [hW13]; exact ⟨HL12.out.1.alloc HL12.out.1.size _, by have := HL12.out.2; simp; omega⟩
  rw [← hW13]
  clear HG12 HL12 hW13
  have hp := pairs_new W13 93 [(9, 2100)] #[.int .u64 9, .int .u64 2100] rfl
  have C := Lib.hid (rffrom_n f 0 [(9, 2100)] 1 _ _ hp rfl (by omega) (by simp))
  rw [← HK13.out] at C
  clear hp
  go_wp2_with fail
  (with_reducible refine C.out.mono ?_)
  rintro e w1 ⟨rfl, rfl⟩
  clear C
  obtain ⟨W14, hW14⟩ : ∃ W, W = W13.alloc (.cells #[.int .u64 9, .int .u64 2100] 93) := ⟨_, rfl⟩
  have HG14 : Hid (∃ cs, cs.size = 26 ∧ W14.heap[w.heap.size]? = some (.cells cs 26 (0, 0))) := by
    obtain ⟨cs, h1, h2⟩ := HG13.out
    exact ⟨cs, h1, by rw [hW14, Below.heap_alloc _ _ _ HL13.out.2]; exact h2⟩
  have HL14 : Hid (Below w.heap.size w W14 ∧ w.heap.size < W14.heap.size) := by
    rw [hW14]; exact ⟨HL13.out.1.alloc HL13.out.1.size _, by have := HL13.out.2; simp; omega⟩
  rw [← hW14]
  clear HG13 HL13 hW14
  have hp := pairs_new W14 93 [(9, 100)] #[.int .u64 9, .int .u64 100] rfl
  have C := Lib.hid (rffrom_n f 0 [(9, 100)] 1 _ _ hp rfl (by omega) (by simp))
  rw [← HK14.out] at C
  clear hp
  go_wp2_with fail
  (with_reducible refine C.out.mono ?_)
  rintro e w1 ⟨rfl, rfl⟩
  clear C
  obtain ⟨W15, hW15⟩ : ∃ W, W = W14.alloc (.cells #[.int .u64 9, .int .u64 100] 93) := ⟨_, rfl⟩
  have HG15 : Hid (∃ cs, cs.size = 26 ∧ W15.heap[w.heap.size]? = some (.cells cs 26 (0, 0))) := by
    obtain ⟨cs, h1, h2⟩ := HG14.out
    exact ⟨cs, h1, by rw [hW15, Below.heap_alloc _ _ _ HL14.out.2]; exact h2⟩
  have HL15 : Hid (Below w.heap.size w W15 ∧ w.heap.size < W15.heap.size) := by
    rw [hW15]; exact ⟨HL14.out.1.alloc HL14.out.1.size _, by have := HL14.out.2; simp; omega⟩
  rw [← hW15]
  clear HG14 HL14 hW15
  have hp := pairs_new W15 93 [(2, 5000)] #[.int .u64 2, .int .u64 5000] rfl
  have C := Lib.hid (rffrom_n f 0 [(2, 5000)] 1 _ _ hp rfl (by omega) (by simp))
  rw [← HK15.out] at C
  clear hp
  go_wp2_with fail
  (with_reducible refine C.out.mono ?_)
  rintro e w1 ⟨rfl, rfl⟩
  clear C
  obtain ⟨W16, hW16⟩ : ∃ W, W = W15.alloc (.cells #[.int .u64 2, .int .u64 5000] 93) := ⟨_, rfl⟩
  have HG16 : Hid (∃ cs, cs.size = 26 ∧ W16.heap[w.heap.size]? = some (.cells cs 26 (0, 0))) := by
    obtain ⟨cs, h1, h2⟩ := HG15.out
    exact ⟨cs, h1, by rw [hW16, Below.heap_alloc _ _ _ HL15.out.2]; exact h2⟩
  have HL16 : Hid (Below w.heap.size w W16 ∧ w.heap.size < W16.heap.size) := by
    rw [hW16]; exact ⟨HL15.out.1.alloc HL15.out.1.size _, by have := HL15.out.2; simp; omega⟩
  rw [← hW16]
  clear HG15 HL15 hW16
  have hp := pairs_new W16 93 [(2, 25000)] #[.int .u64 2, .int .u64 25000] rfl
  have C := Lib.hid (rffrom_n f 0 [(2, 25000)] 1 _ _ hp rfl (by omega) (by simp))
  rw [← HK16.out] at C
  clear hp
  go_wp2_with fail
  (with_reducible refine C.out.mono ?_)
  rintro e w1 ⟨rfl, rfl⟩
  clear C
  obtain ⟨W17, hW17⟩ : ∃ W, W = W16.alloc (.cells #[.int .u64 2, .int .u64 25000] 93) := ⟨_, rfl⟩
  have HG17 : Hid (∃ cs, cs.size = 26 ∧ W17.heap[w.heap.size]? = some (.cells cs 26 (0, 0))) := by
    obtain ⟨cs, h1, h2⟩ := HG16.out
    exact ⟨cs, h1, by rw [hW17, Below.heap_alloc _ _ _ HL16.out.2]; exact h2⟩
  have HL17 : Hid (Below w.heap.size w W17 ∧ w.heap.size < W17.heap.size) := by
    rw [hW17]; exact ⟨HL16.out.1.alloc HL16.out.1.size _, by have := HL16.out.2; simp; omega⟩
  rw [← hW17]
  clear HG16 HL16 hW17
  have hp := pairs_new W17 93 [(10, 0)] #[.int .u64 10, .int .u64 0] rfl
  have C := Lib.hid (rffrom_n f 24000 [(10, 0)] 1 _ _ hp rfl (by omega) (by simp))
  rw [← HK17.out] at C
  clear hp
  go_wp2_with fail
  (with_reducible refine C.out.mono ?_)
  rintro e w1 ⟨rfl, rfl⟩
  clear C
  obtain ⟨W18, hW18⟩ : ∃ W, W = W17.alloc (.cells #[.int .u64 10, .int .u64 0] 93) := ⟨_, rfl⟩
  have HG18 : Hid (∃ cs, cs.size = 26 ∧ W18.heap[w.heap.size]? = some (.cells cs 26 (0, 0))) := by
    obtain ⟨cs, h1, h2⟩ := HG17.out
    exact ⟨cs, h1, by rw [hW18, Below.heap_alloc _ _ _ HL17.out.2]; exact h2⟩
  have HL18 : Hid (Below w.heap.size w W18 ∧ w.heap.size < W18.heap.size) := by
    rw [hW18]; exact ⟨HL17.out.1.alloc HL17.out.1.size _, by have := HL17.out.2; simp; omega⟩
  rw [← hW18]
  clear HG17 HL17 hW18
  have hp := pairs_new W18 93 [(3, 50)] #[.int .u64 3, .int .u64 50] rfl
  have C := Lib.hid (rffrom_n f 10 [(3, 50)] 1 _ _ hp rfl (by omega) (by simp))
  rw [← HK18.out] at C
  clear hp
  go_wp2_with fail
  (with_reducible refine C.out.mono ?_)
  rintro e w1 ⟨rfl, rfl⟩
  clear C
  obtain ⟨W19, hW19⟩ : ∃ W, W = W18.alloc (.cells #[.int .u64 3, .int .u64 50] 93) := ⟨_, rfl⟩
  have HG19 : Hid (∃ cs, cs.size = 26 ∧ W19.heap[w.heap.size]? = some (.cells cs 26 (0, 0))) := by
    obtain ⟨cs, h1, h2⟩ := HG18.out
    exact ⟨cs, h1, by rw [hW19, Below.heap_alloc _ _ _ HL18.out.2]; exact h2⟩
  have HL19 : Hid (Below w.heap.size w W19 ∧ w.heap.size < W19.heap.size) := by
    rw [hW19]; exact ⟨HL18.out.1.alloc HL18.out.1.size _, by have := HL18.out.2; simp; omega⟩
  rw [← hW19]
  clear HG18 HL18 hW19
  have hp := pairs_new W19 93 [(10, 4800)] #[.int .u64 10, .int .u64 4800] rfl
  have C := Lib.hid (rffrom_n f 15000 [(10, 4800)] 1 _ _ hp rfl (by omega) (by simp))
  rw [← HK19.out] at C
  clear hp
  go_wp2_with fail
  (with_reducible refine C.out.mono ?_)
  rintro e w1 ⟨rfl, rfl⟩
  clear C
  obtain ⟨W20, hW20⟩ : ∃ W, W = W19.alloc (.cells #[.int .u64 10, .int .u64 4800] 93) := ⟨_, rfl⟩
  have HG20 : Hid (∃ cs, cs.size = 26 ∧ W20.heap[w.heap.size]? = some (.cells cs 26 (0, 0))) := by
    obtain ⟨cs, h1, h2⟩ := HG19.out
    exact ⟨cs, h1, by rw [hW20, Below.heap_alloc _ _ _ HL19.out.2]; exact h2⟩
  have HL20 : Hid (Below w.heap.size w W20 ∧ w.heap.size < W20.heap.size) := by
    rw [hW20]; exact ⟨HL19.out.1.alloc HL19.out.1.size _, by have := HL19.out.2; simp; omega⟩
  rw [← hW20]
  clear HG19 HL19 hW20
  have hp := pairs_new W20 93 [(10, 5)] #[.int .u64 10, .int .u64 5] rfl
  have C := Lib.hid (rffrom_n f 2 [(10, 5)] 1 _ _ hp rfl (by omega) (by simp))
  rw [← HK20.out] at C
  clear hp
  go_wp2_with fail
  (with_reducible refine C.out.mono ?_)
  rintro e w1 ⟨rfl, rfl⟩
  clear C
  obtain ⟨W21, hW21⟩ : ∃ W, W = W20.alloc (.cells #[.int .u64 10, .int .u64 5] 93) := ⟨_, rfl⟩
  have HG21 : Hid (∃ cs, cs.size = 26 ∧ W21.heap[w.heap.size]? = some (.cells cs 26 (0, 0))) := by
    obtain ⟨cs, h1, h2⟩ := HG20.out
    exact ⟨cs, h1, by rw [hW21, Below.heap_alloc _ _ _ HL20.out.2]; exact h2⟩
  have HL21 : Hid (Below w.heap.size w W21 ∧ w.heap.size < W21.heap.size) := by
    rw [hW21]; exact ⟨HL20.out.1.alloc HL20.out.1.size _, by have := HL20.out.2; simp; omega⟩
  rw [← hW21]
  clear HG20 HL20 hW21
  have hp := pairs_new W21 93 [(4, 3000000000000000000), (5, 2000000000000000000), (13, 0)] #[.int .u64 4, .int .u64 3000000000000000000, .int .u64 5, .int .u64 2000000000000000000, .int .u64 13, .int .u64 0] rfl
  have C := Lib.hid (rffrom_n f 5000000000000000000 [(4, 3000000000000000000), (5, 2000000000000000000), (13, 0)] 3 _ _ hp rfl (by omega) (by simp))
  rw [← HK21.out] at C
  clear hp
  go_wp2_with fail
  (with_reducible refine C.out.mono ?_)
  rintro e w1 ⟨rfl, rfl⟩
  clear C
  obtain ⟨W22, hW22⟩ : ∃ W, W = W21.alloc (.cells #[.int .u64 4, .int .u64 3000000000000000000, .int .u64 5, .int .u64 2000000000000000000, .int .u64 13, .int .u64 0] 93) := ⟨_, rfl⟩
  have HG22 : Hid (∃ cs, cs.size = 26 ∧ W22.heap[w.heap.size]? = some (.cells cs 26 (0, 0))) := by
    obtain ⟨cs, h1, h2⟩ := HG21.out
    exact ⟨cs, h1, by rw [hW22, Below.heap_alloc _ _ _ HL21.out.2]; exact h2⟩
  have HL22 : Hid (Below w.heap.size w W22 ∧ w.heap.size < W22.heap.size) := by
    rw [hW22]; exact ⟨HL21.out.1.alloc HL21.out.1.size _, by have := HL21.out.2; simp; omega⟩
  rw [← hW22]
  clear HG21 HL21 hW22
  have hp := pairs_new W22 93 [(4, 3000000), (5, 5000000), (8, 9000000), (10, 9700000), (11, 10700000), (12, 11400000), (13, 0)] #[.int .u64 4, .int .u64 3000000, .int .u64 5, .int .u64 5000000, .int .u64 8, .int .u64 9000000, .int .u64 10, .int .u64 9700000, .int .u64 11, .int .u64 10700000, .int .u64 12, .int .u64 11400000, .int .u64 13, .int .u64 0] rfl
  have C := Lib.hid (rffrom_n f 0 [(4, 3000000), (5, 5000000), (8, 9000000), (10, 9700000), (11, 10700000), (12, 11400000), (13, 0)] 7 _ _ hp rfl (by omega) (by simp))
  rw [← HK22.out] at C
  clear hp
  go_wp2_with fail
  rename_i KK hKK
  (with_reducible refine C.out.mono ?_)
  rintro e w1 ⟨rfl, rfl⟩
  clear C
  obtain ⟨W23, hW23⟩ : ∃ W, W = W22.alloc (.cells #[.int .u64 4, .int .u64 3000000, .int .u64 5, .int .u64 5000000, .int .u64 8, .int .u64 9000000, .int .u64 10, .int .u64 9700000, .int .u64 11, .int .u64 10700000, .int .u64 12, .int .u64 11400000, .int .u64 13, .int .u64 0] 93) := ⟨_, rfl⟩
  have HG23 : Hid (∃ cs, cs.size = 26 ∧ W23.heap[w.heap.size]? = some (.cells cs 26 (0, 0))) := by
    obtain ⟨cs, h1, h2⟩ := HG22.out
    exact ⟨cs, h1, by rw [hW23, Below.heap_alloc _ _ _ HL22.out.2]; exact h2⟩
  have HL23 : Hid (Below w.heap.size w W23 ∧ w.heap.size < W23.heap.size) := by
    rw [hW23]; exact ⟨HL22.out.1.alloc HL22.out.1.size _, by have := HL22.out.2; simp; omega⟩
  rw [← hW23]
  clear HG22 HL22 hW23
  have hR : RulesC f = #[.int .i64 f, .int .u64 21000, .int .u64 k0, .int .u64 4, .int .u64 k1, .int .u64 k2, .int .u64 k3, .int .u64 k4, .int .i64 k5, .int .i64 k6, .int .u64 k7, .int .u64 k8, .int .u64 k9, .int .u64 k10, .int .u64 k11, .int .u64 k12, .int .u64 k13, .int .u64 k14, .int .u64 k15, .int .u64 k16, .int .u64 k17, .int .u64 k18, .int .u64 k19, .int .u64 k20, .int .u64 k21, .int .u64 k22] := by
    unfold RulesC
    rw [← HK0.out, ← HK1.out, ← HK2.out, ← HK3.out, ← HK4.out, ← HK5.out, ← HK6.out, ← HK7.out, ← HK8.out, ← HK9.out, ← HK10.out, ← HK11.out, ← HK12.out, ← HK13.out, ← HK14.out, ← HK15.out, ← HK16.out, ← HK17.out, ← HK18.out, ← HK19.out, ← HK20.out, ← HK21.out, ← HK22.out]
  show KK _ _
  refine hKK _ _ ?_
  clear hKK KK
  refine wpList_buildTo rfl 26 _ rfl (some 122) rfl #[.int .i64 f, .int .u64 21000, .int .u64 k0, .int .u64 4, .int .u64 k1, .int .u64 k2, .int .u64 k3, .int .u64 k4, .int .i64 k5, .int .i64 k6, .int .u64 k7, .int .u64 k8, .int .u64 k9, .int .u64 k10, .int .u64 k11, .int .u64 k12, .int .u64 k13, .int .u64 k14, .int .u64 k15, .int .u64 k16, .int .u64 k17, .int .u64 k18, .int .u64 k19, .int .u64 k20, .int .u64 k21, .int .u64 k22] (Eq.trans (b := Program.built Try.prog 26 [(0, .int .i64 f), (1, .int .u64 21000), (3, .int .u64 4), (2, .int .u64 k0), (4, .int .u64 k1), (5, .int .u64 k2), (6, .int .u64 k3), (7, .int .u64 k4), (8, .int .i64 k5), (9, .int .i64 k6), (10, .int .u64 k7), (11, .int .u64 k8), (12, .int .u64 k9), (13, .int .u64 k10), (14, .int .u64 k11), (15, .int .u64 k12), (16, .int .u64 k13), (17, .int .u64 k14), (18, .int .u64 k15), (19, .int .u64 k16), (20, .int .u64 k17), (21, .int .u64 k18), (22, .int .u64 k19), (23, .int .u64 k20), (24, .int .u64 k21), (25, .int .u64 k22)]) (congrArg (Program.built Try.prog 26) (by kernel_rfl)) (builtRules f k0 k1 k2 k3 k4 k5 k6 k7 k8 k9 k10 k11 k12 k13 k14 k15 k16 k17 k18 k19 k20 k21 k22)) ?_
  obtain ⟨cs, hcs, hg⟩ := HG23.out
  refine wpList_store_row rfl 26 (.tmp 2) (.tmp 122) rfl w.heap.size #[.int .i64 f, .int .u64 21000, .int .u64 k0, .int .u64 4, .int .u64 k1, .int .u64 k2, .int .u64 k3, .int .u64 k4, .int .i64 k5, .int .i64 k6, .int .u64 k7, .int .u64 k8, .int .u64 k9, .int .u64 k10, .int .u64 k11, .int .u64 k12, .int .u64 k13, .int .u64 k14, .int .u64 k15, .int .u64 k16, .int .u64 k17, .int .u64 k18, .int .u64 k19, .int .u64 k20, .int .u64 k21, .int .u64 k22] rfl rfl 26 cs hg infoRules (by rw [hcs]; rfl) (by simp [Value.oneCell']) ?_
  have hg2 := setRow_heap W23 w.heap.size _ #[.int .i64 f, .int .u64 21000, .int .u64 k0, .int .u64 4, .int .u64 k1, .int .u64 k2, .int .u64 k3, .int .u64 k4, .int .i64 k5, .int .i64 k6, .int .u64 k7, .int .u64 k8, .int .u64 k9, .int .u64 k10, .int .u64 k11, .int .u64 k12, .int .u64 k13, .int .u64 k14, .int .u64 k15, .int .u64 k16, .int .u64 k17, .int .u64 k18, .int .u64 k19, .int .u64 k20, .int .u64 k21, .int .u64 k22] 26 (0, 0) hg
  have hb2 := below_setRow HL23.out.1 (Nat.le_refl w.heap.size) #[.int .i64 f, .int .u64 21000, .int .u64 k0, .int .u64 4, .int .u64 k1, .int .u64 k2, .int .u64 k3, .int .u64 k4, .int .i64 k5, .int .i64 k6, .int .u64 k7, .int .u64 k8, .int .u64 k9, .int .u64 k10, .int .u64 k11, .int .u64 k12, .int .u64 k13, .int .u64 k14, .int .u64 k15, .int .u64 k16, .int .u64 k17, .int .u64 k18, .int .u64 k19, .int .u64 k20, .int .u64 k21, .int .u64 k22]
  generalize W23.setRow w.heap.size #[.int .i64 f, .int .u64 21000, .int .u64 k0, .int .u64 4, .int .u64 k1, .int .u64 k2, .int .u64 k3, .int .u64 k4, .int .i64 k5, .int .i64 k6, .int .u64 k7, .int .u64 k8, .int .u64 k9, .int .u64 k10, .int .u64 k11, .int .u64 k12, .int .u64 k13, .int .u64 k14, .int .u64 k15, .int .u64 k16, .int .u64 k17, .int .u64 k18, .int .u64 k19, .int .u64 k20, .int .u64 k21, .int .u64 k22] = Y at *
  have HG2 := Lib.hid hg2
  clear hg hg2
  refine wpList_plain rfl fun K hK => ?_; go_simp; refine hK _ _ ?_; clear hK K
  refine wpList_nil ?_
  go_simp
  go_wp2_with fail
  have hg3 := HG2.out
  rw [← hR] at hg3
  have hsz : (Try.prog.info? 26).map (·.size) = some (RulesC f).size := by rw [hR]; exact infoRules
  refine bodyPost_ret (v := .tuple #[RulesV f, .bool true]) (results_row_slot Try.results32 _ _ rfl (run_loadVar_row Y _ _ _ (RulesC f) (0, 0) _ hg3 Try.underlying26 rfl hsz) rfl) rfl ⟨rfl, hb2⟩
end Go.Proofs.Ytiflfcdegpmhnaa
