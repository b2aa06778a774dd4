/- Package gas: fixed, Base. (Written by wip/gengcbase.py.) -/
import Derived.Test.YtiflfcdegpmhnaaGsOps
import Derived.Test.YtiflfcdegpmhnaaFoOp
namespace Go.Proofs.Ytiflfcdegpmhnaa
open Go.RowKit

/-- What an operation takes that takes the same wherever it is there. -/
def fixZ (op : Int) : Int :=
  if op = 91 then 1 else
  if op = 48 ∨ op = 50 ∨ op = 51 ∨ op = 52 ∨ op = 54 ∨ op = 56 ∨ op = 58 ∨ op = 61 ∨ op = 65 ∨ op = 66 ∨ op = 67 ∨ op = 68 ∨ op = 69 ∨ op = 70 ∨ op = 72 ∨ op = 74 ∨ op = 80 ∨ op = 88 ∨ op = 89 ∨ op = 90 ∨ op = 95 then 2 else
  if op = 1 ∨ op = 3 ∨ op = 16 ∨ op = 17 ∨ op = 18 ∨ op = 19 ∨ op = 20 ∨ op = 21 ∨ op = 22 ∨ op = 23 ∨ op = 24 ∨ op = 25 ∨ op = 26 ∨ op = 27 ∨ op = 28 ∨ op = 29 ∨ op = 53 ∨ op = 55 ∨ op = 57 ∨ op = 62 ∨ op = 73 ∨ op = 81 ∨ op = 82 ∨ op = 83 ∨ op = 94 then 3 else
  if op = 2 ∨ op = 4 ∨ op = 5 ∨ op = 6 ∨ op = 7 ∨ op = 11 ∨ op = 71 then 5 else
  if op = 8 ∨ op = 9 ∨ op = 86 then 8 else
  if op = 10 ∨ op = 87 then 10 else
  if op = 64 then 20 else
  if op = 32 then 30 else
  if op = 92 ∨ op = 93 then 100 else
  if op = 160 ∨ op = 161 ∨ op = 162 ∨ op = 163 ∨ op = 164 then 375 else
  if op = 240 ∨ op = 245 then 32000 else
  if 96 ≤ op ∧ op ≤ 159 then 3 else 0
/-- What an operation takes that is there. -/
def ownB (k : Nat → Int) (op : Int) : Int :=
  if op = 49 then k 10 else
  if op = 59 ∨ op = 60 then k 11 else
  if op = 63 then k 12 else
  if op = 84 then k 13 else
  if op = 241 ∨ op = 242 ∨ op = 244 ∨ op = 250 then k 14 else
  if op = 255 then k 18 else
  fixZ op

set_option maxRecDepth 100000 in
set_option maxHeartbeats 12800000 in
theorem fixed_c (op : Int) (w : World) : Calls Try.prog 40 #[.int .i64 op] w fun e w' => e = .returned (.int .u64 (fixZ op)) ∧ w' = w := by
  go_enter Try.func40, Try.ntmps40
  go_wp2_with fail
  all_goals go_ret
  all_goals first
    | (rename_i hh; obtain rfl := eq_of_beq hh; exact ⟨rfl, rfl⟩)
    | (refine ⟨?_, rfl⟩; simp only [beq_eq_false_iff_ne, ne_eq] at *; refine congrArg (fun z => Ending.returned (.int .u64 z)) (?_ : (3 : Int) = fixZ op); simp [fixZ, *]; done)
    | (refine ⟨?_, rfl⟩; simp only [beq_eq_false_iff_ne, ne_eq] at *; refine congrArg (fun z => Ending.returned (.int .u64 z)) (?_ : (0 : Int) = fixZ op); simp [fixZ, *] <;> omega)

/-- The document's table, behind the question whether the operation is there. -/
def tabZ (k : Nat → Int) (op : Int) : Int :=
  if inZ op [(48, 48), (50, 52), (54, 54), (56, 56), (58, 58), (61, 61), (65, 70), (72, 72), (74, 74), (80, 80), (88, 90), (95, 95)] = true then 2 else
  if inZ op [(1, 1), (3, 3), (16, 29), (53, 53), (55, 55), (57, 57), (62, 62), (73, 73), (81, 83), (94, 94), (96, 159)] = true then 3 else
  if inZ op [(2, 2), (4, 7), (11, 11), (71, 71)] = true then 5 else
  if inZ op [(8, 9), (86, 86)] = true then 8 else
  if inZ op [(10, 10), (87, 87)] = true then 10 else
  if op = 32 then 30 else
  if op = 64 then 20 else
  if op = 91 then 1 else
  if op = 92 ∨ op = 93 then 100 else
  if inZ op [(160, 164)] = true then 375 else
  if op = 49 then k 10 else
  if op = 59 ∨ op = 60 then k 11 else
  if op = 63 then k 12 else
  if op = 84 then k 13 else
  if inZ op [(241, 242), (244, 244), (250, 250)] = true then k 14 else
  if op = 255 then k 18 else
  if op = 240 ∨ op = 245 then 32000 else 0
/-- The same in symbols: a rule by its place, or a number. -/
def evS (k : Nat → Int) (s : Bool × Nat) : Int := if s.1 = true then k s.2 else (s.2 : Nat)
def tabS (op : Int) : Bool × Nat :=
  if inZ op [(48, 48), (50, 52), (54, 54), (56, 56), (58, 58), (61, 61), (65, 70), (72, 72), (74, 74), (80, 80), (88, 90), (95, 95)] = true then (false, 2) else
  if inZ op [(1, 1), (3, 3), (16, 29), (53, 53), (55, 55), (57, 57), (62, 62), (73, 73), (81, 83), (94, 94), (96, 159)] = true then (false, 3) else
  if inZ op [(2, 2), (4, 7), (11, 11), (71, 71)] = true then (false, 5) else
  if inZ op [(8, 9), (86, 86)] = true then (false, 8) else
  if inZ op [(10, 10), (87, 87)] = true then (false, 10) else
  if op = 32 then (false, 30) else
  if op = 64 then (false, 20) else
  if op = 91 then (false, 1) else
  if op = 92 ∨ op = 93 then (false, 100) else
  if inZ op [(160, 164)] = true then (false, 375) else
  if op = 49 then (true, 10) else
  if op = 59 ∨ op = 60 then (true, 11) else
  if op = 63 then (true, 12) else
  if op = 84 then (true, 13) else
  if inZ op [(241, 242), (244, 244), (250, 250)] = true then (true, 14) else
  if op = 255 then (true, 18) else
  if op = 240 ∨ op = 245 then (false, 32000) else (false, 0)
def ownS (op : Int) : Bool × Nat :=
  if op = 49 then (true, 10) else
  if op = 59 ∨ op = 60 then (true, 11) else
  if op = 63 then (true, 12) else
  if op = 84 then (true, 13) else
  if op = 241 ∨ op = 242 ∨ op = 244 ∨ op = 250 then (true, 14) else
  if op = 255 then (true, 18) else
  if op = 91 then (false, 1) else
  if op = 48 ∨ op = 50 ∨ op = 51 ∨ op = 52 ∨ op = 54 ∨ op = 56 ∨ op = 58 ∨ op = 61 ∨ op = 65 ∨ op = 66 ∨ op = 67 ∨ op = 68 ∨ op = 69 ∨ op = 70 ∨ op = 72 ∨ op = 74 ∨ op = 80 ∨ op = 88 ∨ op = 89 ∨ op = 90 ∨ op = 95 then (false, 2) else
  if op = 1 ∨ op = 3 ∨ op = 16 ∨ op = 17 ∨ op = 18 ∨ op = 19 ∨ op = 20 ∨ op = 21 ∨ op = 22 ∨ op = 23 ∨ op = 24 ∨ op = 25 ∨ op = 26 ∨ op = 27 ∨ op = 28 ∨ op = 29 ∨ op = 53 ∨ op = 55 ∨ op = 57 ∨ op = 62 ∨ op = 73 ∨ op = 81 ∨ op = 82 ∨ op = 83 ∨ op = 94 then (false, 3) else
  if op = 2 ∨ op = 4 ∨ op = 5 ∨ op = 6 ∨ op = 7 ∨ op = 11 ∨ op = 71 then (false, 5) else
  if op = 8 ∨ op = 9 ∨ op = 86 then (false, 8) else
  if op = 10 ∨ op = 87 then (false, 10) else
  if op = 64 then (false, 20) else
  if op = 32 then (false, 30) else
  if op = 92 ∨ op = 93 then (false, 100) else
  if op = 160 ∨ op = 161 ∨ op = 162 ∨ op = 163 ∨ op = 164 then (false, 375) else
  if op = 240 ∨ op = 245 then (false, 32000) else
  if 96 ≤ op ∧ op ≤ 159 then (false, 3) else (false, 0)
theorem base_tab (f op : Int) (k : Nat → Int) : baseZ f k op = if opZ f op = false then 0 else tabZ k op := rfl
theorem tab_S (k : Nat → Int) (op : Int) : tabZ k op = evS k (tabS op) := by
  unfold tabZ tabS
  simp only [apply_ite (evS k)]
  rfl
theorem own_S (k : Nat → Int) (op : Int) : ownB k op = evS k (ownS op) := by
  unfold ownB ownS fixZ
  simp only [apply_ite (evS k)]
  rfl
theorem tab_own : ∀ n : Fin 256, tabS (n.val : Nat) = ownS (n.val : Nat) := by decide +kernel
theorem op_there {f op : Int} (h : opZ f op = true) : 0 ≤ op ∧ op ≤ 255 := by
  unfold opZ at h
  have h1 := of_decide_eq_true h
  have h2 : opFirst op ≤ 15 := by omega
  unfold opFirst at h2
  (repeat' split at h2) <;> omega
theorem base_own (f op : Int) (k : Nat → Int) : baseZ f k op = if opZ f op = false then 0 else ownB k op := by
  rw [base_tab]
  by_cases ho : opZ f op = false
  · rw [if_pos ho, if_pos ho]
  · rw [if_neg ho, if_neg ho, tab_S, own_S]
    obtain ⟨h0, h1⟩ := op_there (f := f) (by simpa using ho)
    have h := tab_own ⟨op.toNat, by omega⟩
    simp only [Int.toNat_of_nonneg h0] at h
    rw [h]

set_option maxRecDepth 100000 in
set_option maxHeartbeats 12800000 in
theorem pbase_c (f op : Int) (k : Nat → Int) (w : World) : Calls Try.prog 15 #[.agg (RulesK f k), .int .i64 op] w (RetV (.int .u64 (baseZ f k op)) w) := by
  obtain ⟨z, hz⟩ : ∃ z, z = baseZ f k op := ⟨_, rfl⟩
  rw [← hz]
  rw [base_own] at hz
  obtain ⟨X, hX⟩ : ∃ X, X = w.alloc (.cells (RulesK f k) 26) := ⟨_, rfl⟩
  have hR : RulesAt X w.heap.size f k := by rw [hX]; exact RulesAt.new w f k
  have HB : Hid (Below w.heap.size w X) := by rw [hX]; exact (Below.refl _ _).alloc (Nat.le_refl _) _
  have r0 := hR.fork
  have c10 : X.cell? ⟨w.heap.size, 10, none⟩ = some (.int .u64 (k 10)) := by rw [cell_of_row _ _ 10 _ _ (0, 0) hR]; rfl
  have c11 : X.cell? ⟨w.heap.size, 11, none⟩ = some (.int .u64 (k 11)) := by rw [cell_of_row _ _ 11 _ _ (0, 0) hR]; rfl
  have c12 : X.cell? ⟨w.heap.size, 12, none⟩ = some (.int .u64 (k 12)) := by rw [cell_of_row _ _ 12 _ _ (0, 0) hR]; rfl
  have c13 : X.cell? ⟨w.heap.size, 13, none⟩ = some (.int .u64 (k 13)) := by rw [cell_of_row _ _ 13 _ _ (0, 0) hR]; rfl
  have c14 : X.cell? ⟨w.heap.size, 14, none⟩ = some (.int .u64 (k 14)) := by rw [cell_of_row _ _ 14 _ _ (0, 0) hR]; rfl
  have c18 : X.cell? ⟨w.heap.size, 18, none⟩ = some (.int .u64 (k 18)) := by rw [cell_of_row _ _ 18 _ _ (0, 0) hR]; rfl
  have HX := Lib.hid hX
  have C := Lib.hid (fun w => foop_c f op w)
  have CF := Lib.hid (fun w => fixed_c op w)
  have HZ := Lib.hid hz
  clear hX hR hz
  go_enter Try.func15, Try.ntmps15
  go_upto_region 1 with (fail)
  rw [show w.alloc (.cells (RulesK f k) 26) = X from HX.out.symm]
  clear HX
  go_wp2_with fail
  (with_reducible refine (C.out _).mono ?_)
  rintro e w1 ⟨rfl, hw1⟩
  rw [hw1]
  clear hw1 w1 C
  cases ho : opZ f op with
  | false =>
    have hz := HZ.out
    rw [if_pos ho] at hz
    go_wp2_with fail
    go_ret
    exact ⟨by rw [hz]; rfl, HB.out⟩
  | true =>
  have hz := HZ.out
  rw [if_neg (by rw [ho]; simp)] at hz
  replace HZ := Lib.hid hz
  clear hz ho
  go_wp2_with fail
  all_goals first
    | (go_ret; rename_i hh; obtain rfl := eq_of_beq hh; exact ⟨by rw [HZ.out]; rfl, HB.out⟩)
    | skip
  (with_reducible refine (CF.out _).mono ?_)
  rintro e w1 ⟨rfl, hw1⟩
  rw [hw1]
  clear hw1 w1 CF
  have hz : z = fixZ op := by
    rw [HZ.out]
    simp only [beq_eq_false_iff_ne, ne_eq] at *
    simp [ownB, *]
  have HY := Lib.hid hz
  clear hz
  go_wp2_with fail
  go_ret
  exact ⟨by rw [HY.out]; rfl, HB.out⟩
end Go.Proofs.Ytiflfcdegpmhnaa
