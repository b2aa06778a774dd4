/- Package quarryref17: Base. (Written by wip/gengsbase.py.) -/
import Derived.Test.YtiflfcdegpmhnaaGsIn
namespace Go.Proofs.Ytiflfcdegpmhnaa
open Go.RowKit

/-- A fork's numbers, by their places. -/
def RulesK (f : Int) (k : Nat → Int) : Array Value := #[.int .i64 f, .int .u64 (k 1), .int .u64 (k 2), .int .u64 (k 3), .int .u64 (k 4), .int .u64 (k 5), .int .u64 (k 6), .int .u64 (k 7), .int .i64 (k 8), .int .i64 (k 9), .int .u64 (k 10), .int .u64 (k 11), .int .u64 (k 12), .int .u64 (k 13), .int .u64 (k 14), .int .u64 (k 15), .int .u64 (k 16), .int .u64 (k 17), .int .u64 (k 18), .int .u64 (k 19), .int .u64 (k 20), .int .u64 (k 21), .int .u64 (k 22), .int .u64 (k 23), .int .u64 (k 24), .int .u64 (k 25)]
/-- What Of tells of a fork, place by place. -/
def kf (f : Int) : Nat → Int
  | 1 => 21000 | 2 => fromZ f 0 [(1, 32000)] | 3 => 4 | 4 => fromZ f 68 [(7, 16)] | 5 => fromZ f 0 [(9, 2400)] | 6 => fromZ f 0 [(9, 1900)] | 7 => fromZ f 0 [(14, 2)]
  | 8 => fromZ f 0 [(14, 49152)] | 9 => fromZ f 0 [(3, 24576)] | 10 => fromZ f 20 [(2, 400), (7, 700), (9, 0)] | 11 => fromZ f 20 [(2, 700), (9, 0)] | 12 => fromZ f 0 [(5, 400), (7, 700), (9, 0)]
  | 13 => fromZ f 50 [(2, 200), (7, 800), (9, 0)] | 14 => fromZ f 40 [(2, 700), (9, 0)] | 15 => fromZ f 0 [(9, 2600)] | 16 => fromZ f 0 [(9, 2100)] | 17 => fromZ f 0 [(9, 100)]
  | 18 => fromZ f 0 [(2, 5000)] | 19 => fromZ f 0 [(2, 25000)] | 20 => fromZ f 24000 [(10, 0)] | 21 => fromZ f 10 [(3, 50)] | 22 => fromZ f 15000 [(10, 4800)] | 23 => fromZ f 2 [(10, 5)]
  | 24 => fromZ f 5000000000000000000 [(4, 3000000000000000000), (5, 2000000000000000000), (13, 0)]
  | _ => fromZ f 0 [(4, 3000000), (5, 5000000), (8, 9000000), (10, 9700000), (11, 10700000), (12, 11400000), (13, 0)]
theorem rulesK (f : Int) : RulesC f = RulesK f (kf f) := rfl
theorem spans_new (w : World) (t : TypeId) (l : List (Int × Int)) (cs : Array Value) (h : cs.toList = l.flatMap fun p => [.int .i64 p.1, .int .i64 p.2]) : SpansAt (w.alloc (.cells cs t)) w.heap.size l := by
  have hg : ∀ (l : List (Int × Int)) (i : Nat) (p : Int × Int), l[i]? = some p → (l.flatMap fun p => [Value.int .i64 p.1, Value.int .i64 p.2])[i * 2]? = some (.int .i64 p.1) ∧ (l.flatMap fun p => [Value.int .i64 p.1, Value.int .i64 p.2])[i * 2 + 1]? = some (.int .i64 p.2) := by
    intro l
    induction l with
    | nil => intro i p h; simp at h
    | cons x r ih =>
      intro i p h
      cases i with
      | zero => simp at h; subst h; exact ⟨rfl, rfl⟩
      | succ i =>
        have := ih i p (by simpa using h)
        rw [show (i + 1) * 2 = i * 2 + 1 + 1 by omega]
        simpa using this
  intro i p hp
  obtain ⟨h0, h1⟩ := hg l i p hp
  rw [← h, Array.getElem?_toList] at h0 h1
  exact ⟨by rw [cell_of_row _ _ (i * 2) _ t (0, 0) (heap_alloc_new w _)]; exact h0, by rw [cell_of_row _ _ (i * 2 + 1) _ t (0, 0) (heap_alloc_new w _)]; exact h1⟩
/-- What an operation takes in any case, by the document's table. -/
def baseZ (f : Int) (k : Nat → Int) (op : Int) : Int :=
  if opZ f op = false then 0 else
  if inZ op [(48, 48), (50, 52), (54, 54), (56, 56), (58, 58), (61, 61), (65, 70), (72, 72), (74, 74), (80, 80), (88, 90), (95, 95)] = true then 2 else
  if inZ op [(1, 1), (3, 3), (16, 29), (53, 53), (55, 55), (57, 57), (62, 62), (73, 73), (81, 83), (94, 94), (96, 159)] = true then 3 else
  if inZ op [(2, 2), (4, 7), (11, 11), (71, 71)] = true then 5 else
  if inZ op [(8, 9), (86, 86)] = true then 8 else
  if inZ op [(10, 10), (87, 87)] = true then 10 else
  if op = 32 then 30 else
  if op = 64 then 20 else
  if op = 91 then 1 else
  if op = 92 ∨ op = 93 then 100 else
  if inZ op [(160, 164)] = true then 375 else
  if op = 49 then k 10 else
  if op = 59 ∨ op = 60 then k 11 else
  if op = 63 then k 12 else
  if op = 84 then k 13 else
  if inZ op [(241, 242), (244, 244), (250, 250)] = true then k 14 else
  if op = 255 then k 18 else
  if op = 240 ∨ op = 245 then 32000 else
  0

set_option maxRecDepth 100000 in
set_option maxHeartbeats 12800000 in
theorem rbase_c (f op : Int) (k : Nat → Int) (w : World) : Calls Try.prog 16 #[.agg (RulesK f k), .int .i64 op] w (RetV (.int .u64 (baseZ f k op)) w) := by
  obtain ⟨z, hz⟩ : ∃ z, z = baseZ f k op := ⟨_, rfl⟩
  rw [← hz]
  unfold RulesK
  unfold baseZ at hz
  have HZ := Lib.hid hz
  clear hz
  obtain ⟨X, hX⟩ : ∃ X, X = w.alloc (.cells #[.int .i64 f, .int .u64 (k 1), .int .u64 (k 2), .int .u64 (k 3), .int .u64 (k 4), .int .u64 (k 5), .int .u64 (k 6), .int .u64 (k 7), .int .i64 (k 8), .int .i64 (k 9), .int .u64 (k 10), .int .u64 (k 11), .int .u64 (k 12), .int .u64 (k 13), .int .u64 (k 14), .int .u64 (k 15), .int .u64 (k 16), .int .u64 (k 17), .int .u64 (k 18), .int .u64 (k 19), .int .u64 (k 20), .int .u64 (k 21), .int .u64 (k 22), .int .u64 (k 23), .int .u64 (k 24), .int .u64 (k 25)] 26) := ⟨_, rfl⟩
  have HG : Hid (X.heap[w.heap.size]? = some (.cells #[.int .i64 f, .int .u64 (k 1), .int .u64 (k 2), .int .u64 (k 3), .int .u64 (k 4), .int .u64 (k 5), .int .u64 (k 6), .int .u64 (k 7), .int .i64 (k 8), .int .i64 (k 9), .int .u64 (k 10), .int .u64 (k 11), .int .u64 (k 12), .int .u64 (k 13), .int .u64 (k 14), .int .u64 (k 15), .int .u64 (k 16), .int .u64 (k 17), .int .u64 (k 18), .int .u64 (k 19), .int .u64 (k 20), .int .u64 (k 21), .int .u64 (k 22), .int .u64 (k 23), .int .u64 (k 24), .int .u64 (k 25)] 26 (0, 0))) := by rw [hX]; exact heap_alloc_new w _
  have HL : Hid (Below w.heap.size w X ∧ w.heap.size < X.heap.size) := by rw [hX]; exact ⟨(Below.refl _ _).alloc (Nat.le_refl _) _, by simp⟩
  go_enter Try.func16, Try.ntmps16
  have C := Lib.hid (fun w => rop_c f op w)
  go_wp2_with fail
  rw [← hX]
  (with_reducible refine (C.out _).mono ?_)
  rintro e w1 ⟨rfl, hw1⟩
  rw [hw1]
  clear hw1 w1
  clear hX C
  cases ho : opZ f op with
  | false =>
    have hz := HZ.out
    rw [if_pos ho] at hz
    go_wp2_with fail
    go_ret
    exact ⟨by rw [hz]; rfl, HL.out.1⟩
  | true =>
  have hz := HZ.out
  rw [if_neg (by rw [ho]; simp)] at hz
  replace HZ := Lib.hid hz
  clear hz ho
  have hp := spans_new X 3 [(48, 48), (50, 52), (54, 54), (56, 56), (58, 58), (61, 61), (65, 70), (72, 72), (74, 74), (80, 80), (88, 90), (95, 95)] #[.int .i64 48, .int .i64 48, .int .i64 50, .int .i64 52, .int .i64 54, .int .i64 54, .int .i64 56, .int .i64 56, .int .i64 58, .int .i64 58, .int .i64 61, .int .i64 61, .int .i64 65, .int .i64 70, .int .i64 72, .int .i64 72, .int .i64 74, .int .i64 74, .int .i64 80, .int .i64 80, .int .i64 88, .int .i64 90, .int .i64 95, .int .i64 95] rfl
  have C := Lib.hid (rin_n op [(48, 48), (50, 52), (54, 54), (56, 56), (58, 58), (61, 61), (65, 70), (72, 72), (74, 74), (80, 80), (88, 90), (95, 95)] 24 _ _ hp rfl (by omega))
  clear hp
  obtain ⟨b, hb⟩ : ∃ b, b = inZ op [(48, 48), (50, 52), (54, 54), (56, 56), (58, 58), (61, 61), (65, 70), (72, 72), (74, 74), (80, 80), (88, 90), (95, 95)] := ⟨_, rfl⟩
  rw [← hb] at C
  have HB := Lib.hid hb
  clear hb
  go_wp2_with fail
  (with_reducible refine C.out.mono ?_)
  rintro e w1 ⟨rfl, hw1⟩
  rw [hw1]
  clear hw1 w1
  clear C
  obtain ⟨Y1, hY⟩ : ∃ Y1, Y1 = X.alloc (.cells #[.int .i64 48, .int .i64 48, .int .i64 50, .int .i64 52, .int .i64 54, .int .i64 54, .int .i64 56, .int .i64 56, .int .i64 58, .int .i64 58, .int .i64 61, .int .i64 61, .int .i64 65, .int .i64 70, .int .i64 72, .int .i64 72, .int .i64 74, .int .i64 74, .int .i64 80, .int .i64 80, .int .i64 88, .int .i64 90, .int .i64 95, .int .i64 95] 3) := ⟨_, rfl⟩
  replace HG : Hid (Y1.heap[w.heap.size]? = some (.cells #[.int .i64 f, .int .u64 (k 1), .int .u64 (k 2), .int .u64 (k 3), .int .u64 (k 4), .int .u64 (k 5), .int .u64 (k 6), .int .u64 (k 7), .int .i64 (k 8), .int .i64 (k 9), .int .u64 (k 10), .int .u64 (k 11), .int .u64 (k 12), .int .u64 (k 13), .int .u64 (k 14), .int .u64 (k 15), .int .u64 (k 16), .int .u64 (k 17), .int .u64 (k 18), .int .u64 (k 19), .int .u64 (k 20), .int .u64 (k 21), .int .u64 (k 22), .int .u64 (k 23), .int .u64 (k 24), .int .u64 (k 25)] 26 (0, 0))) := by rw [hY, Below.heap_alloc _ _ _ HL.out.2]; exact HG.out
  replace HL : Hid (Below w.heap.size w Y1 ∧ w.heap.size < Y1.heap.size) := by
    rw [hY]; exact ⟨HL.out.1.alloc HL.out.1.size _, by have := HL.out.2; simp; omega⟩
  rw [← hY]
  clear hY
  cases b with
  | true =>
    have hz := HZ.out
    rw [if_pos HB.out.symm] at hz
    go_wp2_with fail
    go_ret
    exact ⟨by rw [hz]; rfl, HL.out.1⟩
  | false =>
  have hz := HZ.out
  rw [if_neg (by rw [← HB.out]; simp)] at hz
  replace HZ := Lib.hid hz
  clear hz HB
  have hp := spans_new Y1 3 [(1, 1), (3, 3), (16, 29), (53, 53), (55, 55), (57, 57), (62, 62), (73, 73), (81, 83), (94, 94), (96, 159)] #[.int .i64 1, .int .i64 1, .int .i64 3, .int .i64 3, .int .i64 16, .int .i64 29, .int .i64 53, .int .i64 53, .int .i64 55, .int .i64 55, .int .i64 57, .int .i64 57, .int .i64 62, .int .i64 62, .int .i64 73, .int .i64 73, .int .i64 81, .int .i64 83, .int .i64 94, .int .i64 94, .int .i64 96, .int .i64 159] rfl
  have C := Lib.hid (rin_n op [(1, 1), (3, 3), (16, 29), (53, 53), (55, 55), (57, 57), (62, 62), (73, 73), (81, 83), (94, 94), (96, 159)] 22 _ _ hp rfl (by omega))
  clear hp
  obtain ⟨b, hb⟩ : ∃ b, b = inZ op [(1, 1), (3, 3), (16, 29), (53, 53), (55, 55), (57, 57), (62, 62), (73, 73), (81, 83), (94, 94), (96, 159)] := ⟨_, rfl⟩
  rw [← hb] at C
  have HB := Lib.hid hb
  clear hb
  go_wp2_with fail
  (with_reducible refine C.out.mono ?_)
  rintro e w1 ⟨rfl, hw1⟩
  rw [hw1]
  clear hw1 w1
  clear C
  obtain ⟨Y2, hY⟩ : ∃ Y2, Y2 = Y1.alloc (.cells #[.int .i64 1, .int .i64 1, .int .i64 3, .int .i64 3, .int .i64 16, .int .i64 29, .int .i64 53, .int .i64 53, .int .i64 55, .int .i64 55, .int .i64 57, .int .i64 57, .int .i64 62, .int .i64 62, .int .i64 73, .int .i64 73, .int .i64 81, .int .i64 83, .int .i64 94, .int .i64 94, .int .i64 96, .int .i64 159] 3) := ⟨_, rfl⟩
  replace HG : Hid (Y2.heap[w.heap.size]? = some (.cells #[.int .i64 f, .int .u64 (k 1), .int .u64 (k 2), .int .u64 (k 3), .int .u64 (k 4), .int .u64 (k 5), .int .u64 (k 6), .int .u64 (k 7), .int .i64 (k 8), .int .i64 (k 9), .int .u64 (k 10), .int .u64 (k 11), .int .u64 (k 12), .int .u64 (k 13), .int .u64 (k 14), .int .u64 (k 15), .int .u64 (k 16), .int .u64 (k 17), .int .u64 (k 18), .int .u64 (k 19), .int .u64 (k 20), .int .u64 (k 21), .int .u64 (k 22), .int .u64 (k 23), .int .u64 (k 24), .int .u64 (k 25)] 26 (0, 0))) := by rw [hY, Below.heap_alloc _ _ _ HL.out.2]; exact HG.out
  replace HL : Hid (Below w.heap.size w Y2 ∧ w.heap.size < Y2.heap.size) := by
    rw [hY]; exact ⟨HL.out.1.alloc HL.out.1.size _, by have := HL.out.2; simp; omega⟩
  rw [← hY]
  clear hY
  cases b with
  | true =>
    have hz := HZ.out
    rw [if_pos HB.out.symm] at hz
    go_wp2_with fail
    go_ret
    exact ⟨by rw [hz]; rfl, HL.out.1⟩
  | false =>
  have hz := HZ.out
  rw [if_neg (by rw [← HB.out]; simp)] at hz
  replace HZ := Lib.hid hz
  clear hz HB
  have hp := spans_new Y2 3 [(2, 2), (4, 7), (11, 11), (71, 71)] #[.int .i64 2, .int .i64 2, .int .i64 4, .int .i64 7, .int .i64 11, .int .i64 11, .int .i64 71, .int .i64 71] rfl
  have C := Lib.hid (rin_n op [(2, 2), (4, 7), (11, 11), (71, 71)] 8 _ _ hp rfl (by omega))
  clear hp
  obtain ⟨b, hb⟩ : ∃ b, b = inZ op [(2, 2), (4, 7), (11, 11), (71, 71)] := ⟨_, rfl⟩
  rw [← hb] at C
  have HB := Lib.hid hb
  clear hb
  go_wp2_with fail
  (with_reducible refine C.out.mono ?_)
  rintro e w1 ⟨rfl, hw1⟩
  rw [hw1]
  clear hw1 w1
  clear C
  obtain ⟨Y3, hY⟩ : ∃ Y3, Y3 = Y2.alloc (.cells #[.int .i64 2, .int .i64 2, .int .i64 4, .int .i64 7, .int .i64 11, .int .i64 11, .int .i64 71, .int .i64 71] 3) := ⟨_, rfl⟩
  replace HG : Hid (Y3.heap[w.heap.size]? = some (.cells #[.int .i64 f, .int .u64 (k 1), .int .u64 (k 2), .int .u64 (k 3), .int .u64 (k 4), .int .u64 (k 5), .int .u64 (k 6), .int .u64 (k 7), .int .i64 (k 8), .int .i64 (k 9), .int .u64 (k 10), .int .u64 (k 11), .int .u64 (k 12), .int .u64 (k 13), .int .u64 (k 14), .int .u64 (k 15), .int .u64 (k 16), .int .u64 (k 17), .int .u64 (k 18), .int .u64 (k 19), .int .u64 (k 20), .int .u64 (k 21), .int .u64 (k 22), .int .u64 (k 23), .int .u64 (k 24), .int .u64 (k 25)] 26 (0, 0))) := by rw [hY, Below.heap_alloc _ _ _ HL.out.2]; exact HG.out
  replace HL : Hid (Below w.heap.size w Y3 ∧ w.heap.size < Y3.heap.size) := by
    rw [hY]; exact ⟨HL.out.1.alloc HL.out.1.size _, by have := HL.out.2; simp; omega⟩
  rw [← hY]
  clear hY
  cases b with
  | true =>
    have hz := HZ.out
    rw [if_pos HB.out.symm] at hz
    go_wp2_with fail
    go_ret
    exact ⟨by rw [hz]; rfl, HL.out.1⟩
  | false =>
  have hz := HZ.out
  rw [if_neg (by rw [← HB.out]; simp)] at hz
  replace HZ := Lib.hid hz
  clear hz HB
  have hp := spans_new Y3 3 [(8, 9), (86, 86)] #[.int .i64 8, .int .i64 9, .int .i64 86, .int .i64 86] rfl
  have C := Lib.hid (rin_n op [(8, 9), (86, 86)] 4 _ _ hp rfl (by omega))
  clear hp
  obtain ⟨b, hb⟩ : ∃ b, b = inZ op [(8, 9), (86, 86)] := ⟨_, rfl⟩
  rw [← hb] at C
  have HB := Lib.hid hb
  clear hb
  go_wp2_with fail
  (with_reducible refine C.out.mono ?_)
  rintro e w1 ⟨rfl, hw1⟩
  rw [hw1]
  clear hw1 w1
  clear C
  obtain ⟨Y4, hY⟩ : ∃ Y4, Y4 = Y3.alloc (.cells #[.int .i64 8, .int .i64 9, .int .i64 86, .int .i64 86] 3) := ⟨_, rfl⟩
  replace HG : Hid (Y4.heap[w.heap.size]? = some (.cells #[.int .i64 f, .int .u64 (k 1), .int .u64 (k 2), .int .u64 (k 3), .int .u64 (k 4), .int .u64 (k 5), .int .u64 (k 6), .int .u64 (k 7), .int .i64 (k 8), .int .i64 (k 9), .int .u64 (k 10), .int .u64 (k 11), .int .u64 (k 12), .int .u64 (k 13), .int .u64 (k 14), .int .u64 (k 15), .int .u64 (k 16), .int .u64 (k 17), .int .u64 (k 18), .int .u64 (k 19), .int .u64 (k 20), .int .u64 (k 21), .int .u64 (k 22), .int .u64 (k 23), .int .u64 (k 24), .int .u64 (k 25)] 26 (0, 0))) := by rw [hY, Below.heap_alloc _ _ _ HL.out.2]; exact HG.out
  replace HL : Hid (Below w.heap.size w Y4 ∧ w.heap.size < Y4.heap.size) := by
    rw [hY]; exact ⟨HL.out.1.alloc HL.out.1.size _, by have := HL.out.2; simp; omega⟩
  rw [← hY]
  clear hY
  cases b with
  | true =>
    have hz := HZ.out
    rw [if_pos HB.out.symm] at hz
    go_wp2_with fail
    go_ret
    exact ⟨by rw [hz]; rfl, HL.out.1⟩
  | false =>
  have hz := HZ.out
  rw [if_neg (by rw [← HB.out]; simp)] at hz
  replace HZ := Lib.hid hz
  clear hz HB
  have hp := spans_new Y4 3 [(10, 10), (87, 87)] #[.int .i64 10, .int .i64 10, .int .i64 87, .int .i64 87] rfl
  have C := Lib.hid (rin_n op [(10, 10), (87, 87)] 4 _ _ hp rfl (by omega))
  clear hp
  obtain ⟨b, hb⟩ : ∃ b, b = inZ op [(10, 10), (87, 87)] := ⟨_, rfl⟩
  rw [← hb] at C
  have HB := Lib.hid hb
  clear hb
  go_wp2_with fail
  (with_reducible refine C.out.mono ?_)
  rintro e w1 ⟨rfl, hw1⟩
  rw [hw1]
  clear hw1 w1
  clear C
  obtain ⟨Y5, hY⟩ : ∃ Y5, Y5 = Y4.alloc (.cells #[.int .i64 10, .int .i64 10, .int .i64 87, .int .i64 87] 3) := ⟨_, rfl⟩
  replace HG : Hid (Y5.heap[w.heap.size]? = some (.cells #[.int .i64 f, .int .u64 (k 1), .int .u64 (k 2), .int .u64 (k 3), .int .u64 (k 4), .int .u64 (k 5), .int .u64 (k 6), .int .u64 (k 7), .int .i64 (k 8), .int .i64 (k 9), .int .u64 (k 10), .int .u64 (k 11), .int .u64 (k 12), .int .u64 (k 13), .int .u64 (k 14), .int .u64 (k 15), .int .u64 (k 16), .int .u64 (k 17), .int .u64 (k 18), .int .u64 (k 19), .int .u64 (k 20), .int .u64 (k 21), .int .u64 (k 22), .int .u64 (k 23), .int .u64 (k 24), .int .u64 (k 25)] 26 (0, 0))) := by rw [hY, Below.heap_alloc _ _ _ HL.out.2]; exact HG.out
  replace HL : Hid (Below w.heap.size w Y5 ∧ w.heap.size < Y5.heap.size) := by
    rw [hY]; exact ⟨HL.out.1.alloc HL.out.1.size _, by have := HL.out.2; simp; omega⟩
  rw [← hY]
  clear hY
  cases b with
  | true =>
    have hz := HZ.out
    rw [if_pos HB.out.symm] at hz
    go_wp2_with fail
    go_ret
    exact ⟨by rw [hz]; rfl, HL.out.1⟩
  | false =>
  have hz := HZ.out
  rw [if_neg (by rw [← HB.out]; simp)] at hz
  replace HZ := Lib.hid hz
  clear hz HB
  by_cases h : op = 32
  · have hz := HZ.out
    rw [if_pos h] at hz
    subst h
    go_wp2_with fail
    go_ret
    exact ⟨by rw [hz]; rfl, HL.out.1⟩
  have hz := HZ.out
  rw [if_neg h] at hz
  replace HZ := Lib.hid hz
  clear hz
  have n32 := h
  clear h
  by_cases h : op = 64
  · have hz := HZ.out
    rw [if_pos h] at hz
    subst h
    go_wp2_with fail
    go_ret
    exact ⟨by rw [hz]; rfl, HL.out.1⟩
  have hz := HZ.out
  rw [if_neg h] at hz
  replace HZ := Lib.hid hz
  clear hz
  have n64 := h
  clear h
  by_cases h : op = 91
  · have hz := HZ.out
    rw [if_pos h] at hz
    subst h
    go_wp2_with fail
    go_ret
    exact ⟨by rw [hz]; rfl, HL.out.1⟩
  have hz := HZ.out
  rw [if_neg h] at hz
  replace HZ := Lib.hid hz
  clear hz
  have n91 := h
  clear h
  by_cases h : op = 92 ∨ op = 93
  · have hz := HZ.out
    rw [if_pos h] at hz
    rcases h with h | h
    · subst h
      go_wp2_with fail
      go_ret
      exact ⟨by rw [hz]; rfl, HL.out.1⟩
    · subst h
      go_wp2_with fail
      go_ret
      exact ⟨by rw [hz]; rfl, HL.out.1⟩
  have hz := HZ.out
  rw [if_neg h] at hz
  replace HZ := Lib.hid hz
  clear hz
  obtain ⟨n92, n93⟩ : ¬ op = 92 ∧ ¬ op = 93 := ⟨fun x => h (.inl x), fun x => h (.inr x)⟩
  clear h
  have hp := spans_new Y5 3 [(160, 164)] #[.int .i64 160, .int .i64 164] rfl
  have C := Lib.hid (rin_n op [(160, 164)] 2 _ _ hp rfl (by omega))
  clear hp
  obtain ⟨b, hb⟩ : ∃ b, b = inZ op [(160, 164)] := ⟨_, rfl⟩
  rw [← hb] at C
  have HB := Lib.hid hb
  clear hb
  go_wp2_with fail
  (with_reducible refine C.out.mono ?_)
  rintro e w1 ⟨rfl, hw1⟩
  rw [hw1]
  clear hw1 w1
  clear C
  obtain ⟨Y6, hY⟩ : ∃ Y6, Y6 = Y5.alloc (.cells #[.int .i64 160, .int .i64 164] 3) := ⟨_, rfl⟩
  replace HG : Hid (Y6.heap[w.heap.size]? = some (.cells #[.int .i64 f, .int .u64 (k 1), .int .u64 (k 2), .int .u64 (k 3), .int .u64 (k 4), .int .u64 (k 5), .int .u64 (k 6), .int .u64 (k 7), .int .i64 (k 8), .int .i64 (k 9), .int .u64 (k 10), .int .u64 (k 11), .int .u64 (k 12), .int .u64 (k 13), .int .u64 (k 14), .int .u64 (k 15), .int .u64 (k 16), .int .u64 (k 17), .int .u64 (k 18), .int .u64 (k 19), .int .u64 (k 20), .int .u64 (k 21), .int .u64 (k 22), .int .u64 (k 23), .int .u64 (k 24), .int .u64 (k 25)] 26 (0, 0))) := by rw [hY, Below.heap_alloc _ _ _ HL.out.2]; exact HG.out
  replace HL : Hid (Below w.heap.size w Y6 ∧ w.heap.size < Y6.heap.size) := by
    rw [hY]; exact ⟨HL.out.1.alloc HL.out.1.size _, by have := HL.out.2; simp; omega⟩
  rw [← hY]
  clear hY
  cases b with
  | true =>
    have hz := HZ.out
    rw [if_pos HB.out.symm] at hz
    go_wp2_with fail
    go_ret
    exact ⟨by rw [hz]; rfl, HL.out.1⟩
  | false =>
  have hz := HZ.out
  rw [if_neg (by rw [← HB.out]; simp)] at hz
  replace HZ := Lib.hid hz
  clear hz HB
  by_cases h : op = 49
  · have hz := HZ.out
    rw [if_pos h] at hz
    subst h
    have c : Y6.cell? ⟨w.heap.size, 10, none⟩ = some (.int .u64 (k 10)) := by rw [cell_of_row _ _ 10 _ _ (0, 0) HG.out]; rfl
    go_wp2_with fail
    go_ret
    exact ⟨by rw [hz]; rfl, HL.out.1⟩
  have hz := HZ.out
  rw [if_neg h] at hz
  replace HZ := Lib.hid hz
  clear hz
  have n49 := h
  clear h
  by_cases h : op = 59 ∨ op = 60
  · have hz := HZ.out
    rw [if_pos h] at hz
    rcases h with h | h
    · subst h
      have c : Y6.cell? ⟨w.heap.size, 11, none⟩ = some (.int .u64 (k 11)) := by rw [cell_of_row _ _ 11 _ _ (0, 0) HG.out]; rfl
      go_wp2_with fail
      go_ret
      exact ⟨by rw [hz]; rfl, HL.out.1⟩
    · subst h
      have c : Y6.cell? ⟨w.heap.size, 11, none⟩ = some (.int .u64 (k 11)) := by rw [cell_of_row _ _ 11 _ _ (0, 0) HG.out]; rfl
      go_wp2_with fail
      go_ret
      exact ⟨by rw [hz]; rfl, HL.out.1⟩
  have hz := HZ.out
  rw [if_neg h] at hz
  replace HZ := Lib.hid hz
  clear hz
  obtain ⟨n59, n60⟩ : ¬ op = 59 ∧ ¬ op = 60 := ⟨fun x => h (.inl x), fun x => h (.inr x)⟩
  clear h
  by_cases h : op = 63
  · have hz := HZ.out
    rw [if_pos h] at hz
    subst h
    have c : Y6.cell? ⟨w.heap.size, 12, none⟩ = some (.int .u64 (k 12)) := by rw [cell_of_row _ _ 12 _ _ (0, 0) HG.out]; rfl
    go_wp2_with fail
    go_ret
    exact ⟨by rw [hz]; rfl, HL.out.1⟩
  have hz := HZ.out
  rw [if_neg h] at hz
  replace HZ := Lib.hid hz
  clear hz
  have n63 := h
  clear h
  by_cases h : op = 84
  · have hz := HZ.out
    rw [if_pos h] at hz
    subst h
    have c : Y6.cell? ⟨w.heap.size, 13, none⟩ = some (.int .u64 (k 13)) := by rw [cell_of_row _ _ 13 _ _ (0, 0) HG.out]; rfl
    go_wp2_with fail
    go_ret
    exact ⟨by rw [hz]; rfl, HL.out.1⟩
  have hz := HZ.out
  rw [if_neg h] at hz
  replace HZ := Lib.hid hz
  clear hz
  have n84 := h
  clear h
  have hp := spans_new Y6 3 [(241, 242), (244, 244), (250, 250)] #[.int .i64 241, .int .i64 242, .int .i64 244, .int .i64 244, .int .i64 250, .int .i64 250] rfl
  have C := Lib.hid (rin_n op [(241, 242), (244, 244), (250, 250)] 6 _ _ hp rfl (by omega))
  clear hp
  obtain ⟨b, hb⟩ : ∃ b, b = inZ op [(241, 242), (244, 244), (250, 250)] := ⟨_, rfl⟩
  rw [← hb] at C
  have HB := Lib.hid hb
  clear hb
  go_wp2_with fail
  (with_reducible refine C.out.mono ?_)
  rintro e w1 ⟨rfl, hw1⟩
  rw [hw1]
  clear hw1 w1
  clear C
  obtain ⟨Y7, hY⟩ : ∃ Y7, Y7 = Y6.alloc (.cells #[.int .i64 241, .int .i64 242, .int .i64 244, .int .i64 244, .int .i64 250, .int .i64 250] 3) := ⟨_, rfl⟩
  replace HG : Hid (Y7.heap[w.heap.size]? = some (.cells #[.int .i64 f, .int .u64 (k 1), .int .u64 (k 2), .int .u64 (k 3), .int .u64 (k 4), .int .u64 (k 5), .int .u64 (k 6), .int .u64 (k 7), .int .i64 (k 8), .int .i64 (k 9), .int .u64 (k 10), .int .u64 (k 11), .int .u64 (k 12), .int .u64 (k 13), .int .u64 (k 14), .int .u64 (k 15), .int .u64 (k 16), .int .u64 (k 17), .int .u64 (k 18), .int .u64 (k 19), .int .u64 (k 20), .int .u64 (k 21), .int .u64 (k 22), .int .u64 (k 23), .int .u64 (k 24), .int .u64 (k 25)] 26 (0, 0))) := by rw [hY, Below.heap_alloc _ _ _ HL.out.2]; exact HG.out
  replace HL : Hid (Below w.heap.size w Y7 ∧ w.heap.size < Y7.heap.size) := by
    rw [hY]; exact ⟨HL.out.1.alloc HL.out.1.size _, by have := HL.out.2; simp; omega⟩
  rw [← hY]
  clear hY
  cases b with
  | true =>
    have hz := HZ.out
    rw [if_pos HB.out.symm] at hz
    have c : Y7.cell? ⟨w.heap.size, 14, none⟩ = some (.int .u64 (k 14)) := by rw [cell_of_row _ _ 14 _ _ (0, 0) HG.out]; rfl
    go_wp2_with fail
    go_ret
    exact ⟨by rw [hz]; rfl, HL.out.1⟩
  | false =>
  have hz := HZ.out
  rw [if_neg (by rw [← HB.out]; simp)] at hz
  replace HZ := Lib.hid hz
  clear hz HB
  by_cases h : op = 255
  · have hz := HZ.out
    rw [if_pos h] at hz
    subst h
    have c : Y7.cell? ⟨w.heap.size, 18, none⟩ = some (.int .u64 (k 18)) := by rw [cell_of_row _ _ 18 _ _ (0, 0) HG.out]; rfl
    go_wp2_with fail
    go_ret
    exact ⟨by rw [hz]; rfl, HL.out.1⟩
  have hz := HZ.out
  rw [if_neg h] at hz
  replace HZ := Lib.hid hz
  clear hz
  have n255 := h
  clear h
  by_cases h : op = 240 ∨ op = 245
  · have hz := HZ.out
    rw [if_pos h] at hz
    rcases h with h | h
    · subst h
      go_wp2_with fail
      go_ret
      exact ⟨by rw [hz]; rfl, HL.out.1⟩
    · subst h
      go_wp2_with fail
      go_ret
      exact ⟨by rw [hz]; rfl, HL.out.1⟩
  have hz := HZ.out
  rw [if_neg h] at hz
  replace HZ := Lib.hid hz
  clear hz
  obtain ⟨n240, n245⟩ : ¬ op = 240 ∧ ¬ op = 245 := ⟨fun x => h (.inl x), fun x => h (.inr x)⟩
  clear h
  have hz := HZ.out
  go_wp2_with fail
  go_ret
  exact ⟨by rw [hz]; rfl, HL.out.1⟩
end Go.Proofs.Ytiflfcdegpmhnaa
