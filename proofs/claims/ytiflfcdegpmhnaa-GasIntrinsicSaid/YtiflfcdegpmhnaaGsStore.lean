/- Package quarryref17: Store. (Written by wip/gengsstore.py.) -/
import Derived.Test.YtiflfcdegpmhnaaGsGrow
namespace Go.Proofs.Ytiflfcdegpmhnaa
open Go.RowKit

/-- A write to the storage, as a value. -/
def StC (o c n : Nat) (warm : Bool) (left : Nat) : Array Value := #[.int .u64 (lim 0 o : Nat), .int .u64 (lim 1 o : Nat), .int .u64 (lim 2 o : Nat), .int .u64 (lim 3 o : Nat), .int .u64 (lim 0 c : Nat), .int .u64 (lim 1 c : Nat), .int .u64 (lim 2 c : Nat), .int .u64 (lim 3 c : Nat), .int .u64 (lim 0 n : Nat), .int .u64 (lim 1 n : Nat), .int .u64 (lim 2 n : Nat), .int .u64 (lim 3 n : Nat), .bool warm, .int .u64 (left : Nat)]
/-- What Store tells. -/
def stT (x y z : Int) (ok : Bool) : Value := .tuple #[.int .u64 x, .int .u64 y, .int .u64 z, .bool ok]
/-- From Constantinople on, of a write that is not refused. -/
def storeT (a d cold back : Int) (cn oc oz nz cz on : Bool) : Value :=
  if cn then stT (a + cold) 0 0 true else
  if oc then (if oz then stT (20000 + cold) 0 0 true else if nz then stT (d + cold) back 0 true else stT (d + cold) 0 0 true) else
  stT (a + cold) ((if !oz && !cz && nz then back else 0) + (if on then (if oz then 20000 - a else d - a) else 0)) (if !oz && cz then back else 0) true
/-- What Store tells of any write at any fork: cn: the current value is the next one; oc: the original one is the current one; oz, nz, cz: it is 0; on: the original one is the next one. -/
def storeV (f back : Int) (cn oc oz nz cz on warm : Bool) (left : Nat) : Value :=
  if f < 5 ∨ f = 6 then (if cz && !nz then stT 20000 0 0 true else if !cz && nz then stT 5000 back 0 true else stT 5000 0 0 true) else
  if 7 ≤ f ∧ left ≤ 2300 then stT 0 0 0 false else
  storeT (if 9 ≤ f then 100 else if 7 ≤ f then 800 else 200) (if 9 ≤ f then 2900 else 5000) (if 9 ≤ f ∧ warm = false then 2100 else 0) back cn oc oz nz cz on
/-- What Store tells, by the numbers. -/
def storeN (f back : Int) (o c n : Nat) (warm : Bool) (left : Nat) : Value := storeV f back (decide (c = n)) (decide (o = c)) (decide (o = 0)) (decide (n = 0)) (decide (c = 0)) (decide (o = n)) warm left

theorem gs_drewN (B : Nat) (w : World) (n : Nat) : Below B w (w.drewN n) := ⟨rfl, rfl, rfl, Nat.le_refl _, fun _ _ => rfl⟩
set_option maxRecDepth 100000 in
set_option maxHeartbeats 25600000 in
theorem rstore_c (f : Int) (k : Nat → Int) {o c n left : Nat} {warm : Bool} (hk0 : 0 ≤ k 22) (hk1 : k 22 ≤ 1000000) (ho : Big o) (hc : Big c) (hn : Big n) (w : World) : Calls Try.prog 24 #[.agg (RulesK f k), .agg (StC o c n warm left)] w (RetV (storeN f (k 22) o c n warm left) w) := by
  obtain ⟨V, hV⟩ : ∃ V, V = storeN f (k 22) o c n warm left := ⟨_, rfl⟩
  rw [← hV]
  unfold storeN at hV
  obtain ⟨cn, hcn⟩ : ∃ b : Bool, b = decide (c = n) := ⟨_, rfl⟩
  obtain ⟨oc, hoc⟩ : ∃ b : Bool, b = decide (o = c) := ⟨_, rfl⟩
  obtain ⟨oz, hoz⟩ : ∃ b : Bool, b = decide (o = 0) := ⟨_, rfl⟩
  obtain ⟨nz, hnz⟩ : ∃ b : Bool, b = decide (n = 0) := ⟨_, rfl⟩
  obtain ⟨cz, hcz⟩ : ∃ b : Bool, b = decide (c = 0) := ⟨_, rfl⟩
  obtain ⟨on, hon⟩ : ∃ b : Bool, b = decide (o = n) := ⟨_, rfl⟩
  rw [← hcn, ← hoc, ← hoz, ← hnz, ← hcz, ← hon] at hV
  have qcn : ∀ W, (Op.equalIn 10000 24 (.agg #[.int .u64 (lim 0 c : Nat), .int .u64 (lim 1 c : Nat), .int .u64 (lim 2 c : Nat), .int .u64 (lim 3 c : Nat)]) (.agg #[.int .u64 (lim 0 n : Nat), .int .u64 (lim 1 n : Nat), .int .u64 (lim 2 n : Nat), .int .u64 (lim 3 n : Nat)])).run Try.prog W = .ok cn W := fun W => by rw [hcn]; exact eqW_in hc hn W
  have qoc : ∀ W, (Op.equalIn 10000 24 (.agg #[.int .u64 (lim 0 o : Nat), .int .u64 (lim 1 o : Nat), .int .u64 (lim 2 o : Nat), .int .u64 (lim 3 o : Nat)]) (.agg #[.int .u64 (lim 0 c : Nat), .int .u64 (lim 1 c : Nat), .int .u64 (lim 2 c : Nat), .int .u64 (lim 3 c : Nat)])).run Try.prog W = .ok oc W := fun W => by rw [hoc]; exact eqW_in ho hc W
  have qon : ∀ W, (Op.equalIn 10000 24 (.agg #[.int .u64 (lim 0 o : Nat), .int .u64 (lim 1 o : Nat), .int .u64 (lim 2 o : Nat), .int .u64 (lim 3 o : Nat)]) (.agg #[.int .u64 (lim 0 n : Nat), .int .u64 (lim 1 n : Nat), .int .u64 (lim 2 n : Nat), .int .u64 (lim 3 n : Nat)])).run Try.prog W = .ok on W := fun W => by rw [hon]; exact eqW_in ho hn W
  have qoz : ∀ W, (Op.equalIn 10000 24 (.agg #[.int .u64 (lim 0 o : Nat), .int .u64 (lim 1 o : Nat), .int .u64 (lim 2 o : Nat), .int .u64 (lim 3 o : Nat)]) (.agg #[.int .u64 0, .int .u64 0, .int .u64 0, .int .u64 0])).run Try.prog W = .ok oz W := fun W => by rw [hoz]; exact eqW_zero ho W
  have qnz : ∀ W, (Op.equalIn 10000 24 (.agg #[.int .u64 (lim 0 n : Nat), .int .u64 (lim 1 n : Nat), .int .u64 (lim 2 n : Nat), .int .u64 (lim 3 n : Nat)]) (.agg #[.int .u64 0, .int .u64 0, .int .u64 0, .int .u64 0])).run Try.prog W = .ok nz W := fun W => by rw [hnz]; exact eqW_zero hn W
  have qcz : ∀ W, (Op.equalIn 10000 24 (.agg #[.int .u64 (lim 0 c : Nat), .int .u64 (lim 1 c : Nat), .int .u64 (lim 2 c : Nat), .int .u64 (lim 3 c : Nat)]) (.agg #[.int .u64 0, .int .u64 0, .int .u64 0, .int .u64 0])).run Try.prog W = .ok cz W := fun W => by rw [hcz]; exact eqW_zero hc W
  have HV := Lib.hid hV
  obtain ⟨X, hX⟩ : ∃ X, X = ((w.alloc (.cells (RulesK f k) 26)).alloc (.cells (StC o c n warm left) 41)).alloc (.cells #[.int .u64 0, .int .u64 0, .int .u64 0, .int .u64 0] 24) := ⟨_, rfl⟩
  have hR : RulesAt X w.heap.size f k := by rw [hX]; exact ((RulesAt.new w f k).alloc _).alloc _
  have hS : X.heap[w.heap.size + 1]? = some (.cells (StC o c n warm left) 41 (0, 0)) := by
    rw [hX, Below.heap_alloc _ _ _ (by simp)]
    have h := heap_alloc_new (w.alloc (.cells (RulesK f k) 26)) (.cells (StC o c n warm left) 41)
    rw [show (w.alloc (.cells (RulesK f k) 26)).heap.size = w.heap.size + 1 by simp] at h; exact h
  have hZ : X.heap[w.heap.size + 1 + 1]? = some (.cells #[.int .u64 0, .int .u64 0, .int .u64 0, .int .u64 0] 24 (0, 0)) := by
    rw [hX]
    have h := heap_alloc_new ((w.alloc (.cells (RulesK f k) 26)).alloc (.cells (StC o c n warm left) 41)) (.cells #[.int .u64 0, .int .u64 0, .int .u64 0, .int .u64 0] 24)
    rw [show ((w.alloc (.cells (RulesK f k) 26)).alloc (.cells (StC o c n warm left) 41)).heap.size = w.heap.size + 1 + 1 by simp] at h; exact h
  have HB : Hid (Below w.heap.size w X) := by rw [hX]; exact (((Below.refl _ _).alloc (Nat.le_refl _) _).alloc (by simp) _).alloc (by simp; omega) _
  have r0 := hR.fork
  have r22 := hR.c22
  have s0 : X.cell? ⟨w.heap.size + 1, 0, none⟩ = some (.int .u64 (lim 0 o : Nat)) := by rw [cell_of_row _ _ 0 _ _ (0, 0) hS]; rfl
  have s1 : X.cell? ⟨w.heap.size + 1, 1, none⟩ = some (.int .u64 (lim 1 o : Nat)) := by rw [cell_of_row _ _ 1 _ _ (0, 0) hS]; rfl
  have s2 : X.cell? ⟨w.heap.size + 1, 2, none⟩ = some (.int .u64 (lim 2 o : Nat)) := by rw [cell_of_row _ _ 2 _ _ (0, 0) hS]; rfl
  have s3 : X.cell? ⟨w.heap.size + 1, 3, none⟩ = some (.int .u64 (lim 3 o : Nat)) := by rw [cell_of_row _ _ 3 _ _ (0, 0) hS]; rfl
  have s4 : X.cell? ⟨w.heap.size + 1, 4, none⟩ = some (.int .u64 (lim 0 c : Nat)) := by rw [cell_of_row _ _ 4 _ _ (0, 0) hS]; rfl
  have s5 : X.cell? ⟨w.heap.size + 1, 5, none⟩ = some (.int .u64 (lim 1 c : Nat)) := by rw [cell_of_row _ _ 5 _ _ (0, 0) hS]; rfl
  have s6 : X.cell? ⟨w.heap.size + 1, 6, none⟩ = some (.int .u64 (lim 2 c : Nat)) := by rw [cell_of_row _ _ 6 _ _ (0, 0) hS]; rfl
  have s7 : X.cell? ⟨w.heap.size + 1, 7, none⟩ = some (.int .u64 (lim 3 c : Nat)) := by rw [cell_of_row _ _ 7 _ _ (0, 0) hS]; rfl
  have s8 : X.cell? ⟨w.heap.size + 1, 8, none⟩ = some (.int .u64 (lim 0 n : Nat)) := by rw [cell_of_row _ _ 8 _ _ (0, 0) hS]; rfl
  have s9 : X.cell? ⟨w.heap.size + 1, 9, none⟩ = some (.int .u64 (lim 1 n : Nat)) := by rw [cell_of_row _ _ 9 _ _ (0, 0) hS]; rfl
  have s10 : X.cell? ⟨w.heap.size + 1, 10, none⟩ = some (.int .u64 (lim 2 n : Nat)) := by rw [cell_of_row _ _ 10 _ _ (0, 0) hS]; rfl
  have s11 : X.cell? ⟨w.heap.size + 1, 11, none⟩ = some (.int .u64 (lim 3 n : Nat)) := by rw [cell_of_row _ _ 11 _ _ (0, 0) hS]; rfl
  have s12 : X.cell? ⟨w.heap.size + 1, 12, none⟩ = some (.bool warm) := by rw [cell_of_row _ _ 12 _ _ (0, 0) hS]; rfl
  have s13 : X.cell? ⟨w.heap.size + 1, 13, none⟩ = some (.int .u64 (left : Nat)) := by rw [cell_of_row _ _ 13 _ _ (0, 0) hS]; rfl
  have z0 : X.cell? ⟨w.heap.size + 1 + 1, 0, none⟩ = some (.int .u64 0) := by rw [cell_of_row _ _ 0 _ _ (0, 0) hZ]; rfl
  have z1 : X.cell? ⟨w.heap.size + 1 + 1, 1, none⟩ = some (.int .u64 0) := by rw [cell_of_row _ _ 1 _ _ (0, 0) hZ]; rfl
  have z2 : X.cell? ⟨w.heap.size + 1 + 1, 2, none⟩ = some (.int .u64 0) := by rw [cell_of_row _ _ 2 _ _ (0, 0) hZ]; rfl
  have z3 : X.cell? ⟨w.heap.size + 1 + 1, 3, none⟩ = some (.int .u64 0) := by rw [cell_of_row _ _ 3 _ _ (0, 0) hZ]; rfl
  have HX := Lib.hid hX
  clear hcn hoc hoz hnz hcz hon ho hc hn hX hV hR hS hZ
  obtain ⟨B, hB⟩ : ∃ B, B = k 22 := ⟨_, rfl⟩
  rw [← hB] at r22 HV hk0 hk1
  clear hB
  go_enter Try.func24, Try.ntmps24
  go_upto_region 2 with (fail)
  rw [show ((w.alloc (.cells (RulesK f k) 26)).alloc (.cells (StC o c n warm left) 41)).alloc (.cells #[.int .u64 0, .int .u64 0, .int .u64 0, .int .u64 0] 24) = X from HX.out.symm]
  clear HX
  rcases (show f < 5 ∨ f = 6 ∨ f = 5 ∨ (7 ≤ f ∧ f < 9) ∨ 9 ≤ f by omega) with hf | hf | hf | ⟨hf, hf2⟩ | hf
  · skip
    cases cz with
    | true =>
      cases nz with
      | true =>
        go_wp2_with fail
        exact bodyPost_ret (v := stT (5000) (0) (0) true) (by simp [results, Try.results24, go_sem, stT]) rfl ⟨by rw [HV.out]; simp [storeV, hf], HB.out⟩
      | false =>
        go_wp2_with fail
        exact bodyPost_ret (v := stT (20000) (0) (0) true) (by simp [results, Try.results24, go_sem, stT]) rfl ⟨by rw [HV.out]; simp [storeV, hf], HB.out⟩
    | false =>
      cases nz with
      | true =>
        go_wp2_with fail
        go_quiet (fail)
        go_wp2_with fail
        exact bodyPost_ret (v := stT (5000) (B) (0) true) (by simp [results, Try.results24, go_sem, stT]) rfl ⟨by rw [HV.out]; simp [storeV, hf], HB.out.trans (gs_drewN _ _ _)⟩
      | false =>
        go_wp2_with fail
        exact bodyPost_ret (v := stT (5000) (0) (0) true) (by simp [results, Try.results24, go_sem, stT]) rfl ⟨by rw [HV.out]; simp [storeV, hf], HB.out⟩
  · subst hf
    cases cz with
    | true =>
      cases nz with
      | true =>
        go_wp2_with fail
        exact bodyPost_ret (v := stT (5000) (0) (0) true) (by simp [results, Try.results24, go_sem, stT]) rfl ⟨by rw [HV.out]; simp [storeV, stT], HB.out⟩
      | false =>
        go_wp2_with fail
        exact bodyPost_ret (v := stT (20000) (0) (0) true) (by simp [results, Try.results24, go_sem, stT]) rfl ⟨by rw [HV.out]; simp [storeV, stT], HB.out⟩
    | false =>
      cases nz with
      | true =>
        go_wp2_with fail
        go_quiet (fail)
        go_wp2_with fail
        exact bodyPost_ret (v := stT (5000) (B) (0) true) (by simp [results, Try.results24, go_sem, stT]) rfl ⟨by rw [HV.out]; simp [storeV, stT], HB.out.trans (gs_drewN _ _ _)⟩
      | false =>
        go_wp2_with fail
        exact bodyPost_ret (v := stT (5000) (0) (0) true) (by simp [results, Try.results24, go_sem, stT]) rfl ⟨by rw [HV.out]; simp [storeV, stT], HB.out⟩
  · subst hf
    obtain ⟨S, hS⟩ : ∃ S, S = B + 5000 := ⟨_, rfl⟩
    obtain ⟨S2, hS2⟩ : ∃ S2, S2 = S - 200 := ⟨_, rfl⟩
    go_upto_region 17 with (fail)
    cases cn with
    | true =>
      go_wp2_with fail
      exact bodyPost_ret (v := stT (200) (0) (0) true) (by simp [results, Try.results24, go_sem, stT]) rfl ⟨by rw [HV.out]; simp [storeV, storeT, stT], HB.out⟩
    | false =>
      go_upto_region 19 with (fail)
      cases oc with
      | true =>
        cases oz with
        | true =>
          go_wp2_with fail
          exact bodyPost_ret (v := stT (20000) (0) (0) true) (by simp [results, Try.results24, go_sem, stT]) rfl ⟨by rw [HV.out]; simp [storeV, storeT, stT], HB.out⟩
        | false =>
          cases nz with
          | true =>
            go_wp2_with fail
            go_quiet (fail)
            go_wp2_with fail
            exact bodyPost_ret (v := stT (5000) (B) (0) true) (by simp [results, Try.results24, go_sem, stT]) rfl ⟨by rw [HV.out]; simp [storeV, storeT, stT], HB.out.trans (gs_drewN _ _ _)⟩
          | false =>
            go_wp2_with fail
            exact bodyPost_ret (v := stT (5000) (0) (0) true) (by simp [results, Try.results24, go_sem, stT]) rfl ⟨by rw [HV.out]; simp [storeV, storeT, stT], HB.out⟩
      | false =>
        go_upto_region 26 with (fail)
        cases oz with
        | true =>
          go_upto_region 31 with (fail)
          cases on with
          | true =>
            go_wp2_with fail
            exact bodyPost_ret (v := stT (200) (19800) (0) true) (by simp [results, Try.results24, go_sem, stT]) rfl ⟨by rw [HV.out]; simp [storeV, storeT, stT], HB.out⟩
          | false =>
            go_wp2_with fail
            exact bodyPost_ret (v := stT (200) (0) (0) true) (by simp [results, Try.results24, go_sem, stT]) rfl ⟨by rw [HV.out]; simp [storeV, storeT, stT], HB.out⟩
        | false =>
          go_upto_region 27 with (fail)
          cases cz with
          | true =>
            go_upto_region 31 with (fail)
            cases on with
            | true =>
              go_wp2_with fail
              exact bodyPost_ret (v := stT (200) (4800) (B) true) (by simp [results, Try.results24, go_sem, stT]) rfl ⟨by rw [HV.out]; simp [storeV, storeT, stT], HB.out⟩
            | false =>
              go_wp2_with fail
              exact bodyPost_ret (v := stT (200) (0) (B) true) (by simp [results, Try.results24, go_sem, stT]) rfl ⟨by rw [HV.out]; simp [storeV, storeT, stT], HB.out⟩
          | false =>
            go_upto_region 29 with (fail)
            cases nz with
            | true =>
              go_upto_region 31 with (fail)
              cases on with
              | true =>
                have w1 : IntKind.u64.wrap (B + 5000) = S := by rw [IntKind.wrap_u64, hS]; omega
                have w2 : IntKind.u64.wrap (S - 200) = S2 := by rw [IntKind.wrap_u64, hS2, hS]; omega
                have HS2 : Hid (S2 = B + 4800) := by show S2 = _; rw [hS2, hS]; omega
                clear hS hS2
                go_wp2_with fail
                exact bodyPost_ret (v := stT (200) (S2) (0) true) (by simp [results, Try.results24, go_sem, stT]) rfl ⟨by rw [HV.out]; simp [storeV, storeT, stT, HS2.out], HB.out⟩
              | false =>
                go_wp2_with fail
                exact bodyPost_ret (v := stT (200) (B) (0) true) (by simp [results, Try.results24, go_sem, stT]) rfl ⟨by rw [HV.out]; simp [storeV, storeT, stT], HB.out⟩
            | false =>
              go_upto_region 31 with (fail)
              cases on with
              | true =>
                go_wp2_with fail
                exact bodyPost_ret (v := stT (200) (4800) (0) true) (by simp [results, Try.results24, go_sem, stT]) rfl ⟨by rw [HV.out]; simp [storeV, storeT, stT], HB.out⟩
              | false =>
                go_wp2_with fail
                exact bodyPost_ret (v := stT (200) (0) (0) true) (by simp [results, Try.results24, go_sem, stT]) rfl ⟨by rw [HV.out]; simp [storeV, storeT, stT], HB.out⟩
  · have hg : ¬ (f < 5 ∨ f = 6) := by omega
    have hg2 : ¬ f < 5 := by omega
    have hg3 : ¬ f = 6 := by omega
    have hg4 : (9 ≤ f) = False := eq_false (by omega)
    have hg6 : ¬ 9 ≤ f := by omega
    by_cases hl : left ≤ 2300
    · have hl2 : (left : Int) ≤ 2300 := by omega
      go_wp2_with fail
      exact bodyPost_ret (v := stT (0) (0) (0) false) (by simp [results, Try.results24, go_sem, stT]) rfl ⟨by rw [HV.out]; simp [storeV, hg, hf, hl], HB.out⟩
    have hl2 : ¬ (left : Int) ≤ 2300 := by omega
    obtain ⟨S, hS⟩ : ∃ S, S = B + 5000 := ⟨_, rfl⟩
    obtain ⟨S2, hS2⟩ : ∃ S2, S2 = S - 800 := ⟨_, rfl⟩
    go_upto_region 17 with (fail)
    cases cn with
    | true =>
      go_wp2_with fail
      exact bodyPost_ret (v := stT (800) (0) (0) true) (by simp [results, Try.results24, go_sem, stT]) rfl ⟨by rw [HV.out]; simp [storeV, storeT, hg, hf, hl, hg4], HB.out⟩
    | false =>
      go_upto_region 19 with (fail)
      cases oc with
      | true =>
        cases oz with
        | true =>
          go_wp2_with fail
          exact bodyPost_ret (v := stT (20000) (0) (0) true) (by simp [results, Try.results24, go_sem, stT]) rfl ⟨by rw [HV.out]; simp [storeV, storeT, hg, hf, hl, hg4], HB.out⟩
        | false =>
          cases nz with
          | true =>
            go_wp2_with fail
            go_quiet (fail)
            go_wp2_with fail
            exact bodyPost_ret (v := stT (5000) (B) (0) true) (by simp [results, Try.results24, go_sem, stT]) rfl ⟨by rw [HV.out]; simp [storeV, storeT, hg, hf, hl, hg4], HB.out.trans (gs_drewN _ _ _)⟩
          | false =>
            go_wp2_with fail
            exact bodyPost_ret (v := stT (5000) (0) (0) true) (by simp [results, Try.results24, go_sem, stT]) rfl ⟨by rw [HV.out]; simp [storeV, storeT, hg, hf, hl, hg4], HB.out⟩
      | false =>
        go_upto_region 26 with (fail)
        cases oz with
        | true =>
          go_upto_region 31 with (fail)
          cases on with
          | true =>
            go_wp2_with fail
            exact bodyPost_ret (v := stT (800) (19200) (0) true) (by simp [results, Try.results24, go_sem, stT]) rfl ⟨by rw [HV.out]; simp [storeV, storeT, hg, hf, hl, hg4], HB.out⟩
          | false =>
            go_wp2_with fail
            exact bodyPost_ret (v := stT (800) (0) (0) true) (by simp [results, Try.results24, go_sem, stT]) rfl ⟨by rw [HV.out]; simp [storeV, storeT, hg, hf, hl, hg4], HB.out⟩
        | false =>
          go_upto_region 27 with (fail)
          cases cz with
          | true =>
            go_upto_region 31 with (fail)
            cases on with
            | true =>
              go_wp2_with fail
              exact bodyPost_ret (v := stT (800) (4200) (B) true) (by simp [results, Try.results24, go_sem, stT]) rfl ⟨by rw [HV.out]; simp [storeV, storeT, hg, hf, hl, hg4], HB.out⟩
            | false =>
              go_wp2_with fail
              exact bodyPost_ret (v := stT (800) (0) (B) true) (by simp [results, Try.results24, go_sem, stT]) rfl ⟨by rw [HV.out]; simp [storeV, storeT, hg, hf, hl, hg4], HB.out⟩
          | false =>
            go_upto_region 29 with (fail)
            cases nz with
            | true =>
              go_upto_region 31 with (fail)
              cases on with
              | true =>
                have w1 : IntKind.u64.wrap (B + 5000) = S := by rw [IntKind.wrap_u64, hS]; omega
                have w2 : IntKind.u64.wrap (S - 800) = S2 := by rw [IntKind.wrap_u64, hS2, hS]; omega
                have HS2 : Hid (S2 = B + 4200) := by show S2 = _; rw [hS2, hS]; omega
                clear hS hS2
                go_wp2_with fail
                exact bodyPost_ret (v := stT (800) (S2) (0) true) (by simp [results, Try.results24, go_sem, stT]) rfl ⟨by rw [HV.out]; simp [storeV, storeT, hg, hf, hl, hg4, HS2.out], HB.out⟩
              | false =>
                go_wp2_with fail
                exact bodyPost_ret (v := stT (800) (B) (0) true) (by simp [results, Try.results24, go_sem, stT]) rfl ⟨by rw [HV.out]; simp [storeV, storeT, hg, hf, hl, hg4], HB.out⟩
            | false =>
              go_upto_region 31 with (fail)
              cases on with
              | true =>
                go_wp2_with fail
                exact bodyPost_ret (v := stT (800) (4200) (0) true) (by simp [results, Try.results24, go_sem, stT]) rfl ⟨by rw [HV.out]; simp [storeV, storeT, hg, hf, hl, hg4], HB.out⟩
              | false =>
                go_wp2_with fail
                exact bodyPost_ret (v := stT (800) (0) (0) true) (by simp [results, Try.results24, go_sem, stT]) rfl ⟨by rw [HV.out]; simp [storeV, storeT, hg, hf, hl, hg4], HB.out⟩
  · have hg : ¬ (f < 5 ∨ f = 6) := by omega
    have hg2 : ¬ f < 5 := by omega
    have hg3 : ¬ f = 6 := by omega
    have hg4 : 7 ≤ f := by omega
    by_cases hl : left ≤ 2300
    · have hl2 : (left : Int) ≤ 2300 := by omega
      go_wp2_with fail
      exact bodyPost_ret (v := stT (0) (0) (0) false) (by simp [results, Try.results24, go_sem, stT]) rfl ⟨by rw [HV.out]; simp [storeV, hg, hg4, hl], HB.out⟩
    have hl2 : ¬ (left : Int) ≤ 2300 := by omega
    obtain ⟨S, hS⟩ : ∃ S, S = B + 2900 := ⟨_, rfl⟩
    obtain ⟨S2, hS2⟩ : ∃ S2, S2 = S - 100 := ⟨_, rfl⟩
    go_upto_region 15 with (fail)
    cases warm with
    | true =>
      go_upto_region 17 with (fail)
      cases cn with
      | true =>
        go_wp2_with fail
        exact bodyPost_ret (v := stT (100) (0) (0) true) (by simp [results, Try.results24, go_sem, stT]) rfl ⟨by rw [HV.out]; simp [storeV, storeT, hg, hf, hl, hg4], HB.out⟩
      | false =>
        go_upto_region 19 with (fail)
        cases oc with
        | true =>
          cases oz with
          | true =>
            go_wp2_with fail
            exact bodyPost_ret (v := stT (20000) (0) (0) true) (by simp [results, Try.results24, go_sem, stT]) rfl ⟨by rw [HV.out]; simp [storeV, storeT, hg, hf, hl, hg4], HB.out⟩
          | false =>
            cases nz with
            | true =>
              go_wp2_with fail
              go_quiet (fail)
              go_wp2_with fail
              exact bodyPost_ret (v := stT (2900) (B) (0) true) (by simp [results, Try.results24, go_sem, stT]) rfl ⟨by rw [HV.out]; simp [storeV, storeT, hg, hf, hl, hg4], HB.out.trans (gs_drewN _ _ _)⟩
            | false =>
              go_wp2_with fail
              exact bodyPost_ret (v := stT (2900) (0) (0) true) (by simp [results, Try.results24, go_sem, stT]) rfl ⟨by rw [HV.out]; simp [storeV, storeT, hg, hf, hl, hg4], HB.out⟩
        | false =>
          go_upto_region 26 with (fail)
          cases oz with
          | true =>
            go_upto_region 31 with (fail)
            cases on with
            | true =>
              go_wp2_with fail
              exact bodyPost_ret (v := stT (100) (19900) (0) true) (by simp [results, Try.results24, go_sem, stT]) rfl ⟨by rw [HV.out]; simp [storeV, storeT, hg, hf, hl, hg4], HB.out⟩
            | false =>
              go_wp2_with fail
              exact bodyPost_ret (v := stT (100) (0) (0) true) (by simp [results, Try.results24, go_sem, stT]) rfl ⟨by rw [HV.out]; simp [storeV, storeT, hg, hf, hl, hg4], HB.out⟩
          | false =>
            go_upto_region 27 with (fail)
            cases cz with
            | true =>
              go_upto_region 31 with (fail)
              cases on with
              | true =>
                go_wp2_with fail
                exact bodyPost_ret (v := stT (100) (2800) (B) true) (by simp [results, Try.results24, go_sem, stT]) rfl ⟨by rw [HV.out]; simp [storeV, storeT, hg, hf, hl, hg4], HB.out⟩
              | false =>
                go_wp2_with fail
                exact bodyPost_ret (v := stT (100) (0) (B) true) (by simp [results, Try.results24, go_sem, stT]) rfl ⟨by rw [HV.out]; simp [storeV, storeT, hg, hf, hl, hg4], HB.out⟩
            | false =>
              go_upto_region 29 with (fail)
              cases nz with
              | true =>
                go_upto_region 31 with (fail)
                cases on with
                | true =>
                  have w1 : IntKind.u64.wrap (B + 2900) = S := by rw [IntKind.wrap_u64, hS]; omega
                  have w2 : IntKind.u64.wrap (S - 100) = S2 := by rw [IntKind.wrap_u64, hS2, hS]; omega
                  have HS2 : Hid (S2 = B + 2800) := by show S2 = _; rw [hS2, hS]; omega
                  clear hS hS2
                  go_wp2_with fail
                  exact bodyPost_ret (v := stT (100) (S2) (0) true) (by simp [results, Try.results24, go_sem, stT]) rfl ⟨by rw [HV.out]; simp [storeV, storeT, hg, hf, hl, hg4, HS2.out], HB.out⟩
                | false =>
                  go_wp2_with fail
                  exact bodyPost_ret (v := stT (100) (B) (0) true) (by simp [results, Try.results24, go_sem, stT]) rfl ⟨by rw [HV.out]; simp [storeV, storeT, hg, hf, hl, hg4], HB.out⟩
              | false =>
                go_upto_region 31 with (fail)
                cases on with
                | true =>
                  go_wp2_with fail
                  exact bodyPost_ret (v := stT (100) (2800) (0) true) (by simp [results, Try.results24, go_sem, stT]) rfl ⟨by rw [HV.out]; simp [storeV, storeT, hg, hf, hl, hg4], HB.out⟩
                | false =>
                  go_wp2_with fail
                  exact bodyPost_ret (v := stT (100) (0) (0) true) (by simp [results, Try.results24, go_sem, stT]) rfl ⟨by rw [HV.out]; simp [storeV, storeT, hg, hf, hl, hg4], HB.out⟩
    | false =>
      go_upto_region 17 with (fail)
      cases cn with
      | true =>
        go_wp2_with fail
        exact bodyPost_ret (v := stT (2200) (0) (0) true) (by simp [results, Try.results24, go_sem, stT]) rfl ⟨by rw [HV.out]; simp [storeV, storeT, hg, hf, hl, hg4], HB.out⟩
      | false =>
        go_upto_region 19 with (fail)
        cases oc with
        | true =>
          cases oz with
          | true =>
            go_wp2_with fail
            exact bodyPost_ret (v := stT (22100) (0) (0) true) (by simp [results, Try.results24, go_sem, stT]) rfl ⟨by rw [HV.out]; simp [storeV, storeT, hg, hf, hl, hg4], HB.out⟩
          | false =>
            cases nz with
            | true =>
              go_wp2_with fail
              go_quiet (fail)
              go_wp2_with fail
              exact bodyPost_ret (v := stT (5000) (B) (0) true) (by simp [results, Try.results24, go_sem, stT]) rfl ⟨by rw [HV.out]; simp [storeV, storeT, hg, hf, hl, hg4], HB.out.trans (gs_drewN _ _ _)⟩
            | false =>
              go_wp2_with fail
              exact bodyPost_ret (v := stT (5000) (0) (0) true) (by simp [results, Try.results24, go_sem, stT]) rfl ⟨by rw [HV.out]; simp [storeV, storeT, hg, hf, hl, hg4], HB.out⟩
        | false =>
          go_upto_region 26 with (fail)
          cases oz with
          | true =>
            go_upto_region 31 with (fail)
            cases on with
            | true =>
              go_wp2_with fail
              exact bodyPost_ret (v := stT (2200) (19900) (0) true) (by simp [results, Try.results24, go_sem, stT]) rfl ⟨by rw [HV.out]; simp [storeV, storeT, hg, hf, hl, hg4], HB.out⟩
            | false =>
              go_wp2_with fail
              exact bodyPost_ret (v := stT (2200) (0) (0) true) (by simp [results, Try.results24, go_sem, stT]) rfl ⟨by rw [HV.out]; simp [storeV, storeT, hg, hf, hl, hg4], HB.out⟩
          | false =>
            go_upto_region 27 with (fail)
            cases cz with
            | true =>
              go_upto_region 31 with (fail)
              cases on with
              | true =>
                go_wp2_with fail
                exact bodyPost_ret (v := stT (2200) (2800) (B) true) (by simp [results, Try.results24, go_sem, stT]) rfl ⟨by rw [HV.out]; simp [storeV, storeT, hg, hf, hl, hg4], HB.out⟩
              | false =>
                go_wp2_with fail
                exact bodyPost_ret (v := stT (2200) (0) (B) true) (by simp [results, Try.results24, go_sem, stT]) rfl ⟨by rw [HV.out]; simp [storeV, storeT, hg, hf, hl, hg4], HB.out⟩
            | false =>
              go_upto_region 29 with (fail)
              cases nz with
              | true =>
                go_upto_region 31 with (fail)
                cases on with
                | true =>
                  have w1 : IntKind.u64.wrap (B + 2900) = S := by rw [IntKind.wrap_u64, hS]; omega
                  have w2 : IntKind.u64.wrap (S - 100) = S2 := by rw [IntKind.wrap_u64, hS2, hS]; omega
                  have HS2 : Hid (S2 = B + 2800) := by show S2 = _; rw [hS2, hS]; omega
                  clear hS hS2
                  go_wp2_with fail
                  exact bodyPost_ret (v := stT (2200) (S2) (0) true) (by simp [results, Try.results24, go_sem, stT]) rfl ⟨by rw [HV.out]; simp [storeV, storeT, hg, hf, hl, hg4, HS2.out], HB.out⟩
                | false =>
                  go_wp2_with fail
                  exact bodyPost_ret (v := stT (2200) (B) (0) true) (by simp [results, Try.results24, go_sem, stT]) rfl ⟨by rw [HV.out]; simp [storeV, storeT, hg, hf, hl, hg4], HB.out⟩
              | false =>
                go_upto_region 31 with (fail)
                cases on with
                | true =>
                  go_wp2_with fail
                  exact bodyPost_ret (v := stT (2200) (2800) (0) true) (by simp [results, Try.results24, go_sem, stT]) rfl ⟨by rw [HV.out]; simp [storeV, storeT, hg, hf, hl, hg4], HB.out⟩
                | false =>
                  go_wp2_with fail
                  exact bodyPost_ret (v := stT (2200) (0) (0) true) (by simp [results, Try.results24, go_sem, stT]) rfl ⟨by rw [HV.out]; simp [storeV, storeT, hg, hf, hl, hg4], HB.out⟩
end Go.Proofs.Ytiflfcdegpmhnaa
