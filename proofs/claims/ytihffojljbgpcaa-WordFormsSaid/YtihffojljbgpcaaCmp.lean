/- The contract of package word's Cmp. -/
import Derived.Test.YtihffojljbgpcaaWordLeaf
import Derived.Test.YtihffojljbgpcaaWordBits
import Derived.Test.YtihffojljbgpcaaDivide
import Derived.BigQuiet
namespace Go.Proofs.Ytihffojljbgpcaa
open Go.RowKit

theorem lex_lt {a0 a1 a2 a3 b0 b1 b2 b3 a b i : Nat} (ha : IsW a0 a1 a2 a3 a) (hb : IsW b0 b1 b2 b3 b) (hi : i < 4)
    (he : ∀ j, i + 1 ≤ j → [a0, a1, a2, a3].getD j 0 = [b0, b1, b2, b3].getD j 0) (hl : [a0, a1, a2, a3].getD i 0 < [b0, b1, b2, b3].getD i 0) : a < b := by
  obtain ⟨_, _, _, _, rfl⟩ := ha
  obtain ⟨_, _, _, _, rfl⟩ := hb
  have e1 := he 1
  have e2 := he 2
  have e3 := he 3
  clear he
  obtain rfl | rfl | rfl | rfl : i = 0 ∨ i = 1 ∨ i = 2 ∨ i = 3 := by omega
  · have := e1 (by omega); have := e2 (by omega); have := e3 (by omega); simp at *; subst b1 b2 b3; omega
  · have := e2 (by omega); have := e3 (by omega); simp at *; subst b2 b3; omega
  · have := e3 (by omega); simp at *; subst b3; omega
  · simp at *; omega
theorem lex_eq {a0 a1 a2 a3 b0 b1 b2 b3 a b : Nat} (ha : IsW a0 a1 a2 a3 a) (hb : IsW b0 b1 b2 b3 b) 
    (he : ∀ j, 0 ≤ j → [a0, a1, a2, a3].getD j 0 = [b0, b1, b2, b3].getD j 0) : a = b := by
  have e0 := he 0 (by omega)
  have e1 := he 1 (by omega)
  have e2 := he 2 (by omega)
  have e3 := he 3 (by omega)
  simp at e0 e1 e2 e3
  subst e0 e1 e2 e3
  rw [ha.2.2.2.2, hb.2.2.2.2]
def cmpv (a b : Nat) : Int := if a < b then -1 else if b < a then 1 else 0

set_option maxRecDepth 100000 in
set_option maxHeartbeats 2000000 in
theorem cmp_c {a0 a1 a2 a3 b0 b1 b2 b3 a b : Nat} (ha : IsW a0 a1 a2 a3 a) (hb : IsW b0 b1 b2 b3 b) (w : World) :
    Calls Try.prog 31 #[W4 a0 a1 a2 a3, W4 b0 b1 b2 b3] w (RetV (.int .i64 (cmpv a b)) w) := by
  obtain ⟨C, hC⟩ : ∃ C, C = cmpv a b := ⟨_, rfl⟩
  rw [← hC]
  have HC := Lib.hid hC
  clear hC
  go_enter Try.func31, Try.ntmps31
  go_wp2_with fail
  have gA := (Arr.new4 w 24 a0 a1 a2 a3).alloc (.cells #[.int .u64 (b0 : Nat), .int .u64 (b1 : Nat), .int .u64 (b2 : Nat), .int .u64 (b3 : Nat)] 24)
  have gB := Arr.new4 (w.alloc (.cells #[.int .u64 (a0 : Nat), .int .u64 (a1 : Nat), .int .u64 (a2 : Nat), .int .u64 (a3 : Nat)] 24)) 24 b0 b1 b2 b3
  have gW : Below w.heap.size w _ := ((Below.refl w.heap.size w).alloc (Nat.le_refl _) (.cells #[.int .u64 (a0 : Nat), .int .u64 (a1 : Nat), .int .u64 (a2 : Nat), .int .u64 (a3 : Nat)] 24)).alloc (by simp) (.cells #[.int .u64 (b0 : Nat), .int .u64 (b1 : Nat), .int .u64 (b2 : Nat), .int .u64 (b3 : Nat)] 24)
  rw [show (w.alloc (.cells #[.int .u64 (a0 : Nat), .int .u64 (a1 : Nat), .int .u64 (a2 : Nat), .int .u64 (a3 : Nat)] 24)).heap.size = w.heap.size + 1 from by simp] at gB
  generalize (w.alloc (.cells #[.int .u64 (a0 : Nat), .int .u64 (a1 : Nat), .int .u64 (a2 : Nat), .int .u64 (a3 : Nat)] 24)).alloc (.cells #[.int .u64 (b0 : Nat), .int .u64 (b1 : Nat), .int .u64 (b2 : Nat), .int .u64 (b3 : Nat)] 24) = X at *
  obtain ⟨us, hus⟩ : ∃ us, us = [a0, a1, a2, a3] := ⟨_, rfl⟩
  obtain ⟨vs, hvs⟩ : ∃ vs, vs = [b0, b1, b2, b3] := ⟨_, rfl⟩
  rw [← hus] at gA
  rw [← hvs] at gB
  have lA : us.length = 4 := by rw [hus]; rfl
  have lB : vs.length = 4 := by rw [hvs]; rfl
  have HA := Lib.hid hus
  have HB := Lib.hid hvs
  clear hus hvs
  go_loopw [5] (fun s wr => ∃ k : Nat, k ≤ 4 ∧ s = .int .i64 ((k : Int) - 1) ∧ (∃ n, wr = X.drewN n) ∧ Hid (∀ j, k ≤ j → us.getD j 0 = vs.getD j 0)) (fun s _ => (intOf s + 1).toNat)
  case atStart => exact ⟨4, by omega, rfl, ⟨0, rfl⟩, fun j hj => by simp [List.getElem?_eq_none (show us.length ≤ j by omega), List.getElem?_eq_none (show vs.length ≤ j by omega)]⟩
  case round =>
    obtain ⟨k, hk, rfl, ⟨n, rfl⟩, hz⟩ := hrel
    by_cases h0 : 0 < k
    · obtain ⟨i, rfl⟩ : ∃ i, k = i + 1 := ⟨k - 1, by omega⟩
      have ek : (((i + 1 : Nat) : Int) - 1) = (i : Int) := by omega
      rw [ek]
      clear ek
      have ca := gA.cell i (by omega)
      have cb := gB.cell i (by omega)
      obtain ⟨x, hx⟩ : ∃ x, x = us.getD i 0 := ⟨_, rfl⟩
      obtain ⟨y, hy⟩ : ∃ y, y = vs.getD i 0 := ⟨_, rfl⟩
      rw [← hx] at ca
      rw [← hy] at cb
      have HX := Lib.hid hx
      have HY := Lib.hid hy
      clear hx hy
      have hi4 : (i : Int) < 4 := by omega
      have hi0 : ¬ ((i : Int) < 0) := by omega
      have hi1 : 0 ≤ (i : Int) := by omega
      have hi5 : i < 4 := by omega
      by_cases hxy : x < y
      · have d1 : (decide ((x : Int) < (y : Int))) = true := by simp; omega
        go_wp2_with fail
        go_quiet (fail)
        go_wp2_with fail
        go_ret
        have hc : C = -1 := by rw [HC.out]; exact if_pos (lex_lt ha hb (by omega) (by rw [← HA.out, ← HB.out]; exact hz.out) (by rw [← HA.out, ← HB.out, ← HX.out, ← HY.out]; exact hxy))
        rw [hc]
        exact ⟨rfl, (gW.trans (below_drewN _ _ _)).trans (below_drewN _ _ _)⟩
      · have d1 : (decide ((x : Int) < (y : Int))) = false := by simp; omega
        by_cases hyx : y < x
        · have d2 : (decide ((y : Int) < (x : Int))) = true := by simp; omega
          go_wp2_with fail
          go_quiet (fail)
          go_wp2_with fail
          go_quiet (fail)
          go_wp2_with fail
          go_ret
          have hc : C = 1 := by rw [HC.out]; have hba := lex_lt hb ha (by omega) (by rw [← HA.out, ← HB.out]; exact fun j hj => (hz.out j hj).symm) (by rw [← HA.out, ← HB.out, ← HX.out, ← HY.out]; exact hyx); unfold cmpv; rw [if_neg (by omega), if_pos hba]
          rw [hc]
          exact ⟨rfl, ((gW.trans (below_drewN _ _ _)).trans (below_drewN _ _ _)).trans (below_drewN _ _ _)⟩
        · have d2 : (decide ((y : Int) < (x : Int))) = false := by simp; omega
          go_wp2_with fail
          go_quiet (fail)
          go_wp2_with fail
          go_quiet (fail)
          go_wp2_with fail
          go_roundw
          case rel => exact ⟨i, by omega, by go_num, ⟨_, rfl⟩, fun j hj => by
            rcases Nat.lt_or_ge j (i + 1) with hlt | hge
            · obtain rfl : j = i := by omega
              rw [← HX.out, ← HY.out]; omega
            · exact hz.out j hge⟩
          case measure => simp [intOf]
    · obtain rfl : k = 0 := by omega
      go_wp2_with fail
      go_ret
      have hc : C = 0 := by rw [HC.out, lex_eq ha hb (by rw [← HA.out, ← HB.out]; exact hz.out)]; simp [cmpv]
      rw [hc]
      exact ⟨rfl, gW.trans (below_drewN _ _ _)⟩
end Go.Proofs.Ytihffojljbgpcaa
