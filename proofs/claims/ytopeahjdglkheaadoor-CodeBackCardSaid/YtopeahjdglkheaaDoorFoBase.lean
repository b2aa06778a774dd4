/- Package fork: isFork, between, told, small, isNaN, Less. -/
import Derived.Test.YtopeahjdglkheaaDoorFkFrom
import Derived.Laws.Rows
namespace Go.Proofs.YtopeahjdglkheaaDoor
open Go.RowKit

theorem isFork_c (f : Int) (w : World) : Calls Tryd.prog 56 #[.int .i64 f] w fun e w' => e = .returned (.bool (decide (0 ≤ f ∧ f ≤ 15))) ∧ w' = w := by
  by_cases h0 : 0 ≤ f
  · by_cases h1 : f < 16
    · rw [decide_eq_true (show 0 ≤ f ∧ f ≤ 15 by omega)]
      go_enter Tryd.func56, Tryd.ntmps56
      go_wp2_with fail
      go_ret
      exact ⟨rfl, rfl⟩
    · rw [decide_eq_false (show ¬ (0 ≤ f ∧ f ≤ 15) by omega)]
      go_enter Tryd.func56, Tryd.ntmps56
      go_wp2_with fail
      go_ret
      exact ⟨rfl, rfl⟩
  · rw [decide_eq_false (show ¬ (0 ≤ f ∧ f ≤ 15) by omega)]
    go_enter Tryd.func56, Tryd.ntmps56
    go_wp2_with fail
    go_ret
    exact ⟨rfl, rfl⟩

theorem between_c (n a b : Int) (w : World) : Calls Tryd.prog 70 #[.int .i64 n, .int .i64 a, .int .i64 b] w fun e w' => e = .returned (.bool (decide (a ≤ n ∧ n ≤ b))) ∧ w' = w := by
  by_cases h0 : a ≤ n
  · by_cases h1 : n ≤ b
    · rw [decide_eq_true (show a ≤ n ∧ n ≤ b by omega)]
      go_enter Tryd.func70, Tryd.ntmps70
      go_wp2_with fail
      go_ret
      exact ⟨rfl, rfl⟩
    · rw [decide_eq_false (show ¬ (a ≤ n ∧ n ≤ b) by omega)]
      go_enter Tryd.func70, Tryd.ntmps70
      go_wp2_with fail
      go_ret
      exact ⟨rfl, rfl⟩
  · rw [decide_eq_false (show ¬ (a ≤ n ∧ n ≤ b) by omega)]
    go_enter Tryd.func70, Tryd.ntmps70
    go_wp2_with fail
    go_ret
    exact ⟨rfl, rfl⟩

/-- A letter's small one. -/
def smallZ (r : Int) : Int := if 65 ≤ r ∧ r ≤ 90 then r + 32 else r
end Go.Proofs.YtopeahjdglkheaaDoor
