/- The contract of package word's guess: a digit by the three highest limbs of what is left and the two highest of the divisor. -/
import Derived.Test.YtihffojljbgpcaaDiv64
namespace Go.Proofs.Ytihffojljbgpcaa
open Go.RowKit

/-- What guess reckons. -/
def guessF (n2 n1 n0 d1 d0 : Nat) : Nat :=
  if d1 ≤ n2 then 18446744073709551615
  else if (n2 * 18446744073709551616 + n1) % d1 * 18446744073709551616 + n0 < (n2 * 18446744073709551616 + n1) / d1 * d0 then (n2 * 18446744073709551616 + n1) / d1 - 1
  else (n2 * 18446744073709551616 + n1) / d1
def RetDrewV (v : Value) (w : World) (e : Ending) (w' : World) : Prop := e = .returned v ∧ ∃ n, w' = w.drewN n

theorem wrap_pred {q : Nat} (lq : Lim q) (h : 1 ≤ q) : IntKind.u64.wrap ((q : Int) - 1) = ((q - 1 : Nat) : Int) := by
  unfold Lim at lq
  rw [IntKind.wrap_u64]; omega
theorem two_cmp {h l r n0 p : Nat} (e : l + 18446744073709551616 * h = p) (hl : l < 18446744073709551616) (hn : n0 < 18446744073709551616) : (r * 18446744073709551616 + n0 < p) ↔ (r < h ∨ (h = r ∧ n0 < l)) := by omega

set_option maxRecDepth 100000 in
set_option maxHeartbeats 1600000 in
theorem guess_c (n2 n1 n0 d1 d0 : Nat) (h1 : Lim n1) (h0 : Lim n0) (g1 : Lim d1) (g0 : Lim d0) (w : World) :
    Calls Try.prog 159 #[.int .u64 n2, .int .u64 n1, .int .u64 n0, .int .u64 d1, .int .u64 d0] w (RetDrewV (.int .u64 (guessF n2 n1 n0 d1 d0 : Nat)) w) := by
  by_cases hge : (d1 : Int) ≤ (n2 : Int)
  · go_enter Try.func159, Try.ntmps159
    go_wp2_with fail
    go_ret
    exact ⟨by unfold guessF; rw [if_pos (by omega)]; rfl, 0, rfl⟩
  · go_enter Try.func159, Try.ntmps159
    go_wp2_with fail
    refine (div64_c n2 n1 d1 h1 g1 (by omega) _).mono ?_
    rintro e w1 ⟨q, r, n, rfl, eq, er, lq, rfl⟩
    have EQ := Lib.hid eq
    have ER := Lib.hid er
    clear eq er
    have lr : Lim r := by rw [ER.out]; exact Nat.lt_trans (Nat.mod_lt _ (by omega)) g1
    go_wp2_with fail
    refine (mul64_c q d0 lq g0 _).mono ?_
    rintro e w2 ⟨h, l, rfl, hP, rfl⟩
    have hc := two_cmp (r := r) (n0 := n0) hP.1 hP.2.1 h0
    have HP := Lib.hid hP
    have hq1 : r < h ∨ (h = r ∧ n0 < l) → 1 ≤ q := fun hh => by
      have := hc.2 hh
      rcases Nat.eq_zero_or_pos q with rfl | h'
      · rw [Nat.zero_mul] at this; omega
      · exact h'
    have hF : ∀ t, (r < h ∨ (h = r ∧ n0 < l)) → t = q - 1 → guessF n2 n1 n0 d1 d0 = t := fun t hh ht => by
      unfold guessF
      rw [if_neg (by omega), ← EQ.out, ← ER.out, if_pos (hc.2 hh), ht]
    have hG : ¬ (r < h ∨ (h = r ∧ n0 < l)) → guessF n2 n1 n0 d1 d0 = q := fun hh => by
      unfold guessF
      rw [if_neg (by omega), ← EQ.out, ← ER.out, if_neg (fun h' => hh (hc.1 h'))]
    have HF := Lib.hid hF
    have HG := Lib.hid hG
    have HQ := Lib.hid hq1
    clear hP hc hF hG hq1
    by_cases c1 : (r : Int) < (h : Int)
    · have hq : 1 ≤ (q : Int) := by have := HQ.out (.inl (by omega)); omega
      go_wp2_with fail
      go_ret
      exact ⟨by rw [HF.out (q - 1) (.inl (by omega)) rfl, wrap_pred lq (HQ.out (.inl (by omega)))]; rfl, n, rfl⟩
    · by_cases c2 : h = r
      · subst c2
        by_cases c3 : (n0 : Int) < (l : Int)
        · have hq : 1 ≤ (q : Int) := by have := HQ.out (.inr ⟨by trivial, by omega⟩); omega
          go_wp2_with fail
          go_ret
          exact ⟨by rw [HF.out (q - 1) (.inr ⟨by trivial, by omega⟩) rfl, wrap_pred lq (HQ.out (.inr ⟨by trivial, by omega⟩))]; rfl, n, rfl⟩
        · go_wp2_with fail
          go_ret
          exact ⟨by rw [HG.out (by omega)]; rfl, n, rfl⟩
      · have hb : ((h : Int) == r) = false := by simp; omega
        go_wp2_with fail
        go_ret
        exact ⟨by rw [HG.out (by omega)]; rfl, n, rfl⟩
end Go.Proofs.Ytihffojljbgpcaa
