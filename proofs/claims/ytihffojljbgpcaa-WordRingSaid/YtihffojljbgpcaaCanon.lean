/- Words in one form: the word of a number, by its four limbs; contracts said of numbers alone. -/
import Derived.Test.YtihffojljbgpcaaWordMem
import Derived.Test.YtihffojljbgpcaaLimbs
import Derived.Lib.QuietBelow
namespace Go.Proofs.Ytihffojljbgpcaa
open Go.RowKit Go.Sort

/-- Limb i of n. -/
def lim (i n : Nat) : Nat := n / 18446744073709551616 ^ i % 18446744073709551616
abbrev W (n : Nat) : Value := W4 (lim 0 n) (lim 1 n) (lim 2 n) (lim 3 n)
theorem lim_lt (i n : Nat) : Lim (lim i n) := by unfold Lim lim; omega
theorem isW_lim {n : Nat} (h : Big n) : IsW (lim 0 n) (lim 1 n) (lim 2 n) (lim 3 n) n := by
  refine ⟨lim_lt _ _, lim_lt _ _, lim_lt _ _, lim_lt _ _, ?_⟩
  unfold Big at h
  have e0 : lim 0 n = n % 18446744073709551616 := by simp [lim]
  have e1 : lim 1 n = n / 18446744073709551616 % 18446744073709551616 := by simp [lim]
  have e2 : lim 2 n = n / 18446744073709551616 / 18446744073709551616 % 18446744073709551616 := by simp [lim, Nat.div_div_eq_div_mul]
  have e3 : lim 3 n = n / 18446744073709551616 / 18446744073709551616 / 18446744073709551616 % 18446744073709551616 := by simp [lim, Nat.div_div_eq_div_mul]
  have h4 : n / 18446744073709551616 / 18446744073709551616 / 18446744073709551616 < 18446744073709551616 := by
    rw [Nat.div_div_eq_div_mul, Nat.div_div_eq_div_mul]
    exact Nat.div_lt_of_lt_mul (by simpa using h)
  have d0 := Nat.div_add_mod n 18446744073709551616
  have d1 := Nat.div_add_mod (n / 18446744073709551616) 18446744073709551616
  have d2 := Nat.div_add_mod (n / 18446744073709551616 / 18446744073709551616) 18446744073709551616
  rw [e0, e1, e2, e3, Nat.mod_eq_of_lt h4]
  generalize n / 18446744073709551616 / 18446744073709551616 / 18446744073709551616 = c at *
  generalize n / 18446744073709551616 / 18446744073709551616 % 18446744073709551616 = r2 at *
  generalize n / 18446744073709551616 / 18446744073709551616 = q2 at *
  generalize n / 18446744073709551616 % 18446744073709551616 = r1 at *
  generalize n / 18446744073709551616 = q1 at *
  generalize n % 18446744073709551616 = r0 at *
  clear h h4 e0 e1 e2 e3
  grind
theorem IsW.canon {a b c d n : Nat} (h : IsW a b c d n) : a = lim 0 n ∧ b = lim 1 n ∧ c = lim 2 n ∧ d = lim 3 n := h.inj (isW_lim h.big)
theorem RetW.val {n : Nat} {w w' : World} {e : Ending} (h : RetW n w e w') : e = .returned (W n) ∧ Below w.heap.size w w' := by
  obtain ⟨a, b, c, d, rfl, hw, hb⟩ := h
  obtain ⟨rfl, rfl, rfl, rfl⟩ := hw.canon
  exact ⟨rfl, hb⟩
theorem big_mod (n : Nat) : Big (n % 115792089237316195423570985008687907853269984665640564039457584007913129639936) := by unfold Big; omega
theorem big_lim {n : Nat} (h : Lim n) : Big n := by unfold Lim at h; unfold Big; omega
theorem Calls.quietW {P : Program} {f : FuncId} {args : Array Value} {w : World} {d : Nat} {os : Array Obj} {n : Nat}
    (h : Calls P f args (grow (redrawn w d) os) (RetW n (grow (redrawn w d) os))) : Calls P f args (grow (redrawn w d) os) fun e w'' => e = .returned (W n) ∧ ∃ p : Regrown, w'' = grow (redrawn w p.d) p.os :=
  Calls.regrown_of (h.mono fun _ _ h => h.val)
theorem Calls.quietV {P : Program} {f : FuncId} {args : Array Value} {w : World} {d : Nat} {os : Array Obj} {v : Value}
    (h : Calls P f args (grow (redrawn w d) os) (RetV v (grow (redrawn w d) os))) : Calls P f args (grow (redrawn w d) os) fun e w'' => e = .returned v ∧ ∃ p : Regrown, w'' = grow (redrawn w p.d) p.os :=
  Calls.regrown_of h
end Go.Proofs.Ytihffojljbgpcaa
