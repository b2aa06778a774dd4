/- The law's own first runs: Add(3, 4), Div(7, 2), Sub(0, 1) are as the document tells. -/
import Derived.Test.YtihffojljbgpcaaWordDiv
import Derived.Test.YtihffojljbgpcaaWordMath
import Derived.Test.YtihffojljbgpcaaEqArr
namespace Go.Proofs.Ytihffojljbgpcaa
open Go.RowKit

theorem div72 : DivideSays 7 0 0 0 2 0 0 0 7 2 := by
  intro w
  have h := divide_one (x0 := 7) (x1 := 0) (x2 := 0) (x3 := 0) (x4 := 0) (x5 := 0) (x6 := 0) (x7 := 0) (d0 := 2) (d1 := 0) (d2 := 0) (d3 := 0) (d := 2) (by intro x hx; simp at hx; unfold Lim; omega) (by unfold IsW; omega)
    ⟨by simp, fun j hj => by
      by_cases h4 : j < 4
      · rcases (show j = 1 ∨ j = 2 ∨ j = 3 by omega) with rfl | rfl | rfl <;> rfl
      · simp [List.getElem?_eq_none (show [2, 0, 0, 0].length ≤ j by simp; omega)], fun _ => by simp⟩ (by simp [vl]) w
  have e : vl [7, 0, 0, 0, 0, 0, 0, 0] = 7 := by simp [vl]
  rw [e] at h
  exact h

set_option maxRecDepth 100000 in
set_option maxHeartbeats 1600000 in
theorem wakes_c (w : World) : Calls Try.prog 35 #[] w (RetV (.bool true) w) := by
  have i7 : IsW 7 0 0 0 7 := by unfold IsW; omega
  have i2 : IsW 2 0 0 0 2 := by unfold IsW; omega
  have i0 : IsW 0 0 0 0 0 := by unfold IsW; omega
  have i1 : IsW 1 0 0 0 1 := by unfold IsW; omega
  have i3 : IsW 3 0 0 0 3 := by unfold IsW; omega
  have iM : IsW 18446744073709551615 18446744073709551615 18446744073709551615 18446744073709551615 ((115792089237316195423570985008687907853269984665640564039457584007913129639936 + 0 - 1) % 115792089237316195423570985008687907853269984665640564039457584007913129639936) := ⟨by decide, by decide, by decide, by decide, by decide⟩
  have q7 : ∀ w, (Op.equalIn 10000 24 (.agg #[.int .u64 7, .int .u64 0, .int .u64 0, .int .u64 0]) (.agg #[.int .u64 7, .int .u64 0, .int .u64 0, .int .u64 0])).run Try.prog w = .ok true w := eqIn_same 7 0 0 0
  have q3 : ∀ w, (Op.equalIn 10000 24 (.agg #[.int .u64 3, .int .u64 0, .int .u64 0, .int .u64 0]) (.agg #[.int .u64 3, .int .u64 0, .int .u64 0, .int .u64 0])).run Try.prog w = .ok true w := eqIn_same 3 0 0 0
  have qM : ∀ w, (Op.equalIn 10000 24 (.agg #[.int .u64 18446744073709551615, .int .u64 18446744073709551615, .int .u64 18446744073709551615, .int .u64 18446744073709551615]) (.agg #[.int .u64 18446744073709551615, .int .u64 18446744073709551615, .int .u64 18446744073709551615, .int .u64 18446744073709551615])).run Try.prog w = .ok true w :=
    eqIn_same 18446744073709551615 18446744073709551615 18446744073709551615 18446744073709551615
  go_enter Try.func35, Try.ntmps35
  go_wp2_with fail
  refine (of_c 3 (by unfold Lim; omega) _).mono ?_
  rintro e w1 ⟨p0, p1, p2, p3, rfl, hp, hb1⟩
  go_wp2_with fail
  refine (of_c 4 (by unfold Lim; omega) _).mono ?_
  rintro e w2 ⟨q0, q1, q2, q3, rfl, hq, hb2⟩
  go_wp2_with fail
  refine (add_c hp hq _).mono ?_
  rintro e w3 ⟨s0, s1, s2, s3, rfl, hs, hb3⟩
  obtain ⟨rfl, rfl, rfl, rfl⟩ := hs.inj (i7.eq (by decide))
  go_wp2_with fail
  refine (div_of i7 div72 _).mono ?_
  rintro e w4 ⟨t0, t1, t2, t3, rfl, ht, hb4⟩
  obtain ⟨rfl, rfl, rfl, rfl⟩ := ht.inj (i3.eq (by decide))
  go_wp2_with fail
  refine (sub_c i0 i1 _).mono ?_
  rintro e w5 ⟨u0, u1, u2, u3, rfl, hu, hb5⟩
  obtain ⟨rfl, rfl, rfl, rfl⟩ := hu.inj iM
  go_wp2_with fail
  go_ret
  exact ⟨rfl, hb1.trans ((hb2.mono hb1.size).trans ((hb3.mono (Nat.le_trans hb1.size hb2.size)).trans ((hb4.mono (Nat.le_trans hb1.size (Nat.le_trans hb2.size hb3.size))).trans (hb5.mono (Nat.le_trans hb1.size (Nat.le_trans hb2.size (Nat.le_trans hb3.size hb4.size)))))))⟩
end Go.Proofs.Ytihffojljbgpcaa
