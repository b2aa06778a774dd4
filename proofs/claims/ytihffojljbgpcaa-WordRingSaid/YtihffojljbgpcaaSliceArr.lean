/- Slices of the arrays of nine and of four limbs. -/
import Derived.Test.YtihffojljbgpcaaProg
import Derived.WalkKit
namespace Go.Proofs.Ytihffojljbgpcaa
theorem arr9 : Try.prog.underlying 129 = some (.array (Try.prog.arrayLen 129) (Try.prog.elem 129)) := by kernel_rfl
theorem arr4 : Try.prog.underlying 24 = some (.array (Try.prog.arrayLen 24) (Try.prog.elem 24)) := by kernel_rfl
theorem len9 : Try.prog.arrayLen 129 = 9 := by kernel_rfl
theorem len4 : Try.prog.arrayLen 24 = 4 := by kernel_rfl
theorem elem9 (w : World) : (sizeOf (Try.prog.elem 129)).run Try.prog w = .ok 1 w := by kernel_rfl
theorem elem4 (w : World) : (sizeOf (Try.prog.elem 24)).run Try.prog w = .ok 1 w := by kernel_rfl
theorem slice9 (g lo hi : Nat) (h1 : lo ≤ hi) (h2 : hi ≤ 9) (h3 : lo < 9) (w : World) :
    (Instr.sliceAt 129 (.pointer (some ⟨g, 0, none⟩)) (some (.int .i64 (lo : Nat))) (some (.int .i64 (hi : Nat))) none).run Try.prog w = .ok (.slice (some ⟨g, lo, none⟩) (hi - lo) (9 - lo)) w := by
  rw [run_sliceAt_array_lh w _ _ arr9 .i64 .i64 lo hi (by omega) (by omega) (by rw [len9]; omega), elem9, len9]
  simp only [Result.andThen_ok, slicedAt, Int.toNat_natCast, Nat.mul_one]
  rw [if_neg (by omega)]
  congr 3
  unfold Addr.add
  by_cases h : lo = 0 <;> simp [h]
theorem slice4 (g hi : Nat) (h2 : hi ≤ 4) (w : World) :
    (Instr.sliceAt 24 (.pointer (some ⟨g, 0, none⟩)) none (some (.int .i64 (hi : Nat))) none).run Try.prog w = .ok (.slice (some ⟨g, 0, none⟩) hi 4) w := by
  rw [run_sliceAt_array_h w _ _ arr4 .i64 hi (by omega) (by rw [len4]; omega), elem4, len4]
  simp [slicedAt, Result.andThen_ok, Addr.add]
end Go.Proofs.Ytihffojljbgpcaa
