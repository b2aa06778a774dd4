/- What '==' says of two words. -/
import Derived.Test.YtiflfcdegpmhnaaProg
import Derived.Test.YtiflfcdegpmhnaaWordMath
import Derived.ChangeKeysEq
import Derived.WalkKit
namespace Go.Proofs.Ytiflfcdegpmhnaa
open Go.RowKit

theorem info22 : (Try.prog.info? 22).isSome = true := by kernel_rfl
theorem cells22 : Try.prog.cellsOf 22 = 1 := by kernel_rfl
theorem part4 (a b c d : Nat) (w : World) : (part 22 #[.int .u64 (a : Nat), .int .u64 (b : Nat), .int .u64 (c : Nat), .int .u64 (d : Nat)] 0).run Try.prog w = .ok (.int .u64 (a : Nat)) w ∧
   (part 22 #[.int .u64 (a : Nat), .int .u64 (b : Nat), .int .u64 (c : Nat), .int .u64 (d : Nat)] 1).run Try.prog w = .ok (.int .u64 (b : Nat)) w ∧
   (part 22 #[.int .u64 (a : Nat), .int .u64 (b : Nat), .int .u64 (c : Nat), .int .u64 (d : Nat)] 2).run Try.prog w = .ok (.int .u64 (c : Nat)) w ∧
   (part 22 #[.int .u64 (a : Nat), .int .u64 (b : Nat), .int .u64 (c : Nat), .int .u64 (d : Nat)] 3).run Try.prog w = .ok (.int .u64 (d : Nat)) w := by
  refine ⟨?_, ?_, ?_, ?_⟩ <;> kernel_rfl
set_option maxRecDepth 100000 in
theorem eqIn (a b c d a' b' c' d' : Nat) (w : World) : (Op.equalIn 10000 24 (W4 a b c d) (W4 a' b' c' d')).run Try.prog w = .ok (decide (a = a' ∧ b = b' ∧ c = c' ∧ d = d')) w := by
  obtain ⟨i, hi⟩ := Option.isSome_iff_exists.1 info22
  obtain ⟨p0, p1, p2, p3⟩ := part4 a b c d w
  obtain ⟨r0, r1, r2, r3⟩ := part4 a' b' c' d' w
  rw [run_equalIn_array w 9999 _ _ Try.underlying24 hi, cells22]
  have e : ∀ x y : Nat, (Op.equalIn 9999 22 (.int .u64 (x : Nat)) (.int .u64 (y : Nat))).run Try.prog w = .ok (decide (x = y)) w := fun x y => by
    rw [run_equalIn_int w 9998 _ _ _ _ _ Try.underlying22]
    congr 1
    by_cases h : x = y
    · simp [h]
    · simp [h]; omega
  show (Op.eqItems 9999 22 1 _ _ [0, 1, 2, 3]).run Try.prog w = _
  have step : ∀ (j x y : Nat) (is : List Nat) (xs ys : Array Value), (part 22 xs (j * 1)).run Try.prog w = .ok (.int .u64 (x : Nat)) w → (part 22 ys (j * 1)).run Try.prog w = .ok (.int .u64 (y : Nat)) w →
      (Op.eqItems 9999 22 1 xs ys (j :: is)).run Try.prog w = if x = y then (Op.eqItems 9999 22 1 xs ys is).run Try.prog w else .ok false w := by
    intro j x y is xs ys h1 h2
    simp only [Op.eqItems, Sem.run_bind, h1, h2, e, Result.andThen_ok]
    by_cases h : x = y
    · simp [h]
    · simp [h]
  rw [step 0 a a' _ _ _ p0 r0, step 1 b b' _ _ _ p1 r1, step 2 c c' _ _ _ p2 r2, step 3 d d' _ _ _ p3 r3]
  by_cases h0 : a = a' <;> by_cases h1 : b = b' <;> by_cases h2 : c = c' <;> by_cases h3 : d = d' <;> simp [h0, h1, h2, h3, Op.eqItems]
theorem eqIn_same (a b c d : Nat) (w : World) : (Op.equalIn 10000 24 (W4 a b c d) (W4 a b c d)).run Try.prog w = .ok true w := by
  rw [eqIn]; simp
end Go.Proofs.Ytiflfcdegpmhnaa
/- Slices of the arrays of nine and of four limbs. -/
namespace Go.Proofs.Ytiflfcdegpmhnaa
theorem arr4 : Try.prog.underlying 24 = some (.array (Try.prog.arrayLen 24) (Try.prog.elem 24)) := by kernel_rfl
theorem len4 : Try.prog.arrayLen 24 = 4 := by kernel_rfl
theorem elem4 (w : World) : (sizeOf (Try.prog.elem 24)).run Try.prog w = .ok 1 w := by kernel_rfl
theorem slice4 (g hi : Nat) (h2 : hi ≤ 4) (w : World) :
    (Instr.sliceAt 24 (.pointer (some ⟨g, 0, none⟩)) none (some (.int .i64 (hi : Nat))) none).run Try.prog w = .ok (.slice (some ⟨g, 0, none⟩) hi 4) w := by
  rw [run_sliceAt_array_h w _ _ arr4 .i64 hi (by omega) (by rw [len4]; omega), elem4, len4]
  simp [slicedAt, Result.andThen_ok, Addr.add]
end Go.Proofs.Ytiflfcdegpmhnaa
