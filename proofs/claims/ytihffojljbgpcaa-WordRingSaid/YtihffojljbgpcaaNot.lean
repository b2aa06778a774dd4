/- The contract of package word's Not. -/
import Derived.Test.YtihffojljbgpcaaWordSum
import Derived.Laws.DeepNot64
namespace Go.Proofs.Ytihffojljbgpcaa
open Go.RowKit
theorem u64_not (a : Nat) (ha : Lim a) : bits .xor .u64 IntKind.u64.max (a : Int) = ((18446744073709551615 - a : Nat) : Int) := by
  unfold Lim at ha
  show IntKind.u64.wrap ((BitVec.ofInt 64 IntKind.u64.max ^^^ BitVec.ofInt 64 (a : Int)).toNat : Int) = _
  have h1 : BitVec.ofInt 64 IntKind.u64.max = BitVec.allOnes 64 := by decide
  rw [h1, BitVec.allOnes_xor, BitVec.toNat_not, ofInt_u64 a (by omega)]
  simp [IntKind.wrap, IntKind.bits, IntKind.signed]
  omega
set_option maxRecDepth 100000 in
set_option maxHeartbeats 1000000 in
theorem not_c {a0 a1 a2 a3 a : Nat} (ha : IsW a0 a1 a2 a3 a) (w : World) :
    Calls Try.prog 62 #[W4 a0 a1 a2 a3] w (RetW (115792089237316195423570985008687907853269984665640564039457584007913129639935 - a) w) := by
  obtain ⟨la0, la1, la2, la3⟩ := ha.lims
  go_enter Try.func62, Try.ntmps62
  go_wp2_with fail
  rw [u64_not a0 la0, u64_not a1 la1, u64_not a2 la2, u64_not a3 la3]
  refine bodyPost_ret (v := W4 (18446744073709551615 - a0) (18446744073709551615 - a1) (18446744073709551615 - a2) (18446744073709551615 - a3)) (by simp [results, Try.results62, go_sem]) rfl ⟨_, _, _, _, rfl, ?_, ?_⟩
  · obtain ⟨_, _, _, _, rfl⟩ := ha
    unfold Lim at *
    refine ⟨by omega, by omega, by omega, by omega, by omega⟩
  repeat (first | exact Below.refl _ _ | refine Below.setCell ?_ (by simp; try omega) _ | refine Below.alloc ?_ (by simp; try omega) _)
end Go.Proofs.Ytihffojljbgpcaa
