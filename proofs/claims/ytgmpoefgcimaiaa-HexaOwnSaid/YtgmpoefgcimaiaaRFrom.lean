/- The contracts of package quarryref02's Of and From. -/
import Derived.Test.YtgmpoefgcimaiaaRAdd
import Derived.Test.YtgmpoefgcimaiaaDig
import Derived.BigRegion
import Derived.Test.YtgmpoefgcimaiaaRTrim
namespace Go.Proofs.Ytgmpoefgcimaiaa
open Go.RowKit

set_option maxRecDepth 100000 in
set_option maxHeartbeats 3200000 in
theorem rof_c (n : Nat) (hn : n < 18446744073709551616) (w : World) : Calls Try.prog 35 #[.int .u64 n] w (RetR (fun w' v => Num w' v n 2) w) := by
  obtain ⟨lo, elo⟩ : ∃ lo, lo = n % 4294967296 := ⟨_, rfl⟩
  obtain ⟨hi, ehi⟩ : ∃ hi, hi = n / 4294967296 := ⟨_, rfl⟩
  have vlo : IntKind.u32.wrap (n : Int) = (lo : Int) := by rw [IntKind.wrap_u32']; omega
  have hhi : (n : Int) / 4294967296 = (hi : Int) := by omega
  have vhi : IntKind.u32.wrap (hi : Int) = (hi : Int) := IntWalk.u32_in _ (by omega)
  have hd : Ds 4294967296 [lo, hi] := Ds.mk (by omega) (Ds.mk (by omega) Ds.nil)
  have hv : dv 4294967296 [lo, hi] = n := by simp only [dv]; omega
  have HD := Lib.hid hd
  have HV := Lib.hid hv
  clear elo ehi hn hd hv
  go_enter Try.func35, Try.ntmps35
  go_wp2_with fail
  have hrow := Row.new (k := .u32) w 99 [lo, hi]
  refine (rtrim_n _ hrow.rd0 rfl HD.out (show 2 ≤ 67108864 by omega)).mono ?_
  rintro e w' ⟨v, rfl, hv, rfl⟩
  rw [HV.out] at hv
  have HV2 := Lib.hid hv
  clear hv hrow
  go_wp2_with fail
  go_ret
  exact ⟨v, rfl, HV2.out, (Below.refl _ _).alloc (Nat.le_refl _) _⟩

end Go.Proofs.Ytgmpoefgcimaiaa
/- The contracts of package quarryref02's Bytes and Fill. -/
namespace Go.Proofs.Ytgmpoefgcimaiaa
open Go.RowKit

end Go.Proofs.Ytgmpoefgcimaiaa
/- The contract of package quarryref02's Fill. -/
namespace Go.Proofs.Ytgmpoefgcimaiaa
open Go.RowKit

end Go.Proofs.Ytgmpoefgcimaiaa
