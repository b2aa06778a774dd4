/- The contract of package nat's timesPlus. -/
import Derived.Test.YteaafnjflghlhaaDoorWordLeaf
namespace Go.Proofs.YteaafnjflghlhaaDoor
open Go.RowKit

set_option maxRecDepth 100000 in
set_option maxHeartbeats 1000000 in
theorem times_c (x y c d : Nat) (hx : Lim x) (hy : Lim y) (hc : Lim c) (hd : Lim d) (w : World) :
    Calls Tryd.prog 90 #[.int .u64 x, .int .u64 y, .int .u64 c, .int .u64 d] w (RetPair (MulA x y c d) w) := by
  go_enter Tryd.func90, Tryd.ntmps90
  go_wp2_with fail
  refine (mul64_c x y hx hy _).mono ?_
  rintro e w1 ⟨h, l, rfl, hP, rfl⟩
  have hl : Lim l := hP.2.1
  have HP := Lib.hid hP
  clear hP
  go_wp2_with fail
  refine upon_add0 _ _ _ hl hc ?_
  intro s0 k0 A0 hk0 ls0
  go_wp2_with fail
  refine upon_add0 _ _ _ ls0 hd ?_
  intro s1 k1 A1 hk1 ls1
  go_wp2_with fail
  go_ret2
  obtain ⟨r, q1, q2⟩ := mulA_of hx hy hc hd HP.out A0 A1
  exact ⟨h + k0 + k1, s1, by rw [q1, q2]; rfl, r, rfl⟩
end Go.Proofs.YteaafnjflghlhaaDoor
