/- The law NatForms, by the contracts of its callees. -/
import Derived.Test.YtkalmmpgcgempaaLawNatFormsneg
import Derived.Test.YtkalmmpgcgempaaLawNatFormsin
import Derived.Test.YtkalmmpgcgempaaLawNatFormsfar
namespace Go.Proofs.Ytkalmmpgcgempaa
open Go.RowKit

theorem natForms_c {A B M : Option Addr} {ca cb cm : Nat} {i wide : Int} {xs ys zs : List Nat} (w : World) (hA : Rd .u8 w A ca xs) (dA : Ds 256 xs) (hB : Rd .u8 w B cb ys) (dB : Ds 256 ys) (hM : Rd .u8 w M cm zs) (dM : Ds 256 zs) (wi : (Lit.int .i64 i).wf = true) :
    Calls Try.prog 11 #[.agg #[.slice A xs.length ca, .slice B ys.length cb, .slice M zs.length cm, .int .i64 i, .int .i64 wide]] w (RetV (.bool true) w) := by
  obtain ⟨_, b2⟩ := bounds_i64 wi
  by_cases hi : i < 0
  · by_cases hw : wide < 0
    · exact forms_neg_neg w hA dA hB dB hM dM hi hw
    · by_cases hw2 : 65536 < wide
      · exact forms_neg_far w hA dA hB dB hM dM hi hw2
      · obtain ⟨n, rfl⟩ := Int.eq_ofNat_of_zero_le (show 0 ≤ wide by omega)
        by_cases hf : nv (xs.take 600) < 256 ^ n
        · exact forms_neg_fit w hA dA hB dB hM dM hi (by omega) hf
        · exact forms_neg_short w hA dA hB dB hM dM hi (by omega) hf
  · obtain ⟨j, rfl⟩ := Int.eq_ofNat_of_zero_le (show 0 ≤ i by omega)
    have hj2 : j ≤ 9223372036854775807 := by omega
    by_cases hj : j < 4808
    · by_cases hw : wide < 0
      · exact forms_in_neg w hA dA hB dB hM dM hj hw
      · by_cases hw2 : 65536 < wide
        · exact forms_in_far w hA dA hB dB hM dM hj hw2
        · obtain ⟨n, rfl⟩ := Int.eq_ofNat_of_zero_le (show 0 ≤ wide by omega)
          by_cases hf : nv (xs.take 600) < 256 ^ n
          · exact forms_in_fit w hA dA hB dB hM dM hj (by omega) hf
          · exact forms_in_short w hA dA hB dB hM dM hj (by omega) hf
    · by_cases hw : wide < 0
      · exact forms_far_neg w hA dA hB dB hM dM (by omega) hj2 hw
      · by_cases hw2 : 65536 < wide
        · exact forms_far_far w hA dA hB dB hM dM (by omega) hj2 hw2
        · obtain ⟨n, rfl⟩ := Int.eq_ofNat_of_zero_le (show 0 ≤ wide by omega)
          by_cases hf : nv (xs.take 600) < 256 ^ n
          · exact forms_far_fit w hA dA hB dB hM dM (by omega) hj2 (by omega) hf
          · exact forms_far_short w hA dA hB dB hM dM (by omega) hj2 (by omega) hf
end Go.Proofs.Ytkalmmpgcgempaa
