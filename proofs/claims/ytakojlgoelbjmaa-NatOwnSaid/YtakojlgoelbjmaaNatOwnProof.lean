/- NatOwn holds: for any three numbers, as bytes, what package nat is handed stays as it was, spare room too, and what it tells is the caller's own; no condition. -/
import Derived.Test.YtakojlgoelbjmaaRows
import Derived.Test.YtakojlgoelbjmaaLawNatOwn
import Derived.ProofKit
import Derived.OpenShut
import Derived.Deep.Strs
import Derived.Test.YtakojlgoelbjmaaOpenB
namespace Go.Proofs.Ytakojlgoelbjmaa.WNatOwn
open Go.ChangeShapes Go.WideShapes Go.ChangeAt Go.RowKit Go.Deep

set_option maxRecDepth 100000 in
theorem lifted (os : Os) (started : os.Started) (H : Type) (enc : TypeId × Value → H) :
    ReturnsInHanded {} Try.checked os 3 .any (Rows.natOwnSpec.pre6 enc Try.prog Try.f3 Rows.natOwnRow.domain false) (Rows.natOwnSpec.post enc Try.prog Try.f3 false true false false) := by
  refine returnsInHanded_of_change (C := Try.checked) lawOwnN started (by kernel_rfl) Try.func3
    (ChangeSpec.witness6 (enc := enc) (C := Try.checked) false ⟨#[], #[.agg #[.slice none 0 0, .slice none 0 0, .slice none 0 0, .int .i64 0, .int .i64 0]], []⟩ 8 (by kernel_rfl) (by kernel_rfl) (by kernel_rfl) (by kernel_rfl)) ?_
  intro W base args ds gs before hval0 hW _ _
  have hval : ∀ (j : Nat) t v, Try.f3.params[j]? = some t → args[j]? = some v → Value.okWide Try.prog W .any base t v := hval0
  have hW' := hW
  obtain ⟨p, q, hA0, hV, rfl, hfz, hnd⟩ := hW
  have hA : DataW.TrodAll enc Try.prog W 0 (fun _ => true) true Try.f3.params.toList args.toList ds p := hA0
  rw [Try.params3] at hA hval
  obtain ⟨v0, vs0, d0, ds0, p0, q0, hargs, rfl, rfl, h0, r0⟩ := trodAll_cons hA
  obtain ⟨rfl, rfl, rfl⟩ := trodAll_nil r0
  obtain rfl : args = #[v0] := by cases args; simp_all
  obtain ⟨rfl, rfl⟩ := trodVars_none hV
  obtain ⟨A, xs, ca, B, ys, cb, M, zs, cm, i, wide, rfl, a1, a2, b1, b2, m1, m2, wi, wj⟩ := lawOpenN (hval 0 24 v0 rfl rfl) h0
  clear hA0 hval0
  simp only [List.append_nil] at hW'
  have hlt : ∀ x ∈ p0, x.block < W.heap.size := fun x hx => hW'.lt x (by simp [hx])
  have hcall := natOwn_c (i := i) (wide := wide) W a1 a2 b1 b2 m1 m2
  refine hcall.mono fun e W' ⟨he, hb⟩ => ?_
  subst he
  have harg0 := Below.trod lawLaid (by kernel_rfl) (of_decide_eq_true (by kernel_rfl)) h0 hb hlt
  have hA2 := trodAll_cons_mk harg0 trodAll_mk0
  rw [List.append_nil] at hA2
  exact ⟨_, rfl, _, _, _, [] ++ [], p0, [], hW', trodAll_cons_mk (shut_bool Try.underlying4 _) trodAll_mk0,
    hA2, rfl, hb.frame _, fun h => by cases h⟩

theorem proved : Rows.NatOwnSaid :=
  OpenClaim.holds_of_wide 3 Try.f3 rfl rfl rfl rfl rfl rfl rfl ⟨rfl, rfl, rfl, rfl, rfl⟩ rfl rfl rfl rfl rfl (by kernel_rfl) Try.func3 (by kernel_rfl)
    (of_decide_eq_true (by kernel_rfl)) (by unfold Func.isWrapper; first | (rw [if_pos (by decide +kernel)]; kernel_rfl) | (rw [if_neg (by decide +kernel)]; exact ⟨rfl, rfl⟩))
    (fun os started H enc _ => lifted os started H enc)
end Go.Proofs.Ytakojlgoelbjmaa.WNatOwn
namespace Go.Proofs.Ytakojlgoelbjmaa
theorem natOwn_holds : Rows.NatOwnSaid := WNatOwn.proved
#print axioms natOwn_holds
end Go.Proofs.Ytakojlgoelbjmaa
