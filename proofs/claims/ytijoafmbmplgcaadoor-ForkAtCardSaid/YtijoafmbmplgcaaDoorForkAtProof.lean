/- ForkAt holds: of any plan, block and time fork.At tells the fork that holds, and fork.At and fork.Check refuse the plans that are none, as the document's own answers have it; no condition, the table of the names as the program lays it (a tied card, over the pruned copy of the project). -/
import Derived.Test.YtijoafmbmplgcaaDoorRows
import Derived.Test.YtijoafmbmplgcaaDoorCards
import Derived.Test.YtijoafmbmplgcaaDoorTie
import Derived.Test.YtijoafmbmplgcaaDoorFkLaid
import Derived.SevenTiedAt
import Derived.Test.YtijoafmbmplgcaaDoorLawForkAt
import Derived.Test.YtijoafmbmplgcaaDoorFkOpenC
import Derived.ProofKit
import Derived.OpenShut
import Derived.Deep.Strs
import Derived.Test.YtijoafmbmplgcaaDoorOpenB
namespace Go.Proofs.YtijoafmbmplgcaaDoor.WForkAt
open Go.ChangeShapes Go.WideShapes Go.ChangeAt Go.RowKit Go.Deep
open Go.ChangeMaps (open_string shut_string)

theorem own : ownKnob Tryd.prog.godebug = none := by kernel_rfl
set_option maxRecDepth 100000 in
theorem openU64 {H : Type} {enc : TypeId × Value → H} {w : World} {base : Nat} {v : Value} {d : DataW H} {p : List MemPlace} (hv : Value.okWide Tryd.prog w .any base 22 v) (h : DataW.Trod enc Tryd.prog w 0 (fun _ => true) true 22 v d p) :
    ∃ n : Nat, v = .int .u64 (n : Nat) ∧ n < 18446744073709551616 := by
  obtain ⟨x, rfl, _, _, wy⟩ := open_int Tryd.underlying22 hv h
  obtain ⟨h1, h2⟩ := u64_wf wy
  exact ⟨x.toNat, by rw [Int.toNat_of_nonneg h1], by omega⟩

set_option maxRecDepth 100000 in
theorem lifted (os : Os) (started : os.Started) (H : Type) (enc : TypeId × Value → H) :
    ReturnsInHanded {} Tryd.checked os 3 .any (fun w args => (Rows.forkAtSpec.pre enc Tryd.prog Tryd.f3 [] false w args ∧ laidMetH Tryd.prog Rows.forkAtRow.laid w) ∧ sizedMet enc Tryd.prog Tryd.f3 (OpenSpec.ofChange Rows.forkAtSpec) false w args)
      (Rows.forkAtSpec.post enc Tryd.prog Tryd.f3 false true false false) := by
  refine returnsInHanded_of_change_and (C := Tryd.checked) (X := fun w _ => laidMetH Tryd.prog Rows.forkAtRow.laid w) (fun _ _ _ hh h => h.of_heap hh) own started (by kernel_rfl) Tryd.func3
    (ChangeSpec.witness_shaped (enc := enc) (C := Tryd.checked) (os := os) (X := fun w _ => laidMetH Tryd.prog Rows.forkAtRow.laid w) false (World.laidAll Tryd.prog os Rows.forkAtRow.laid) #[.agg #[.int .u64 0, .int .u64 0, .int .u64 0, .int .u64 0, .int .u64 0, .int .u64 0, .int .u64 0, .int .u64 0, .int .u64 0, .int .u64 0, .int .u64 0, .int .u64 0, .int .u64 0, .int .u64 0, .int .u64 0, .int .u64 0, .int .u64 0, .int .u64 0, .slice none 0 0, .int .u8 0, .int .u8 0, .int .u8 0, .int .u8 0, .int .u8 0, .int .u8 0, .int .u8 0, .int .u8 0, .int .u8 0, .int .u8 0, .int .u8 0, .int .u8 0, .int .u8 0, .int .u8 0, .int .u8 0, .int .u8 0, .int .u8 0, .int .u8 0, .int .u8 0, .int .u8 0], .int .u64 0, .int .u64 0] 8 (World.laidAll_os _ _ _) (World.shaped_of_ZipB (by kernel_rfl) (by kernel_rfl)) (by kernel_rfl) (by kernel_rfl) (by kernel_rfl) (one_met os _)) ?_
  intro W base args ds gs before hval0 hW _ _ hL _
  have hN : NamesAt W := one_names hL
  have hval : ∀ (j : Nat) t v, Tryd.f3.params[j]? = some t → args[j]? = some v → Value.okWide Tryd.prog W .any base t v := hval0
  have hW' := hW
  obtain ⟨p, q, hA0, hV, rfl, hfz, hnd⟩ := hW
  have hA : DataW.TrodAll enc Tryd.prog W 0 (fun _ => true) true Tryd.f3.params.toList args.toList ds p := hA0
  rw [Tryd.params3] at hA hval
  obtain ⟨v0, vs0, d0, ds0, p0, q0, hargs, rfl, rfl, h0, r0⟩ := trodAll_cons hA
  obtain ⟨v1, vs1, d1, ds1, p1, q1, rfl, rfl, rfl, h1, r1⟩ := trodAll_cons r0
  obtain ⟨v2, vs2, d2, ds2, p2, q2, rfl, rfl, rfl, h2, r2⟩ := trodAll_cons r1
  obtain ⟨rfl, rfl, rfl⟩ := trodAll_nil r2
  obtain rfl : args = #[v0, v1, v2] := by cases args; simp_all
  obtain ⟨rfl, rfl⟩ := trodVars_none hV
  obtain ⟨ch0, bl0, t00, t10, dao0, A0, c0, fs0, ta0, rfl, hl0, ht0, hc0, had0, hfd0⟩ := open_conf (hval 0 29 v0 rfl rfl) h0
  obtain ⟨m1, rfl, hm1⟩ := openU64 (hval 1 22 v1 rfl rfl) h1
  obtain ⟨m2, rfl, hm2⟩ := openU64 (hval 2 22 v2 rfl rfl) h2
  clear hA0 hval0
  have hcall := forkAt_c (ch := ch0) (t0 := t00) (t1 := t10) (dao := dao0) hl0 ht0 W hN had0 hfd0 hc0 m1 m2
  refine hcall.mono fun e W' ⟨he, hb⟩ => ?_
  subst he
  have harg0 := Below.trod lawLaid (by kernel_rfl) (of_decide_eq_true (by kernel_rfl)) h0 hb (fun x hx => hW'.lt x (by simp [hx]))
  have harg1 := Below.trod lawLaid (by kernel_rfl) (of_decide_eq_true (by kernel_rfl)) h1 hb (fun x hx => hW'.lt x (by simp [hx]))
  have harg2 := Below.trod lawLaid (by kernel_rfl) (of_decide_eq_true (by kernel_rfl)) h2 hb (fun x hx => hW'.lt x (by simp [hx]))
  have hA2 := (trodAll_cons_mk harg0 (trodAll_cons_mk harg1 (trodAll_cons_mk harg2 trodAll_mk0)))
  exact ⟨_, rfl, _, _, _, [] ++ [], _, [], hW', trodAll_cons_mk (shut_bool Tryd.underlying4 _) trodAll_mk0,
    hA2, rfl, hb.frame _, fun h => by cases h⟩

theorem proved : Rows.ForkAtSaid :=
  OpenClaim.holds_of_wide 3 Tryd.f3 rfl rfl rfl rfl rfl rfl rfl ⟨rfl, rfl, rfl, rfl, rfl⟩ rfl rfl rfl rfl rfl (by kernel_rfl) Tryd.func3 (by kernel_rfl)
    (of_decide_eq_true (by kernel_rfl)) (by unfold Func.isWrapper; first | (rw [if_pos (by decide +kernel)]; kernel_rfl) | (rw [if_neg (by decide +kernel)]; exact ⟨rfl, rfl⟩))
    (fun os started H enc _ => lifted os started H enc)
end Go.Proofs.YtijoafmbmplgcaaDoor.WForkAt
namespace Go.Proofs.YtijoafmbmplgcaaDoor
set_option maxRecDepth 100000 in
theorem forkAt_holds : Rows.ForkAtCardSaid :=
  Claim7.holds_tied_plain_at .later [] [.data] true (true, "ba4687d7d41072b93f5875af7c7a1bf16738822cd51deed3cfd2421ab475e6ae") false
    WForkAt.proved (fun _ h => by cases h) (by kernel_rfl) (fun _ h => by cases h) forkAt_row_tie rfl ⟨rfl, rfl⟩ (by kernel_rfl) rfl
    (fun f fn hf hfn => by
      obtain rfl : f = 3 := Option.some.inj ((show Tryd.prog.funcNamed Rows.forkAtRow.func = some 3 by kernel_rfl).symm.trans hf) |>.symm
      obtain rfl : fn = Tryd.f3 := (Option.some.inj (Tryd.func3.symm.trans hfn)).symm
      exact ⟨by kernel_rfl, fun j t ht => by
        rw [Tryd.params3] at ht
        have hall : (([29, 22, 22] : List TypeId).all fun u => !Tryd.prog.wantsStandIn u) = true := by kernel_rfl
        have hm : t ∈ ([29, 22, 22] : List TypeId) := by simpa using Array.mem_of_getElem? ht
        exact (show Tryd.prog.wantsStandIn t = false by simpa using List.all_eq_true.1 hall t hm)⟩)
    (by kernel_rfl)
#print axioms forkAt_holds
end Go.Proofs.YtijoafmbmplgcaaDoor
