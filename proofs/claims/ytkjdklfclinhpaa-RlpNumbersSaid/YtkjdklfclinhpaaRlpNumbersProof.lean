/- RlpNumbers holds: for any bytes and any word, as the law says; no condition. -/
import Derived.Test.YtkjdklfclinhpaaRows
import Derived.Test.YtkjdklfclinhpaaLawRlpNumbers
import Derived.ProofKit
import Derived.OpenShut
import Derived.Deep.Strs
import Derived.Test.YtkjdklfclinhpaaOpenB
namespace Go.Proofs.Ytkjdklfclinhpaa.WRlpNumbers
open Go.ChangeShapes Go.WideShapes Go.ChangeAt Go.RowKit Go.Deep

theorem own : ownKnob Try.prog.godebug = none := by kernel_rfl
theorem cellsW : Try.prog.cellsOf 52 = 4 := by kernel_rfl

set_option maxRecDepth 100000 in
/-- A word that came in: its four limbs. -/
theorem open_word {H : Type} {enc : TypeId × Value → H} {w : World} {base spareB : Nat} {spare : Nat → Bool} {held : Bool} {v : Value} {d : DataW H} {p : List MemPlace}
    (hv : Value.okWide Try.prog w .any base 52 v) (h : DataW.Trod enc Try.prog w spareB spare held 52 v d p) :
    ∃ a b c e : Nat, v = W4 a b c e ∧ p = [] ∧ Lim a ∧ Lim b ∧ Lim c ∧ Lim e ∧ d = .agg [.lit (.int .u64 a), .lit (.int .u64 b), .lit (.int .u64 c), .lit (.int .u64 e)] := by
  obtain ⟨cs, rfl, hsz, _⟩ : ∃ cs, v = .agg cs ∧ cs.size = Try.prog.cellsOf 52 ∧ Row.okWide Try.prog w .any base 52 cs := by
    simpa [Value.okWide, Try.underlying52] using hv
  rw [cellsW] at hsz
  obtain ⟨l⟩ := cs
  obtain ⟨c0, c1, c2, c3, rfl⟩ : ∃ c0 c1 c2 c3, l = [c0, c1, c2, c3] := by
    match l, hsz with
    | [c0, c1, c2, c3], _ => exact ⟨c0, c1, c2, c3, rfl⟩
  obtain ⟨fuel, hf⟩ := h
  obtain ⟨y0, y1, y2, y3, m, hx, hy0, hy1, hy2, hy3⟩ := trod_array4 Try.underlying52 cells22 hf
  obtain ⟨x0, e0, rfl, w0⟩ := DataW.trod_int Try.underlying50 hy0
  obtain ⟨x1, e1, rfl, w1⟩ := DataW.trod_int Try.underlying50 hy1
  obtain ⟨x2, e2, rfl, w2⟩ := DataW.trod_int Try.underlying50 hy2
  obtain ⟨x3, e3, rfl, w3⟩ := DataW.trod_int Try.underlying50 hy3
  simp at e0 e1 e2 e3
  subst e0 e1 e2 e3
  simp only [Prod.mk.injEq] at hx
  obtain ⟨rfl, rfl⟩ := hx
  have n : ∀ x : Int, (Lit.int .u64 x).wf = true → ∃ k : Nat, x = (k : Int) ∧ Lim k := by
    intro x hx
    obtain ⟨h1, h2⟩ := bounds_u64 hx
    exact ⟨x.toNat, by omega, by unfold Lim; omega⟩
  obtain ⟨a, rfl, la⟩ := n x0 w0
  obtain ⟨b, rfl, lb⟩ := n x1 w1
  obtain ⟨c, rfl, lc⟩ := n x2 w2
  obtain ⟨e, rfl, le⟩ := n x3 w3
  exact ⟨a, b, c, e, rfl, rfl, la, lb, lc, le, rfl⟩
theorem wf_lim {a : Nat} (h : Lim a) : (Lit.int .u64 (a : Int)).wf = true := by
  unfold Lim at h
  exact WalkArith.wf_u64 (by omega)
set_option maxRecDepth 100000 in
/-- A word, read again in whatever memory. -/
theorem shut_word {H : Type} {enc : TypeId × Value → H} {w : World} {base : Nat} {spare : Nat → Bool} {held : Bool} {a b c e : Nat} (la : Lim a) (lb : Lim b) (lc : Lim c) (le : Lim e) :
    DataW.Trod enc Try.prog w base spare held 52 (W4 a b c e) (.agg [.lit (.int .u64 a), .lit (.int .u64 b), .lit (.int .u64 c), .lit (.int .u64 e)]) [] :=
  ⟨2, by simp [DataW.trod, Value.cells, Try.underlying52, Try.underlying50, cellsW, cells22, List.range_succ, wf_lim la, wf_lim lb, wf_lim lc, wf_lim le]⟩

set_option maxRecDepth 100000 in
theorem lifted (os : Os) (started : os.Started) (H : Type) (enc : TypeId × Value → H) :
    ReturnsInHanded {} Try.checked os 8 .any (Rows.rlpNumbersSpec.pre6 enc Try.prog Try.f8 Rows.rlpNumbersRow.domain false) (Rows.rlpNumbersSpec.post enc Try.prog Try.f8 false true false false) := by
  refine returnsInHanded_of_change (C := Try.checked) own started (by kernel_rfl) Try.func8
    (ChangeSpec.witness6 (enc := enc) (C := Try.checked) false ⟨#[], #[.slice none 0 0, .agg #[.int .u64 0, .int .u64 0, .int .u64 0, .int .u64 0]], []⟩ 8 (by kernel_rfl) (by kernel_rfl) (by kernel_rfl) (by kernel_rfl)) ?_
  intro W base args ds gs before hval0 hW _ _
  have hval : ∀ (j : Nat) t v, Try.f8.params[j]? = some t → args[j]? = some v → Value.okWide Try.prog W .any base t v := hval0
  have hW' := hW
  obtain ⟨p, q, hA0, hV, rfl, hfz, hnd⟩ := hW
  have hA : DataW.TrodAll enc Try.prog W 0 (fun _ => true) true Try.f8.params.toList args.toList ds p := hA0
  rw [Try.params8] at hA hval
  obtain ⟨v0, vs0, d0, ds0, p0, q0, hargs, rfl, rfl, h0, r0⟩ := trodAll_cons hA
  obtain ⟨v1, vs1, d1, ds1, p1, q1, rfl, rfl, rfl, h1, r1⟩ := trodAll_cons r0
  obtain ⟨rfl, rfl, rfl⟩ := trodAll_nil r1
  obtain rfl : args = #[v0, v1] := by cases args; simp_all
  obtain ⟨rfl, rfl⟩ := trodVars_none hV
  obtain ⟨A, len, cap, rfl⟩ := okWide_slice Try.underlying22 (hval 0 22 v0 rfl rfl)
  obtain ⟨bs, hbl, hrd, hds⟩ := open_rd h0
  obtain ⟨a0, a1, a2, a3, rfl, rfl, la0, la1, la2, la3, rfl⟩ := open_word (hval 1 52 v1 rfl rfl) h1
  clear hA0 hval0
  simp only [List.append_nil] at hW'
  obtain ⟨a, ha⟩ := IsW.of la0 la1 la2 la3
  obtain ⟨rfl, rfl, rfl, rfl⟩ := ha.canon
  have hlt : ∀ x ∈ p0, x.block < W.heap.size := fun x hx => hW'.lt x (by simp [hx])
  have hcall := rlpNumbers_c W hrd hds ha.big
  rw [hbl] at hcall
  refine hcall.mono fun e W' ⟨he, hb⟩ => ?_
  subst he
  have harg0 := Below.trod lawLaid (by kernel_rfl) (of_decide_eq_true (by kernel_rfl)) h0 hb hlt
  have hA2 := trodAll_cons_mk harg0 (trodAll_cons_mk (shut_word (enc := enc) (w := W') (base := 0) (spare := fun b => decide (b < W.heap.size)) (held := true) la0 la1 la2 la3) trodAll_mk0)
  rw [List.append_nil, List.append_nil] at hA2
  exact ⟨_, rfl, _, _, _, [] ++ [], p0, [], hW', trodAll_cons_mk (shut_bool Try.underlying4 _) trodAll_mk0,
    hA2, rfl, hb.frame _, fun h => by cases h⟩

theorem proved : Rows.RlpNumbersSaid :=
  OpenClaim.holds_of_wide 8 Try.f8 rfl rfl rfl rfl rfl rfl rfl ⟨rfl, rfl, rfl, rfl, rfl⟩ rfl rfl rfl rfl rfl (by kernel_rfl) Try.func8 (by kernel_rfl)
    (of_decide_eq_true (by kernel_rfl)) (by unfold Func.isWrapper; first | (rw [if_pos (by decide +kernel)]; kernel_rfl) | (rw [if_neg (by decide +kernel)]; exact ⟨rfl, rfl⟩))
    (fun os started H enc _ => lifted os started H enc)
end Go.Proofs.Ytkjdklfclinhpaa.WRlpNumbers
namespace Go.Proofs.Ytkjdklfclinhpaa
theorem rlpNumbers_holds : Rows.RlpNumbersSaid := WRlpNumbers.proved
#print axioms rlpNumbers_holds
end Go.Proofs.Ytkjdklfclinhpaa
