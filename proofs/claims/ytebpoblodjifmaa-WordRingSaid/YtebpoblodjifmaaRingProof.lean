/- WordRing holds: for any three words, as the law says; no condition. -/
import Derived.Test.YtebpoblodjifmaaRows
import Derived.Test.YtebpoblodjifmaaRing
import Derived.ProofKit
import Derived.OpenShut
import Derived.Deep.Strs
namespace Go.Proofs.Ytebpoblodjifmaa.WRing
open Go.ChangeShapes Go.WideShapes Go.ChangeAt Go.RowKit Go.Deep

theorem own : ownKnob Try.prog.godebug = none := by kernel_rfl
theorem cellsW : Try.prog.cellsOf 24 = 4 := by kernel_rfl
theorem cells3 : Try.prog.cellsOf 26 = 12 := by kernel_rfl

abbrev D4 (H : Type) (a b c e : Nat) : DataW H := .agg [.lit (.int .u64 a), .lit (.int .u64 b), .lit (.int .u64 c), .lit (.int .u64 e)]

/-- Four cells that came in as a word. -/
theorem open_cells {H : Type} {enc : TypeId × Value → H} {w : World} {spareB : Nat} {spare : Nat → Bool} {held : Bool} {fuel : Nat} {c0 c1 c2 c3 : Value} {y : DataW H × List MemPlace}
    (hf : DataW.trod enc Try.prog w spareB spare held fuel 24 [c0, c1, c2, c3] = some y) :
    ∃ a b c e : Nat, c0 = .int .u64 a ∧ c1 = .int .u64 b ∧ c2 = .int .u64 c ∧ c3 = .int .u64 e ∧ y = (D4 H a b c e, []) ∧ Lim a ∧ Lim b ∧ Lim c ∧ Lim e := by
  obtain ⟨y0, y1, y2, y3, m, rfl, hy0, hy1, hy2, hy3⟩ := trod_array4 Try.underlying24 cells22 hf
  obtain ⟨x0, e0, rfl, w0⟩ := DataW.trod_int Try.underlying22 hy0
  obtain ⟨x1, e1, rfl, w1⟩ := DataW.trod_int Try.underlying22 hy1
  obtain ⟨x2, e2, rfl, w2⟩ := DataW.trod_int Try.underlying22 hy2
  obtain ⟨x3, e3, rfl, w3⟩ := DataW.trod_int Try.underlying22 hy3
  simp at e0 e1 e2 e3
  subst e0 e1 e2 e3
  have n : ∀ x : Int, (Lit.int .u64 x).wf = true → ∃ k : Nat, x = (k : Int) ∧ Lim k := by
    intro x hx
    obtain ⟨h1, h2⟩ := bounds_u64 hx
    exact ⟨x.toNat, by omega, by unfold Lim; omega⟩
  obtain ⟨a, rfl, la⟩ := n x0 w0
  obtain ⟨b, rfl, lb⟩ := n x1 w1
  obtain ⟨c, rfl, lc⟩ := n x2 w2
  obtain ⟨e, rfl, le⟩ := n x3 w3
  exact ⟨a, b, c, e, rfl, rfl, rfl, rfl, rfl, la, lb, lc, le⟩

/-- Three words that came in. -/
theorem open_three {H : Type} {enc : TypeId × Value → H} {w : World} {base spareB : Nat} {spare : Nat → Bool} {held : Bool} {v : Value} {d : DataW H} {p : List MemPlace}
    (hv : Value.okWide Try.prog w .any base 26 v) (h : DataW.Trod enc Try.prog w spareB spare held 26 v d p) :
    ∃ a b c : Nat, v = W3 a b c ∧ p = [] ∧ Big a ∧ Big b ∧ Big c ∧ d = .agg [D4 H (lim 0 a) (lim 1 a) (lim 2 a) (lim 3 a), D4 H (lim 0 b) (lim 1 b) (lim 2 b) (lim 3 b), D4 H (lim 0 c) (lim 1 c) (lim 2 c) (lim 3 c)] := by
  obtain ⟨cs, rfl, hsz, _⟩ : ∃ cs, v = .agg cs ∧ cs.size = Try.prog.cellsOf 26 ∧ Row.okWide Try.prog w .any base 26 cs := by
    simpa [Value.okWide, Try.underlying26] using hv
  rw [cells3] at hsz
  obtain ⟨l⟩ := cs
  obtain ⟨c0, c1, c2, c3, c4, c5, c6, c7, c8, c9, ca, cb, rfl⟩ : ∃ c0 c1 c2 c3 c4 c5 c6 c7 c8 c9 ca cb, l = [c0, c1, c2, c3, c4, c5, c6, c7, c8, c9, ca, cb] := by
    match l, hsz with
    | [c0, c1, c2, c3, c4, c5, c6, c7, c8, c9, ca, cb], _ => exact ⟨c0, c1, c2, c3, c4, c5, c6, c7, c8, c9, ca, cb, rfl⟩
  obtain ⟨fuel, hf⟩ := h
  obtain ⟨y0, y1, y2, m, hx, _, hy0, hy1, hy2⟩ := trod_struct3 Try.underlying26 hf
  simp only [cellsW, Value.cells, List.drop_zero, List.drop_succ_cons, List.take_succ_cons, List.take_zero] at hy0 hy1 hy2
  obtain ⟨a0, a1, a2, a3, rfl, rfl, rfl, rfl, rfl, la0, la1, la2, la3⟩ := open_cells hy0
  obtain ⟨b0, b1, b2, b3, rfl, rfl, rfl, rfl, rfl, lb0, lb1, lb2, lb3⟩ := open_cells hy1
  obtain ⟨d0, d1, d2, d3, rfl, rfl, rfl, rfl, rfl, ld0, ld1, ld2, ld3⟩ := open_cells hy2
  simp only [Prod.mk.injEq, List.append_nil] at hx
  obtain ⟨rfl, rfl⟩ := hx
  obtain ⟨a, ha⟩ := IsW.of la0 la1 la2 la3
  obtain ⟨b, hb⟩ := IsW.of lb0 lb1 lb2 lb3
  obtain ⟨c, hc⟩ := IsW.of ld0 ld1 ld2 ld3
  obtain ⟨rfl, rfl, rfl, rfl⟩ := ha.canon
  obtain ⟨rfl, rfl, rfl, rfl⟩ := hb.canon
  obtain ⟨rfl, rfl, rfl, rfl⟩ := hc.canon
  exact ⟨a, b, c, rfl, rfl, ha.big, hb.big, hc.big, rfl⟩
theorem wf_lim {a : Nat} (h : Lim a) : (Lit.int .u64 (a : Int)).wf = true := by
  unfold Lim at h
  exact WalkArith.wf_u64 (by omega)
theorem shut_three {H : Type} {enc : TypeId × Value → H} {w : World} {base : Nat} {spare : Nat → Bool} {held : Bool} (a b c : Nat) :
    DataW.Trod enc Try.prog w base spare held 26 (W3 a b c) (.agg [D4 H (lim 0 a) (lim 1 a) (lim 2 a) (lim 3 a), D4 H (lim 0 b) (lim 1 b) (lim 2 b) (lim 3 b), D4 H (lim 0 c) (lim 1 c) (lim 2 c) (lim 3 c)]) [] :=
  ⟨3, by simp [DataW.trod, Value.cells, Try.underlying26, Try.underlying24, Try.underlying22, cells3, cellsW, cells22, List.range_succ, wf_lim (lim_lt _ _)]⟩

set_option maxRecDepth 100000 in
theorem lifted (os : Os) (started : os.Started) (H : Type) (enc : TypeId × Value → H) :
    ReturnsInHanded {} Try.checked os 8 .any (Rows.wordRingSpec.pre6 enc Try.prog Try.f8 Rows.wordRingRow.domain false) (Rows.wordRingSpec.post enc Try.prog Try.f8 false true false false) := by
  refine returnsInHanded_of_change (C := Try.checked) own started (by kernel_rfl) Try.func8
    (ChangeSpec.witness6 (enc := enc) (C := Try.checked) false ⟨#[], #[.agg #[.int .u64 0, .int .u64 0, .int .u64 0, .int .u64 0, .int .u64 0, .int .u64 0, .int .u64 0, .int .u64 0, .int .u64 0, .int .u64 0, .int .u64 0, .int .u64 0]], []⟩ 8 (by kernel_rfl) (by kernel_rfl) (by kernel_rfl) (by kernel_rfl)) ?_
  intro W base args ds gs before hval0 hW _ _
  have hval : ∀ (j : Nat) t v, Try.f8.params[j]? = some t → args[j]? = some v → Value.okWide Try.prog W .any base t v := hval0
  have hW' := hW
  obtain ⟨p, q, hA0, hV, rfl, hfz, hnd⟩ := hW
  have hA : DataW.TrodAll enc Try.prog W 0 (fun _ => true) true Try.f8.params.toList args.toList ds p := hA0
  rw [Try.params8] at hA hval
  obtain ⟨v0, vs0, d0, ds0, p0, q0, hargs, rfl, rfl, h0, r0⟩ := trodAll_cons hA
  obtain ⟨rfl, rfl, rfl⟩ := trodAll_nil r0
  obtain rfl : args = #[v0] := by cases args; simp_all
  obtain ⟨rfl, rfl⟩ := trodVars_none hV
  obtain ⟨a, b, c, rfl, rfl, ha, hb, hc, rfl⟩ := open_three (hval 0 26 v0 rfl rfl) h0
  clear hA0 hval0
  simp only [List.append_nil] at hW'
  have hcall := ring_c ha hb hc W
  refine hcall.mono fun e W' ⟨he, hb⟩ => ?_
  subst he
  exact ⟨_, rfl, _, _, _, [] ++ [], [] ++ [], [], hW', trodAll_cons_mk (shut_bool Try.underlying4 _) trodAll_mk0,
    trodAll_cons_mk (shut_three a b c) trodAll_mk0, rfl, hb.frame _, fun h => by cases h⟩

theorem proved : Rows.WordRingSaid :=
  OpenClaim.holds_of_wide 8 Try.f8 rfl rfl rfl rfl rfl rfl rfl ⟨rfl, rfl, rfl, rfl, rfl⟩ rfl rfl rfl rfl rfl (by kernel_rfl) Try.func8 (by kernel_rfl)
    (of_decide_eq_true (by kernel_rfl)) (by unfold Func.isWrapper; first | (rw [if_pos (by decide +kernel)]; kernel_rfl) | (rw [if_neg (by decide +kernel)]; exact ⟨rfl, rfl⟩))
    (fun os started H enc _ => lifted os started H enc)
end Go.Proofs.Ytebpoblodjifmaa.WRing
namespace Go.Proofs.Ytebpoblodjifmaa
theorem wordRing_holds : Rows.WordRingSaid := WRing.proved
#print axioms wordRing_holds
end Go.Proofs.Ytebpoblodjifmaa
