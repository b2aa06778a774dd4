/- HexaRunes holds, whatever the input, with no condition: a text whose first runes are right, and then comes one that is no hex digit, is refused just at that rune. -/
import Derived.Test.YtgmpoefgcimaiaaRows
import Derived.Test.YtgmpoefgcimaiaaLawHexaRunes
import Derived.Test.YtgmpoefgcimaiaaOpenB
import Derived.ProofKit
import Derived.OpenShut
import Derived.SizedLaws
import Derived.Deep.Strs
namespace Go.Proofs.Ytgmpoefgcimaiaa.WHexaRunes
open Go.ChangeShapes Go.WideShapes Go.ChangeAt Go.RowKit Go.Deep
open Go.ChangeMaps (open_string shut_string)

theorem own : ownKnob Try.prog.godebug = none := by kernel_rfl
theorem cellsR : Try.prog.cellsOf 44 = 4 := by kernel_rfl
theorem cellsS : Try.prog.cellsOf 22 = 1 := by kernel_rfl
theorem cellsB : Try.prog.cellsOf 4 = 1 := by kernel_rfl
theorem cellsI : Try.prog.cellsOf 21 = 1 := by kernel_rfl
theorem cellsT : Try.prog.cellsOf 9 = 1 := by kernel_rfl
theorem trod_struct4 {P : Program} {H : Type} {enc : TypeId × Value → H} {w : World} {base : Nat} {spare : Nat → Bool} {held : Bool} {t : TypeId} {f0 f1 f2 f3 : Field} {fuel : Nat} {cs : List Value} {x : DataW H × List MemPlace} (ht : P.underlying t = some (.struct #[f0, f1, f2, f3])) (h : DataW.trod enc P w base spare held fuel t cs = some x) :
    ∃ y0 y1 y2 y3 n, x.1 = .agg [y0.1, y1.1, y2.1, y3.1] ∧ cs.length = P.cellsOf t ∧ DataW.trod enc P w base spare held n f0.type ((cs.drop f0.offset).take (P.cellsOf f0.type)) = some y0 ∧
      DataW.trod enc P w base spare held n f1.type ((cs.drop f1.offset).take (P.cellsOf f1.type)) = some y1 ∧ DataW.trod enc P w base spare held n f2.type ((cs.drop f2.offset).take (P.cellsOf f2.type)) = some y2 ∧
      DataW.trod enc P w base spare held n f3.type ((cs.drop f3.offset).take (P.cellsOf f3.type)) = some y3 := by
  obtain ⟨xs, n, _, rfl, hl, hlen, hf⟩ := DataW.trod_struct ht h
  match xs, hlen with
  | [y0, y1, y2, y3], _ => exact ⟨y0, y1, y2, y3, n, by simp, hl, by simpa using hf 0 f0 rfl, by simpa using hf 1 f1 rfl, by simpa using hf 2 f2 rfl, by simpa using hf 3 f3 rfl⟩
theorem trod_slice_cell {H : Type} {enc : TypeId × Value → H} {w : World} {c : Value} {n : Nat} {y : DataW H × List MemPlace} (h : DataW.trod enc Try.prog w 0 (fun _ => true) true n 22 [c] = some y) : ∃ A xs cap, c = .slice A xs.length cap ∧ Rd .u8 w A cap xs ∧ Ds 256 xs := by
  rcases DataW.trod_slice Try.underlying22 h with ⟨hc, _⟩ | ⟨a, len, cap, _, _, _, _, hc, _⟩
  · obtain rfl : c = .slice none 0 0 := by simpa using hc
    exact ⟨none, [], 0, rfl, Rd.nil _, Ds.nil⟩
  · obtain rfl : c = .slice (some a) len cap := by simpa using hc
    obtain ⟨bs, hl, h1, h2⟩ := open_rd (A := some a) (len := len) (cap := cap) (d := y.1) (p := y.2) ⟨n, h⟩
    exact ⟨some a, bs, cap, by rw [hl], h1, h2⟩
theorem i32_wf {x : Int} (h : (Lit.int .i32 x).wf = true) : -2147483648 ≤ x ∧ x < 2147483648 := by
  have h1 : IntKind.i32.min = -2147483648 := rfl
  have h2 : IntKind.i32.max = 2147483647 := rfl
  simp only [Lit.wf, Bool.and_eq_true, decide_eq_true_eq] at h
  omega
set_option maxRecDepth 100000 in
/-- What came in, opened; and what the bound gives of the text behind. -/
theorem openR {H : Type} {enc : TypeId × Value → H} {w : World} {base : Nat} {v : Value} {d : DataW H} {p : List MemPlace}
    (hv : Value.okWide Try.prog w .any base 44 v) (h : DataW.Trod enc Try.prog w 0 (fun _ => true) true 44 v d p) (hk : (DataW.weightsEach Try.prog [44] [d]).all (· ≤ reachBytes) = true) :
    ∃ A xs ca b z s, v = .agg #[.slice A xs.length ca, .bool b, .int .i32 z, .string s] ∧ Rd .u8 w A ca xs ∧ Ds 256 xs ∧ -2147483648 ≤ z ∧ z < 2147483648 ∧ s.size ≤ 140737488351232 := by
  obtain ⟨cs, rfl, hsz, _⟩ : ∃ cs, v = .agg cs ∧ cs.size = Try.prog.cellsOf 44 ∧ Row.okWide Try.prog w .any base 44 cs := by
    simpa [Value.okWide, Try.underlying44] using hv
  rw [cellsR] at hsz
  obtain ⟨l⟩ := cs
  obtain ⟨c0, c1, c2, c3, rfl⟩ : ∃ c0 c1 c2 c3, l = [c0, c1, c2, c3] := by
    match l, hsz with
    | [c0, c1, c2, c3], _ => exact ⟨c0, c1, c2, c3, rfl⟩
  obtain ⟨fuel, hf⟩ := h
  obtain ⟨y0, y1, y2, y3, m, hx, _, h0, h1, h2, h3⟩ := trod_struct4 Try.underlying44 hf
  simp only [cellsS, cellsB, cellsI, cellsT, Value.cells, List.drop_zero, List.drop_succ_cons, List.take_succ_cons, List.take_zero] at h0 h1 h2 h3
  obtain ⟨A, xs, ca, rfl, a1, a2⟩ := trod_slice_cell h0
  obtain ⟨b, eb, _⟩ := DataW.trod_bool Try.underlying4 h1
  obtain ⟨z, ez, _, wz⟩ := DataW.trod_int Try.underlying21 h2
  obtain ⟨s, es, hs, _⟩ := DataW.trod_string Try.underlying9 h3
  simp at eb ez es
  subst eb ez es
  have hd : d = .agg [y0.1, y1.1, y2.1, .lit (.string s.data.toList)] := by
    have : d = .agg [y0.1, y1.1, y2.1, y3.1] := hx
    rw [this, hs]
  rw [hd] at hk
  have hb : s.data.toList.length ≤ reachBytes := by
    have h1 : s.data.toList.length ∈ (DataW.agg [y0.1, y1.1, y2.1, DataW.lit (H := H) (.string s.data.toList)]).weights Try.prog 44 := by
      simp only [DataW.weights, Try.underlying44]
      exact DataW.weights_mem_each (j := 3) rfl rfl _ (by simp [DataW.weights])
    have h2 := List.all_eq_true.1 hk _ (DataW.weights_mem_each (j := 0) rfl rfl _ h1)
    simpa using h2
  have e : s.data.toList.length = s.size := by rw [Array.length_toList]; rfl
  rw [show reachBytes = 140737488351232 from rfl] at hb
  obtain ⟨z1, z2⟩ := i32_wf wz
  exact ⟨A, xs, ca, b, z, s, rfl, a1, a2, z1, z2, by omega⟩

set_option maxRecDepth 100000 in
theorem contract (H : Type) (enc : TypeId × Value → H) (W : World) (base : Nat) (args : Array Value) (ds gs : List (DataW H)) (before : List MemPlace)
    (hval : ∀ (j : Nat) t v, Try.f4.params[j]? = some t → args[j]? = some v → Value.okWide Try.prog W .any base t v)
    (hW : DataW.Whole enc Try.prog Try.f4.params.toList Rows.hexaRunesSpec.vars false W args.toList ds gs before) (hk : (DataW.weightsEach Try.prog (Try.f4.params.toList ++ Rows.hexaRunesSpec.plain.varTypes Try.prog) (ds ++ gs)).all (· ≤ reachBytes) = true) :
    Calls Try.prog 4 args W fun e W' => ∃ v, e = .returned v ∧ Rows.hexaRunesSpec.post enc Try.prog Try.f4 false true false false W args v W' := by
  have hW' := hW
  obtain ⟨p, q, hA0, hV, rfl, hfz, hnd⟩ := hW
  have hA : DataW.TrodAll enc Try.prog W 0 (fun _ => true) true Try.f4.params.toList args.toList ds p := hA0
  rw [Try.params4] at hA hval hk
  obtain ⟨v0, vs0, d0, ds0, p0, q0, hargs, rfl, rfl, h0, r0⟩ := trodAll_cons hA
  obtain ⟨rfl, rfl, rfl⟩ := trodAll_nil r0
  obtain rfl : args = #[v0] := by cases args; simp_all
  obtain ⟨rfl, rfl⟩ := trodVars_none hV
  simp only [List.append_nil] at hW' hk
  rw [show Rows.hexaRunesSpec.plain.varTypes Try.prog = [] by kernel_rfl] at hk
  obtain ⟨A, xs, ca, b, z, s, rfl, hrd, hds, z1, z2, hs⟩ := openR (hval 0 44 v0 rfl rfl) h0 hk
  clear hA0
  refine (hexaRunes_c W hrd hds b z z1 z2 s hs).mono fun e W' ⟨he, hb⟩ => ?_
  subst he
  have harg0 := Below.trod lawLaid (by kernel_rfl) (of_decide_eq_true (by kernel_rfl)) h0 hb (fun x hx => hW'.lt x (by simp [hx]))
  have hA2 := trodAll_cons_mk harg0 trodAll_mk0
  rw [List.append_nil] at hA2
  exact ⟨_, rfl, _, _, _, [] ++ [], p0, [], hW', trodAll_cons_mk (shut_bool Try.underlying4 _) trodAll_mk0,
    hA2, rfl, hb.frame _, fun h => by cases h⟩

set_option maxRecDepth 100000 in
theorem lifted (os : Os) (started : os.Started) (H : Type) (enc : TypeId × Value → H) :
    ReturnsInHanded {} Try.checked os 4 .any (Rows.hexaRunesSpec.pre6 enc Try.prog Try.f4 Rows.hexaRunesRow.domain false) (Rows.hexaRunesSpec.post enc Try.prog Try.f4 false true false false) := by
  refine returnsInHanded_of_change_sized (C := Try.checked) own started (by kernel_rfl) Try.func4
    (ChangeSpec.witness6 (enc := enc) (C := Try.checked) false ⟨#[], #[.agg #[.slice none 0 0, .bool false, .int .i32 0, .string .empty]], []⟩ 8 (by kernel_rfl) (by kernel_rfl) (by kernel_rfl) (by kernel_rfl)) ?_
  intro W base args ds gs before hval hW _ hk _
  exact contract H enc W base args ds gs before hval hW hk

theorem proved : Rows.HexaRunesSaid :=
  OpenClaim.holds_of_wide 4 Try.f4 rfl rfl rfl rfl rfl rfl rfl ⟨rfl, rfl, rfl, rfl, rfl⟩ rfl rfl rfl rfl rfl (by kernel_rfl) Try.func4 (by kernel_rfl)
    (of_decide_eq_true (by kernel_rfl)) (by unfold Func.isWrapper; first | (rw [if_pos (by decide +kernel)]; kernel_rfl) | (rw [if_neg (by decide +kernel)]; exact ⟨rfl, rfl⟩))
    (fun os started H enc _ => lifted os started H enc)
end Go.Proofs.Ytgmpoefgcimaiaa.WHexaRunes
namespace Go.Proofs.Ytgmpoefgcimaiaa
theorem hexaRunes_holds : Rows.HexaRunesSaid := WHexaRunes.proved
#print axioms hexaRunes_holds
end Go.Proofs.Ytgmpoefgcimaiaa
