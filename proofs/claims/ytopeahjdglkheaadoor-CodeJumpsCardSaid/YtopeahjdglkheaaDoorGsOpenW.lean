/- A word as an argument, opened.  -/
import Derived.Test.YtopeahjdglkheaaDoorOpenB
import Derived.Test.YtopeahjdglkheaaDoorWordMath
import Derived.ProofKit
import Derived.OpenShut
import Derived.Deep.Strs
namespace Go.Proofs.YtopeahjdglkheaaDoor
open Go.ChangeShapes Go.WideShapes Go.ChangeAt Go.RowKit Go.Deep

/-- Numbers, one cell each, out of cells of which each is one. -/
theorem gs_nums {k : IntKind} {B : Nat} {cs : List Value} (h : ∀ i, i < cs.length → ∃ n : Nat, n < B ∧ cs[i]? = some (.int k (n : Nat))) : ∃ bs : List Nat, bs.length = cs.length ∧ Ds B bs ∧ cs = bs.map fun n : Nat => Value.int k (n : Int) := by
  induction cs with
  | nil => exact ⟨[], rfl, (fun x hx => by cases hx), rfl⟩
  | cons c r ih =>
    obtain ⟨n, hn, hc⟩ := h 0 (by simp)
    obtain ⟨bs, h1, h2, h3⟩ := ih fun i hi => by
      obtain ⟨m, hm, hc⟩ := h (i + 1) (by simp; omega)
      exact ⟨m, hm, by simpa using hc⟩
    simp at hc
    subst hc
    refine ⟨n :: bs, by simp [h1], fun x hx => ?_, by rw [List.map_cons, ← h3]⟩
    rcases List.mem_cons.1 hx with rfl | hx
    · exact hn
    · exact h2 x hx
theorem gs_u64wf {z : Int} (h : (Lit.int .u64 z).wf = true) : 0 ≤ z ∧ z < 18446744073709551616 := by
  have h1 : IntKind.u64.min = 0 := rfl
  have h2 : IntKind.u64.max = 18446744073709551615 := rfl
  simp only [Lit.wf, Bool.and_eq_true, decide_eq_true_eq] at h
  omega
theorem gs_cells64 : Tryd.prog.cellsOf 32 = 1 := by kernel_rfl
theorem gs_cellsI : Tryd.prog.cellsOf 3 = 1 := by kernel_rfl
theorem gs_cellsB : Tryd.prog.cellsOf 4 = 1 := by kernel_rfl
theorem gs_cellsW : Tryd.prog.cellsOf 34 = 4 := by kernel_rfl
theorem gs_trodU {H : Type} {enc : TypeId × Value → H} {W : World} {base fuel : Nat} {spare : Nat → Bool} {held : Bool} {cs : List Value} {x : DataW H × List MemPlace} (h : DataW.trod enc Tryd.prog W base spare held fuel 32 cs = some x) :
    ∃ n : Nat, n < 18446744073709551616 ∧ cs = [.int .u64 (n : Nat)] := by
  obtain ⟨z, e1, e2, wf⟩ := DataW.trod_int Tryd.underlying32 h
  obtain ⟨b1, b2⟩ := gs_u64wf wf
  exact ⟨z.toNat, by omega, by rw [e1, Int.toNat_of_nonneg b1]⟩
theorem gs_trodI {H : Type} {enc : TypeId × Value → H} {W : World} {base fuel : Nat} {spare : Nat → Bool} {held : Bool} {cs : List Value} {x : DataW H × List MemPlace} (h : DataW.trod enc Tryd.prog W base spare held fuel 3 cs = some x) :
    ∃ z : Int, cs = [.int .i64 z] := by
  obtain ⟨z, e1, -, -⟩ := DataW.trod_int Tryd.underlying3 h
  exact ⟨z, e1⟩
/-- A word's cells. -/
def WL (a : Nat) : List Value := [.int .u64 (lim 0 a : Nat), .int .u64 (lim 1 a : Nat), .int .u64 (lim 2 a : Nat), .int .u64 (lim 3 a : Nat)]
theorem gs_trodW {H : Type} {enc : TypeId × Value → H} {W : World} {base fuel : Nat} {spare : Nat → Bool} {held : Bool} {cs : List Value} {x : DataW H × List MemPlace} (h : DataW.trod enc Tryd.prog W base spare held fuel 34 cs = some x) :
    ∃ a : Nat, Big a ∧ cs = WL a := by
  obtain ⟨ys, m, -, -, hl, hyl, hf⟩ := DataW.trod_array Tryd.underlying34 h
  rw [gs_cellsW] at hl
  rw [gs_cells64] at hf
  obtain ⟨bs, h1, h2, h3⟩ := gs_nums (k := .u64) (B := 18446744073709551616) (cs := cs) fun i hi => by
    have h1 := hf i (by omega)
    rw [Nat.mul_one] at h1
    obtain ⟨y, hy⟩ : ∃ y, ys[i]? = some y := ⟨_, List.getElem?_eq_getElem (by omega)⟩
    rw [hy] at h1
    obtain ⟨n, hn, e1⟩ := gs_trodU h1
    refine ⟨n, hn, ?_⟩
    have h4 := congrArg (fun l : List Value => l[0]?) e1
    simp at h4
    exact h4
  have hb : bs.length = 4 := by omega
  match bs, hb with
  | [a, b, c, d], _ =>
    have hw := isW_val (a := a) (b := b) (c := c) (d := d) (Lims.four (h2 a (by simp)) (h2 b (by simp)) (h2 c (by simp)) (h2 d (by simp)))
    obtain ⟨e0, e1, e2, e3⟩ := hw.canon
    refine ⟨_, hw.big, ?_⟩
    rw [h3]
    unfold WL
    rw [← e0, ← e1, ← e2, ← e3]
    rfl
set_option maxRecDepth 100000 in
theorem gs_openW {H : Type} {enc : TypeId × Value → H} {w : World} {base : Nat} {v : Value} {d : DataW H} {p : List MemPlace} (hv : Value.okWide Tryd.prog w .any base 34 v)
    (h : DataW.Trod enc Tryd.prog w 0 (fun _ => true) true 34 v d p) : ∃ a : Nat, Big a ∧ v = W a := by
  obtain ⟨cs, rfl, _, _⟩ : ∃ cs, v = .agg cs ∧ cs.size = Tryd.prog.cellsOf 34 ∧ Row.okWide Tryd.prog w .any base 34 cs := by
    simpa [Value.okWide, Tryd.underlying34] using hv
  obtain ⟨fuel, hf⟩ := h
  obtain ⟨a, ha, e⟩ := gs_trodW hf
  obtain ⟨l⟩ := cs
  have h5 : l = _ := e
  exact ⟨a, ha, by rw [h5]; rfl⟩
end Go.Proofs.YtopeahjdglkheaaDoor
