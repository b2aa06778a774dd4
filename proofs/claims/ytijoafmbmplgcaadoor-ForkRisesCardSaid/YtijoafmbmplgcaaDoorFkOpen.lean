/- Arguments of the laws of layer 13, opened: addresses by value. -/
import Derived.Test.YtijoafmbmplgcaaDoorFkCheck
import Derived.ProofKit
import Derived.OpenShut
import Derived.Deep.Strs
namespace Go.Proofs.YtijoafmbmplgcaaDoor
open Go.ChangeShapes Go.WideShapes Go.ChangeAt Go.RowKit Go.Deep

theorem cells20 : Tryd.prog.cellsOf 27 = 20 := by kernel_rfl
theorem cells1 : Tryd.prog.cellsOf 5 = 1 := by kernel_rfl
/-- Numbers, one cell each, out of cells of which each is one. -/
theorem nums_of {k : IntKind} {B : Nat} {cs : List Value} (h : ∀ i, i < cs.length → ∃ n : Nat, n < B ∧ cs[i]? = some (.int k (n : Nat))) : ∃ bs : List Nat, bs.length = cs.length ∧ Ds B bs ∧ cs = bs.map fun n : Nat => Value.int k (n : Int) := by
  induction cs with
  | nil => exact ⟨[], rfl, (fun x hx => by cases hx), rfl⟩
  | cons c r ih =>
    obtain ⟨n, hn, hc⟩ := h 0 (by simp)
    obtain ⟨bs, h1, h2, h3⟩ := ih fun i hi => by
      obtain ⟨m, hm, hc⟩ := h (i + 1) (by simp; omega)
      exact ⟨m, hm, by simpa using hc⟩
    simp at hc
    subst hc
    refine ⟨n :: bs, by simp [h1], fun x hx => ?_, by rw [List.map_cons, ← h3]⟩
    rcases List.mem_cons.1 hx with rfl | hx
    · exact hn
    · exact h2 x hx
theorem u8_wf {z : Int} (h : (Lit.int .u8 z).wf = true) : 0 ≤ z ∧ z < 256 := by
  have h1 : IntKind.u8.min = 0 := rfl
  have h2 : IntKind.u8.max = 255 := rfl
  simp only [Lit.wf, Bool.and_eq_true, decide_eq_true_eq] at h
  omega
theorem trod_addr {H : Type} {enc : TypeId × Value → H} {W : World} {base fuel : Nat} {spare : Nat → Bool} {held : Bool} {cs : List Value} {x : DataW H × List MemPlace} (h : DataW.trod enc Tryd.prog W base spare held fuel 27 cs = some x) :
    ∃ bs : List Nat, bs.length = 20 ∧ Ds 256 bs ∧ cs = bs.map fun n : Nat => Value.int .u8 (n : Int) := by
  obtain ⟨ys, m, -, -, hl, hyl, hf⟩ := DataW.trod_array Tryd.underlying27 h
  rw [cells20] at hl
  rw [cells1] at hf
  obtain ⟨bs, h1, h2, h3⟩ := nums_of (k := .u8) (B := 256) (cs := cs) fun i hi => by
    have h1 := hf i (by omega)
    rw [Nat.mul_one] at h1
    obtain ⟨y, hy⟩ : ∃ y, ys[i]? = some y := ⟨_, List.getElem?_eq_getElem (by omega)⟩
    rw [hy] at h1
    obtain ⟨z, e1, e2, wf⟩ := DataW.trod_int Tryd.underlying5 h1
    obtain ⟨b1, b2⟩ := u8_wf wf
    refine ⟨z.toNat, by omega, ?_⟩
    have h4 := congrArg (fun l : List Value => l[0]?) e1
    simp at h4
    rw [h4, Int.toNat_of_nonneg b1]
  exact ⟨bs, by omega, h2, h3⟩
theorem open_addr {H : Type} {enc : TypeId × Value → H} {w : World} {base : Nat} {v : Value} {d : DataW H} {p : List MemPlace} (hv : Value.okWide Tryd.prog w .any base 27 v)
    (h : DataW.Trod enc Tryd.prog w 0 (fun _ => true) true 27 v d p) : ∃ bs : List Nat, bs.length = 20 ∧ Ds 256 bs ∧ v = AdV bs := by
  obtain ⟨cs, rfl, _, _⟩ : ∃ cs, v = .agg cs ∧ cs.size = Tryd.prog.cellsOf 27 ∧ Row.okWide Tryd.prog w .any base 27 cs := by
    simpa [Value.okWide, Tryd.underlying27] using hv
  obtain ⟨fuel, hf⟩ := h
  obtain ⟨bs, h1, h2, h3⟩ := trod_addr hf
  refine ⟨bs, h1, h2, ?_⟩
  obtain ⟨l⟩ := cs
  have h4 : l = _ := h3
  rw [h4]
  rfl
end Go.Proofs.YtijoafmbmplgcaaDoor
