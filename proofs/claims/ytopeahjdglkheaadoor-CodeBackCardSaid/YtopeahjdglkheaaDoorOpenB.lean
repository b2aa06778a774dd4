/- An argument of type []byte, opened: it reads as bytes. -/
import Derived.Test.YtopeahjdglkheaaDoorDig
import Derived.Test.YtopeahjdglkheaaDoorProg
import Derived.ProofKit
import Derived.OpenShut
import Derived.Carry
import Derived.Deep.MidRow
namespace Go.Proofs.YtopeahjdglkheaaDoor
open Go.ChangeShapes Go.WideShapes Go.ChangeAt Go.RowKit

theorem lawLaid : laidOutB Tryd.prog = true := by kernel_rfl
theorem cells8 : Tryd.prog.cellsOf 5 = 1 := by kernel_rfl
theorem byte_wf {x : Int} (h : (Lit.int .u8 x).wf = true) : 0 ≤ x ∧ x < 256 := by
  have h1 : IntKind.u8.min = 0 := rfl
  have h2 : IntKind.u8.max = 255 := rfl
  simp only [Lit.wf, Bool.and_eq_true, decide_eq_true_eq] at h
  omega
theorem open_rd {H : Type} {enc : TypeId × Value → H} {W : World} {A : Option Addr} {len cap : Nat} {d : DataW H} {p : List MemPlace}
    (h : DataW.Trod enc Tryd.prog W 0 (fun _ => true) true 31 (.slice A len cap) d p) : ∃ bs : List Nat, bs.length = len ∧ Rd .u8 W A cap bs ∧ Ds 256 bs := by
  obtain ⟨fuel, hf⟩ := h
  rcases open_ints Tryd.underlying31 Tryd.underlying5 cells8 hf with ⟨hcs, hx⟩ | ⟨a, len', cap', zs, hcs, _, hl, hm, hz, hx, hcell, hwz⟩
  · simp [Value.cells] at hcs
    obtain ⟨rfl, rfl, rfl⟩ := hcs
    exact ⟨[], rfl, Rd.nil _, Ds.nil⟩
  · simp [Value.cells] at hcs
    obtain ⟨rfl, rfl, rfl⟩ := hcs
    simp only [if_true] at hz
    have hr : ∀ j, j < zs.length → 0 ≤ zs.getD j 0 ∧ zs.getD j 0 < 256 := fun j hj => by
      have : zs.getD j 0 = zs[j] := by simp [hj]
      rw [this]
      exact byte_wf (hwz _ (List.getElem_mem hj))
    refine ⟨(zs.take len).map Int.toNat, by simp; omega, ⟨by simp; omega, (fun h => by cases h), fun hpos => ?_⟩, fun x hx => ?_⟩
    · have hpos' : 0 < len := by simp at hpos; omega
      obtain ⟨b, o, s⟩ := a
      have h0 := hcell 0 (by omega)
      obtain rfl : s = none := by simpa [Addr.add] using World.cell?_spot h0
      have hb : b < W.heap.size := by have := World.block_lt_of_cell? _ _ h0; simpa [block_add] using this
      refine ⟨b, o, rfl, hb, fun j hj => ?_⟩
      have hj' : j < len := by simp at hj; omega
      have h := hcell j (by omega)
      rw [Addr.add_mid] at h
      rw [h]
      have h2 := hr j (by omega)
      have e : ((((zs.take len).map Int.toNat).getD j 0 : Nat) : Int) = zs.getD j 0 := by
        have e1 : ((zs.take len).map Int.toNat).getD j 0 = (zs.getD j 0).toNat := by
          simp [List.getD_eq_getElem?_getD, hj', show j < zs.length by omega]
        rw [e1]
        omega
      rw [e]
    · rw [List.mem_map] at hx
      obtain ⟨z, hz', rfl⟩ := hx
      have := byte_wf (hwz z (List.mem_of_mem_take hz'))
      omega
end Go.Proofs.YtopeahjdglkheaaDoor
