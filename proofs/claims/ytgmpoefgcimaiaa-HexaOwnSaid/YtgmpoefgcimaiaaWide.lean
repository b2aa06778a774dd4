/- The contract of package word's Wide. -/
import Derived.Test.YtgmpoefgcimaiaaProduct
import Derived.Test.YtgmpoefgcimaiaaDivide
import Derived.Deep.RegionHeld3
namespace Go.Proofs.Ytgmpoefgcimaiaa
open Go.RowKit

def RetWide (n : Nat) (w : World) (e : Ending) (w' : World) : Prop := ∃ h0 h1 h2 h3 l0 l1 l2 l3 : Nat, e = .returned (.tuple #[W4 h0 h1 h2 h3, W4 l0 l1 l2 l3]) ∧
  IsW h0 h1 h2 h3 (n / 115792089237316195423570985008687907853269984665640564039457584007913129639936) ∧ IsW l0 l1 l2 l3 (n % 115792089237316195423570985008687907853269984665640564039457584007913129639936) ∧ Below w.heap.size w w'

theorem wide_math {p0 p1 p2 p3 p4 p5 p6 p7 n : Nat} (hl : Lims [p0, p1, p2, p3, p4, p5, p6, p7]) (hv : vl [p0, p1, p2, p3, p4, p5, p6, p7] = n) :
    IsW p4 p5 p6 p7 (n / 115792089237316195423570985008687907853269984665640564039457584007913129639936) ∧ vl [p0, p1, p2, p3] = n % 115792089237316195423570985008687907853269984665640564039457584007913129639936 := by
  have hh : IsW p4 p5 p6 p7 (vl [p4, p5, p6, p7]) := isW_val (fun x hx => hl x (by simp at hx ⊢; omega))
  have hlo : IsW p0 p1 p2 p3 (vl [p0, p1, p2, p3]) := isW_val (fun x hx => hl x (by simp at hx ⊢; omega))
  have hb := hlo.big
  unfold Big at hb
  have e : n = vl [p0, p1, p2, p3] + 115792089237316195423570985008687907853269984665640564039457584007913129639936 * vl [p4, p5, p6, p7] := by
    rw [← hv]
    simp only [vl]
    grind
  generalize vl [p0, p1, p2, p3] = L at *
  generalize vl [p4, p5, p6, p7] = H at *
  clear hv
  have e1 : n / 115792089237316195423570985008687907853269984665640564039457584007913129639936 = H := by omega
  have e2 : n % 115792089237316195423570985008687907853269984665640564039457584007913129639936 = L := by omega
  rw [e1, e2]
  exact ⟨hh, rfl⟩

end Go.Proofs.Ytgmpoefgcimaiaa
