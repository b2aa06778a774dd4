/- More on lists of limbs: blocks of eight; long division by one limb. No program is named here. -/
import Derived.Test.YtihffojljbgpcaaWordMem
import Derived.Test.YtihffojljbgpcaaLimbs
namespace Go.Proofs.Ytihffojljbgpcaa
open Go.RowKit

section
variable {w w' : World} {g : Nat} {t : TypeId}
theorem Arr.cells8 {c0 c1 c2 c3 c4 c5 c6 c7 : Nat} (h : Arr w g t [c0, c1, c2, c3, c4, c5, c6, c7]) : w.cell? ⟨g, 0, none⟩ = some (.int .u64 (c0 : Nat)) ∧ w.cell? ⟨g, 1, none⟩ = some (.int .u64 (c1 : Nat)) ∧ w.cell? ⟨g, 2, none⟩ = some (.int .u64 (c2 : Nat)) ∧ w.cell? ⟨g, 3, none⟩ = some (.int .u64 (c3 : Nat)) ∧
    w.cell? ⟨g, 4, none⟩ = some (.int .u64 (c4 : Nat)) ∧ w.cell? ⟨g, 5, none⟩ = some (.int .u64 (c5 : Nat)) ∧ w.cell? ⟨g, 6, none⟩ = some (.int .u64 (c6 : Nat)) ∧ w.cell? ⟨g, 7, none⟩ = some (.int .u64 (c7 : Nat)) :=
  ⟨h.cell 0 (by simp), h.cell 1 (by simp), h.cell 2 (by simp), h.cell 3 (by simp), h.cell 4 (by simp), h.cell 5 (by simp), h.cell 6 (by simp), h.cell 7 (by simp)⟩
theorem Arr.free8 {xs : List Nat} (h : Arr w g t xs) : w.frozen? ⟨g, 0, none⟩ = false ∧ w.frozen? ⟨g, 1, none⟩ = false ∧ w.frozen? ⟨g, 2, none⟩ = false ∧ w.frozen? ⟨g, 3, none⟩ = false ∧ w.frozen? ⟨g, 4, none⟩ = false ∧ w.frozen? ⟨g, 5, none⟩ = false ∧ w.frozen? ⟨g, 6, none⟩ = false ∧ w.frozen? ⟨g, 7, none⟩ = false :=
  ⟨h.frozen 0, h.frozen 1, h.frozen 2, h.frozen 3, h.frozen 4, h.frozen 5, h.frozen 6, h.frozen 7⟩
theorem list8 {cs : List Nat} (h : cs.length = 8) : ∃ c0 c1 c2 c3 c4 c5 c6 c7, cs = [c0, c1, c2, c3, c4, c5, c6, c7] := by
  match cs, h with
  | [c0, c1, c2, c3, c4, c5, c6, c7], _ => exact ⟨c0, c1, c2, c3, c4, c5, c6, c7, rfl⟩
abbrev L8 (a b c d e f g h : Nat) : Value := .agg #[.int .u64 (a : Nat), .int .u64 (b : Nat), .int .u64 (c : Nat), .int .u64 (d : Nat), .int .u64 (e : Nat), .int .u64 (f : Nat), .int .u64 (g : Nat), .int .u64 (h : Nat)]
theorem below_put8 {B f : Nat} (h : Below B w w') (hf : B ≤ f) (v0 v1 v2 v3 v4 v5 v6 v7 : Value) :
    Below B w ((((((((w'.setCell ⟨f, 0, none⟩ v0).setCell ⟨f, 1, none⟩ v1).setCell ⟨f, 2, none⟩ v2).setCell ⟨f, 3, none⟩ v3).setCell ⟨f, 4, none⟩ v4).setCell ⟨f, 5, none⟩ v5).setCell ⟨f, 6, none⟩ v6).setCell ⟨f, 7, none⟩ v7) :=
  (((below_put4 h hf v0 v1 v2 v3).setCell (p := ⟨f, 4, none⟩) hf v4).setCell (p := ⟨f, 5, none⟩) hf v5).setCell (p := ⟨f, 6, none⟩) hf v6 |>.setCell (p := ⟨f, 7, none⟩) hf v7
theorem Arr.far8 {xs : List Nat} {f : Nat} (h : Arr w g t xs) (hf : g ≠ f) (v0 v1 v2 v3 v4 v5 v6 v7 : Value) :
    Arr ((((((((w.setCell ⟨f, 0, none⟩ v0).setCell ⟨f, 1, none⟩ v1).setCell ⟨f, 2, none⟩ v2).setCell ⟨f, 3, none⟩ v3).setCell ⟨f, 4, none⟩ v4).setCell ⟨f, 5, none⟩ v5).setCell ⟨f, 6, none⟩ v6).setCell ⟨f, 7, none⟩ v7) g t xs :=
  ((((h.far4 hf v0 v1 v2 v3).far (p := ⟨f, 4, none⟩) hf v4).far (p := ⟨f, 5, none⟩) hf v5).far (p := ⟨f, 6, none⟩) hf v6).far (p := ⟨f, 7, none⟩) hf v7
theorem Arr.put8 {c0 c1 c2 c3 c4 c5 c6 c7 : Nat} (h : Arr w g t [c0, c1, c2, c3, c4, c5, c6, c7]) (v0 v1 v2 v3 v4 v5 v6 v7 : Nat) :
    Arr ((((((((w.setCell ⟨g, 0, none⟩ (.int .u64 (v0 : Int))).setCell ⟨g, 1, none⟩ (.int .u64 (v1 : Int))).setCell ⟨g, 2, none⟩ (.int .u64 (v2 : Int))).setCell ⟨g, 3, none⟩ (.int .u64 (v3 : Int))).setCell ⟨g, 4, none⟩ (.int .u64 (v4 : Int))).setCell ⟨g, 5, none⟩ (.int .u64 (v5 : Int))).setCell ⟨g, 6, none⟩ (.int .u64 (v6 : Int))).setCell ⟨g, 7, none⟩ (.int .u64 (v7 : Int))) g t [v0, v1, v2, v3, v4, v5, v6, v7] :=
  (((((((h.set 0 v0).set 1 v1).set 2 v2).set 3 v3).set 4 v4).set 5 v5).set 6 v6).set 7 v7
end

/-- Long division by one limb: what is done when k limbs are still to come. -/
def SchoolInv (xs : List Nat) (d k left : Nat) (qs : List Nat) : Prop := left = vl (xs.drop k) % d ∧ vl (qs.drop k) = vl (xs.drop k) / d
theorem vl_drop_get (xs : List Nat) (k : Nat) (hk : k < xs.length) : vl (xs.drop k) = xs.getD k 0 + 18446744073709551616 * vl (xs.drop (k + 1)) := by
  rw [List.drop_eq_getElem_cons hk]
  simp [vl, List.getElem?_eq_getElem hk]
theorem school_step {xs qs : List Nat} {d k left q r : Nat} (h : SchoolInv xs d (k + 1) left qs) (hk : k < xs.length) (hq : k < qs.length) (hd : 0 < d)
    (e1 : q = (left * 18446744073709551616 + xs.getD k 0) / d) (e2 : r = (left * 18446744073709551616 + xs.getD k 0) % d) : SchoolInv xs d k r (qs.set k q) := by
  obtain ⟨h1, h2⟩ := h
  have h3 := vl_drop_get xs k hk
  have h4 := vl_drop_get (qs.set k q) k (by simpa using hq)
  have h5 : (qs.set k q).drop (k + 1) = qs.drop (k + 1) := by rw [List.drop_set, if_pos (by omega)]
  have h6 : (qs.set k q).getD k 0 = q := by simp [hq]
  rw [h5, h6, h2] at h4
  unfold SchoolInv
  rw [h4, h3]
  generalize xs.getD k 0 = x at *
  generalize vl (xs.drop (k + 1)) = H at *
  have h7 := Nat.div_add_mod H d
  rw [← h1] at h7
  have h8 : x + 18446744073709551616 * H = d * (18446744073709551616 * (H / d)) + (left * 18446744073709551616 + x) := by
    have e : 18446744073709551616 * H = 18446744073709551616 * (d * (H / d)) + 18446744073709551616 * left := by rw [← Nat.mul_add, h7]
    rw [e, Nat.mul_left_comm d]
    omega
  rw [h8, Nat.mul_add_mod, ← e2, Nat.mul_add_div hd, ← e1]
  exact ⟨rfl, by omega⟩
theorem school_start {xs qs : List Nat} {d k : Nat} (hx : vl (xs.drop k) = 0) (hq : vl (qs.drop k) = 0) : SchoolInv xs d k 0 qs := by
  unfold SchoolInv; rw [hx, hq]; simp
end Go.Proofs.Ytihffojljbgpcaa
