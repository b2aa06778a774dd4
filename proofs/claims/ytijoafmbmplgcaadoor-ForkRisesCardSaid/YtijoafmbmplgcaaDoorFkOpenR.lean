/- A Rise that comes in, opened. -/
import Derived.Test.YtijoafmbmplgcaaDoorFkOpenC
namespace Go.Proofs.YtijoafmbmplgcaaDoor
open Go.ChangeShapes Go.WideShapes Go.ChangeAt Go.RowKit Go.Deep

theorem cellsRise : Tryd.prog.cellsOf 57 = 44 := by kernel_rfl
theorem cellsInt : Tryd.prog.cellsOf 3 = 1 := by kernel_rfl
theorem open_rise {H : Type} {enc : TypeId × Value → H} {w : World} {base : Nat} {v : Value} {d : DataW H} {p : List MemPlace} (hv : Value.okWide Tryd.prog w .any base 57 v)
    (h : DataW.Trod enc Tryd.prog w 0 (fun _ => true) true 57 v d p) : ∃ (ch : Nat) (bl : List Nat) (t0 t1 dao : Nat) (A : Option Addr) (c : Nat) (fs : List (List Nat)) (ta : List Nat) (a0 a1 m0 m1 : Nat) (op : Int),
      v = .agg (ConfL ch bl t0 t1 dao (.slice A fs.length c) ta ++ [Value.int .u64 (a0 : Nat), Value.int .u64 (a1 : Nat), Value.int .u64 (m0 : Nat), Value.int .u64 (m1 : Nat), Value.int .i64 op]).toArray ∧ bl.length = 14 ∧ ta.length = 20 ∧ fs.length ≤ c ∧ AdsAt w A fs ∧ FineConf bl t1 fs ∧
      a0 < 18446744073709551616 ∧ a1 < 18446744073709551616 := by
  obtain ⟨cs, rfl, _, _⟩ : ∃ cs, v = .agg cs ∧ cs.size = Tryd.prog.cellsOf 57 ∧ Row.okWide Tryd.prog w .any base 57 cs := by
    simpa [Value.okWide, Tryd.underlying57] using hv
  obtain ⟨fuel, hf0⟩ := h
  obtain ⟨l⟩ := cs
  have hf1 : DataW.trod enc Tryd.prog w 0 (fun _ => true) true fuel 57 l = some (d, p) := hf0
  obtain ⟨xs, n, -, -, hl, hxl, hf⟩ := DataW.trod_struct Tryd.underlying57 hf1
  rw [cellsRise] at hl
  have hx4 : xs.length = 4 := hxl
  have get : ∀ i, i < 4 → ∃ y, xs[i]? = some y := fun i hi => ⟨_, List.getElem?_eq_getElem (by omega)⟩
  obtain ⟨y0, e0⟩ := get 0 (by omega)
  obtain ⟨y1, e1⟩ := get 1 (by omega)
  obtain ⟨y2, e2⟩ := get 2 (by omega)
  obtain ⟨y3, e3⟩ := get 3 (by omega)
  have p0 : DataW.trod enc Tryd.prog w 0 (fun _ => true) true n 29 ((l.drop 0).take (Tryd.prog.cellsOf 29)) = some y0 := (hf 0 _ rfl).trans e0
  have p1 : DataW.trod enc Tryd.prog w 0 (fun _ => true) true n 24 ((l.drop 39).take (Tryd.prog.cellsOf 24)) = some y1 := (hf 1 _ rfl).trans e1
  have p2 : DataW.trod enc Tryd.prog w 0 (fun _ => true) true n 24 ((l.drop 41).take (Tryd.prog.cellsOf 24)) = some y2 := (hf 2 _ rfl).trans e2
  have p3 : DataW.trod enc Tryd.prog w 0 (fun _ => true) true n 3 ((l.drop 43).take (Tryd.prog.cellsOf 3)) = some y3 := (hf 3 _ rfl).trans e3
  rw [cellsConf] at p0
  rw [cells2] at p1 p2
  rw [cellsInt] at p3
  obtain ⟨ch, bl, t0, t1, dao, A, c, fs, ta, q0, h1, h2, h3, h4, h5⟩ := trod_conf p0
  obtain ⟨ats, l1, d1, q1⟩ := trod_u64s Tryd.underlying24 cells2 p1
  obtain ⟨mos, l2, d2, q2⟩ := trod_u64s Tryd.underlying24 cells2 p2
  obtain ⟨op, q3, _, _⟩ := DataW.trod_int Tryd.underlying3 p3
  match ats, l1, mos, l2 with
  | [a0, a1], _, [m0, m1], _ =>
    have b0 := d1 a0 (by simp)
    have b1 := d1 a1 (by simp)
    refine ⟨ch, bl, t0, t1, dao, A, c, fs, ta, a0, a1, m0, m1, op, ?_, h1, h2, h3, h4, h5, b0, b1⟩
    have hz : l.drop 44 = [] := List.drop_eq_nil_of_le (by omega)
    have e : l = l.drop 0 := rfl
    rw [e, cut 0 39, cut (0 + 39) 2, cut (0 + 39 + 2) 2, cut (0 + 39 + 2 + 2) 1, q0, q1, q2, q3, hz]
    simp
end Go.Proofs.YtijoafmbmplgcaaDoor
