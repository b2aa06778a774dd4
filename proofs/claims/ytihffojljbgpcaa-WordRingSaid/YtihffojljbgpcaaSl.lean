/- Rows of memory and slices that hold integers of one kind. No program is named here. -/
import Derived.WalkKit
import Derived.Deep.Quiet
import Derived.Laws.MakeOwn
import Derived.Lib.Hide
import Derived.Test.YtihffojljbgpcaaDig
namespace Go.Proofs.Ytihffojljbgpcaa
open Go.RowKit

theorem Below.drewN_ (B : Nat) (w : World) (n : Nat) : Below B w (w.drewN n) := ⟨rfl, rfl, rfl, Nat.le_refl _, fun _ _ => rfl⟩

/-- Block g holds just the numbers xs, of kind k and element type t. -/
def Row (k : IntKind) (w : World) (g : Nat) (t : TypeId) (xs : List Nat) : Prop := w.heap[g]? = some (.cells (xs.map fun n : Nat => Value.int k (n : Int)).toArray t (0, 0))

section
variable {k : IntKind} {w w' : World} {g : Nat} {t : TypeId} {xs : List Nat}
theorem Row.lt (h : Row k w g t xs) : g < w.heap.size := by
  rcases Nat.lt_or_ge g w.heap.size with hlt | hge
  · exact hlt
  · unfold Row at h; rw [Array.getElem?_eq_none hge] at h; cases h
theorem Row.cell (h : Row k w g t xs) (j : Nat) (hj : j < xs.length) : w.cell? ⟨g, j, none⟩ = some (.int k (xs.getD j 0 : Nat)) := by
  rw [cell_of_row w g j _ t (0, 0) h]
  simp [List.getElem?_eq_getElem hj]
theorem Row.frozen (h : Row k w g t xs) (j : Nat) : w.frozen? ⟨g, j, none⟩ = false := frozen_of_row w g j _ t h
theorem Row.alloc (h : Row k w g t xs) (o : Obj) : Row k (w.alloc o) g t xs := (Below.heap_alloc w o g h.lt).trans h
theorem Row.set (h : Row k w g t xs) (j v : Nat) : Row k (w.setCell ⟨g, j, none⟩ (.int k (v : Int))) g t (xs.set j v) := by
  unfold Row
  rw [heap_setCell_same w g j _ t _ h]
  congr 2
  apply Array.ext'
  simp [List.map_set]
theorem Row.set' (h : Row k w g t xs) (j v : Nat) (u : Int) (hu : u = (v : Int)) : Row k (w.setCell ⟨g, j, none⟩ (.int k u)) g t (xs.set j v) := by
  subst hu; exact h.set j v
theorem Row.far (h : Row k w g t xs) {p : Addr} (hp : g ≠ p.block) (v : Value) : Row k (w.setCell p v) g t xs := (Below.heap_setCell w p v g hp).trans h
theorem Row.below {B : Nat} (h : Row k w g t xs) (hb : Below B w w') (hg : g < B) : Row k w' g t xs := (hb.block g hg).trans h
theorem Row.drew (h : Row k w g t xs) : Row k w.drew g t xs := h
theorem Row.drewN (h : Row k w g t xs) (n : Nat) : Row k (w.drewN n) g t xs := h
theorem Row.new (w : World) (t : TypeId) (xs : List Nat) : Row k (w.alloc (.cells (xs.map fun n : Nat => Value.int k (n : Int)).toArray t)) w.heap.size t xs := heap_alloc_new w _
theorem made_zeros (n : Nat) : madeCells #[Value.int k 0] n = ((List.replicate n 0).map fun n : Nat => Value.int k (n : Int)).toArray := by
  apply Array.ext'
  simp only [madeCells, Array.toList_map, Array.toList_range, List.map_replicate]
  rw [List.eq_replicate_iff]
  constructor
  · simp
  · intro b hb
    simp only [List.mem_map] at hb
    obtain ⟨i, _, rfl⟩ := hb
    have : i % #[Value.int k 0].size = 0 := by simp [Nat.mod_one]
    rw [this]; simp
theorem Row.made (w : World) (t : TypeId) (n : Nat) : Row k (w.alloc (.cells (madeCells #[Value.int k 0] n) t)) w.heap.size t (List.replicate n 0) := by
  rw [made_zeros]; exact Row.new w t _

/-- Block g alone may have changed. -/
structure Tch (g : Nat) (w w' : World) : Prop where
  os : w'.os = w.os
  tape : w'.tape = w.tape
  output : w'.output = w.output
  size : w'.heap.size = w.heap.size
  block : ∀ i, i ≠ g → w'.heap[i]? = w.heap[i]?
theorem Tch.refl (g : Nat) (w : World) : Tch g w w := ⟨rfl, rfl, rfl, rfl, fun _ _ => rfl⟩
theorem Tch.trans {g : Nat} {a b c : World} (h : Tch g a b) (k : Tch g b c) : Tch g a c :=
  ⟨k.os.trans h.os, k.tape.trans h.tape, k.output.trans h.output, k.size.trans h.size, fun i hi => (k.block i hi).trans (h.block i hi)⟩
theorem Tch.put (g i : Nat) (w : World) (v : Value) : Tch g w (w.setCell ⟨g, i, none⟩ v) :=
  ⟨rfl, rfl, rfl, by simp [World.setCell], fun k hk => Below.heap_setCell w ⟨g, i, none⟩ v k hk⟩
theorem Tch.drewN (g : Nat) (w : World) (n : Nat) : Tch g w (w.drewN n) := ⟨rfl, rfl, rfl, rfl, fun _ _ => rfl⟩
theorem Tch.row {f : Nat} (h : Tch g w w') (a : Row k w f t xs) (hf : f ≠ g) : Row k w' f t xs := (h.block f hf).trans a
theorem Tch.below {B : Nat} {a : World} (h : Tch g w w') (b : Below B a w) (hg : B ≤ g) : Below B a w' :=
  b.trans ⟨h.os, h.tape, h.output, by rw [h.size]; exact Nat.le_refl _, fun k hk => h.block k (by omega)⟩

/-- The slice at A, of capacity c, reads as xs. -/
structure Rd (k : IntKind) (w : World) (A : Option Addr) (c : Nat) (xs : List Nat) : Prop where
  le : xs.length ≤ c
  cap : A = none → c = 0
  at_ : 0 < xs.length → ∃ b off, A = some ⟨b, off, none⟩ ∧ b < w.heap.size ∧ ∀ j, j < xs.length → w.cell? ⟨b, off + j, none⟩ = some (.int k (xs.getD j 0 : Nat))

variable {A : Option Addr} {c : Nat}
theorem Rd.nil (w : World) : Rd k w none 0 [] := ⟨Nat.zero_le _, fun _ => rfl, fun h => by simp at h⟩
theorem Rd.keep (h : Rd k w A c xs) (hs : w.heap.size ≤ w'.heap.size) (hk : ∀ p : Addr, p.block < w.heap.size → w'.cell? p = w.cell? p) : Rd k w' A c xs :=
  ⟨h.le, h.cap, fun hl => by
    obtain ⟨b, off, e, hb, hc⟩ := h.at_ hl
    exact ⟨b, off, e, Nat.lt_of_lt_of_le hb hs, fun j hj => (hk ⟨b, off + j, none⟩ hb).trans (hc j hj)⟩⟩
theorem Rd.below (h : Rd k w A c xs) (hb : Below w.heap.size w w') : Rd k w' A c xs := h.keep hb.size fun _ hp => hb.cell hp
theorem Rd.drew (h : Rd k w A c xs) : Rd k w.drew A c xs := h.keep (Nat.le_refl _) fun _ _ => rfl
theorem Rd.drewN (h : Rd k w A c xs) (n : Nat) : Rd k (w.drewN n) A c xs := h.keep (Nat.le_refl _) fun _ _ => rfl
theorem Rd.alloc (h : Rd k w A c xs) (o : Obj) : Rd k (w.alloc o) A c xs := h.below ((Below.refl _ _).alloc (Nat.le_refl _) _)
theorem Rd.take (h : Rd k w A c xs) (m : Nat) (hm : m ≤ xs.length) : Rd k w A c (xs.take m) := by
  refine ⟨by rw [List.length_take]; have := h.le; omega, h.cap, fun hl => ?_⟩
  rw [List.length_take, Nat.min_eq_left hm] at hl
  obtain ⟨b, off, e, hb, hc⟩ := h.at_ (by omega)
  refine ⟨b, off, e, hb, fun j hj => ?_⟩
  rw [List.length_take, Nat.min_eq_left hm] at hj
  rw [hc j (by omega)]
  congr 3
  rw [List.getD_eq_getElem?_getD, List.getD_eq_getElem?_getD, List.getElem?_take, if_pos hj]
theorem Row.rd (h : Row k w g t xs) (off n c : Nat) (hn : off + n ≤ xs.length) (hc : n ≤ c) : Rd k w (some ⟨g, off, none⟩) c ((xs.drop off).take n) := by
  have hl : ((xs.drop off).take n).length = n := by rw [List.length_take, List.length_drop]; omega
  refine ⟨by omega, (fun h => by cases h), fun _ => ⟨g, off, rfl, h.lt, fun j hj => ?_⟩⟩
  rw [hl] at hj
  rw [h.cell _ (by omega)]
  congr 3
  rw [List.getD_eq_getElem?_getD, List.getD_eq_getElem?_getD, List.getElem?_take, if_pos hj, List.getElem?_drop]
theorem Row.rd0 (h : Row k w g t xs) : Rd k w (some ⟨g, 0, none⟩) xs.length xs := by
  have := h.rd 0 xs.length xs.length (by omega) (Nat.le_refl _)
  rwa [List.drop_zero, List.take_length] at this

/-- A number, by its digits of 32 bits, at most L of them. -/
def Num (w : World) (v : Value) (n L : Nat) : Prop := ∃ A c xs, v = .slice A xs.length c ∧ Rd .u32 w A c xs ∧ Can 4294967296 xs n ∧ xs.length ≤ L
variable {v : Value} {n L : Nat}
theorem Num.below (h : Num w v n L) (hb : Below w.heap.size w w') : Num w' v n L := by
  obtain ⟨A, c, xs, e, h1, h2, h3⟩ := h
  exact ⟨A, c, xs, e, h1.below hb, h2, h3⟩
theorem Num.mono {L' : Nat} (h : Num w v n L) (hl : L ≤ L') : Num w v n L' := by
  obtain ⟨A, c, xs, e, h1, h2, h3⟩ := h
  exact ⟨A, c, xs, e, h1, h2, Nat.le_trans h3 hl⟩
theorem Num.lt (h : Num w v n L) : n < 4294967296 ^ L := by
  obtain ⟨A, c, xs, e, h1, h2, h3⟩ := h
  exact Nat.lt_of_lt_of_le h2.lt (Nat.pow_le_pow_right (by omega) h3)
theorem Num.small (h : Num w v n L) {L' : Nat} (hn : n < 4294967296 ^ L') : Num w v n L' := by
  obtain ⟨A, c, xs, e, h1, h2, h3⟩ := h
  exact ⟨A, c, xs, e, h1, h2, h2.len_le (by omega) hn⟩
theorem Num.nil (w : World) : Num w (.slice none 0 0) 0 0 := ⟨none, 0, [], rfl, Rd.nil _, Can.nil, Nat.le_refl _⟩

/-- Bytes, as a list. -/
def Byt (w : World) (v : Value) (bs : List Nat) : Prop := ∃ A c, v = .slice A bs.length c ∧ Rd .u8 w A c bs ∧ Ds 256 bs
variable {bs : List Nat}
theorem Byt.below (h : Byt w v bs) (hb : Below w.heap.size w w') : Byt w' v bs := by
  obtain ⟨A, c, e, h1, h2⟩ := h
  exact ⟨A, c, e, h1.below hb, h2⟩
theorem Byt.ds (h : Byt w v bs) : Ds 256 bs := h.choose_spec.choose_spec.2.2
theorem Byt.nil (w : World) : Byt w (.slice none 0 0) [] := ⟨none, 0, rfl, Rd.nil _, Ds.nil⟩

/-- The call returns a value of which R says what it is, and nothing that was there has changed. -/
def RetR (R : World → Value → Prop) (w : World) (e : Ending) (w' : World) : Prop := ∃ v, e = .returned v ∧ R w' v ∧ Below w.heap.size w w'
end
end Go.Proofs.Ytihffojljbgpcaa
