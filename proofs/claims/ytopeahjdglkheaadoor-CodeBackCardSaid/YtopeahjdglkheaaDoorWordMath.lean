/- Plain arithmetic for the proofs about package word: limbs, carries, words as numbers. No program is named here. -/
import Derived.WalkKit
import Derived.Lib.Hide
import Derived.Lib.Mul64
import Derived.Laws.Bits64b
import Derived.Deep.Quiet
import Derived.Lib.QuietBelow
namespace Go.Proofs.YtopeahjdglkheaaDoor
open Go.RowKit

/-- Below 2^64. -/
def Lim (n : Nat) : Prop := n < 18446744073709551616
/-- Below 2^256. -/
def Big (n : Nat) : Prop := n < 115792089237316195423570985008687907853269984665640564039457584007913129639936
/-- A sum with carry. -/
def AddC (x y c s k : Nat) : Prop := s + 18446744073709551616 * k = x + y + c ∧ s < 18446744073709551616 ∧ k ≤ 1
/-- A difference with borrow. -/
def SubC (x y c s k : Nat) : Prop := s + y + c = x + 18446744073709551616 * k ∧ s < 18446744073709551616 ∧ k ≤ 1
/-- A product with two summands. -/
def MulA (x y c d hi lo : Nat) : Prop := lo + 18446744073709551616 * hi = x * y + c + d ∧ lo < 18446744073709551616 ∧ hi < 18446744073709551616
/-- Four limbs are the number n. -/
def IsW (a b c d n : Nat) : Prop := a < 18446744073709551616 ∧ b < 18446744073709551616 ∧ c < 18446744073709551616 ∧ d < 18446744073709551616 ∧
  n = a + 18446744073709551616 * b + 340282366920938463463374607431768211456 * c + 6277101735386680763835789423207666416102355444464034512896 * d

abbrev W4 (a b c d : Nat) : Value := .agg #[.int .u64 a, .int .u64 b, .int .u64 c, .int .u64 d]

/-- The call returns the word n, and nothing that was there has changed. -/
def RetW (n : Nat) (w : World) (e : Ending) (w' : World) : Prop := ∃ a b c d, e = .returned (W4 a b c d) ∧ IsW a b c d n ∧ Below w.heap.size w w'
/-- The call returns the value v. -/
def RetV (v : Value) (w : World) (e : Ending) (w' : World) : Prop := e = .returned v ∧ Below w.heap.size w w'

theorem lim4 {a b c d : Nat} (ha : a < 18446744073709551616) (hb : b < 18446744073709551616) (hc : c < 18446744073709551616) (hd : d < 18446744073709551616) :
    a + 18446744073709551616 * b + 340282366920938463463374607431768211456 * c + 6277101735386680763835789423207666416102355444464034512896 * d < 115792089237316195423570985008687907853269984665640564039457584007913129639936 := by omega
theorem IsW.big {a b c d n : Nat} (h : IsW a b c d n) : Big n := by obtain ⟨h0, h1, h2, h3, h4⟩ := h; rw [h4]; exact lim4 h0 h1 h2 h3
theorem IsW.eq {a b c d n m : Nat} (h : IsW a b c d n) (e : n = m) : IsW a b c d m := e ▸ h
theorem IsW.inj {a b c d n a' b' c' d' : Nat} (h : IsW a b c d n) (h' : IsW a' b' c' d' n) : a = a' ∧ b = b' ∧ c = c' ∧ d = d' := by
  obtain ⟨h0, h1, h2, h3, h4⟩ := h
  obtain ⟨g0, g1, g2, g3, g4⟩ := h'
  have e0 : a = a' := by omega
  subst e0
  have e1 : b = b' := by omega
  subst e1
  have e2 : c = c' := by omega
  subst e2
  omega
theorem IsW.val {a b c d n m : Nat} (h : IsW a b c d n) (h' : IsW a b c d m) : n = m := by rw [h.2.2.2.2, h'.2.2.2.2]
theorem IsW.ne {a b c d n m a' b' c' d' : Nat} (h : IsW a b c d n) (h' : IsW a' b' c' d' m) (hn : n ≠ m) : ¬ (a = a' ∧ b = b' ∧ c = c' ∧ d = d') := by
  rintro ⟨rfl, rfl, rfl, rfl⟩
  exact hn (h.val h')
theorem IsW.lims {a b c d n : Nat} (h : IsW a b c d n) : Lim a ∧ Lim b ∧ Lim c ∧ Lim d := ⟨h.1, h.2.1, h.2.2.1, h.2.2.2.1⟩
theorem IsW.of {a b c d : Nat} (ha : Lim a) (hb : Lim b) (hc : Lim c) (hd : Lim d) : ∃ n, IsW a b c d n := ⟨_, ha, hb, hc, hd, rfl⟩
theorem isW_small {a : Nat} (ha : Lim a) : IsW a 0 0 0 a := by unfold Lim at ha; unfold IsW; omega

theorem mod_of {S T k N : Nat} (e : S + T * k = N) (l : S < T) : S = N % T ∧ k = N / T := by
  subst e
  rw [Nat.add_mul_mod_self_left, Nat.mod_eq_of_lt l, Nat.add_mul_div_left _ _ (by omega), Nat.div_eq_of_lt l]
  exact ⟨rfl, by omega⟩

theorem add4 {a0 a1 a2 a3 b0 b1 b2 b3 s0 s1 s2 s3 k0 k1 k2 k3 a b : Nat} (ha : IsW a0 a1 a2 a3 a) (hb : IsW b0 b1 b2 b3 b)
    (h0 : AddC a0 b0 0 s0 k0) (h1 : AddC a1 b1 k0 s1 k1) (h2 : AddC a2 b2 k1 s2 k2) (h3 : AddC a3 b3 k2 s3 k3) :
    IsW s0 s1 s2 s3 ((a + b) % 115792089237316195423570985008687907853269984665640564039457584007913129639936) ∧ k3 = (a + b) / 115792089237316195423570985008687907853269984665640564039457584007913129639936 := by
  obtain ⟨_, _, _, _, ha⟩ := ha
  obtain ⟨_, _, _, _, hb⟩ := hb
  obtain ⟨h0, g0, _⟩ := h0
  obtain ⟨h1, g1, _⟩ := h1
  obtain ⟨h2, g2, _⟩ := h2
  obtain ⟨h3, g3, _⟩ := h3
  have e : (s0 + 18446744073709551616 * s1 + 340282366920938463463374607431768211456 * s2 + 6277101735386680763835789423207666416102355444464034512896 * s3) + 115792089237316195423570985008687907853269984665640564039457584007913129639936 * k3 = a + b := by
    clear g0 g1 g2 g3
    grind
  obtain ⟨r, q⟩ := mod_of e (lim4 g0 g1 g2 g3)
  exact ⟨⟨g0, g1, g2, g3, r.symm⟩, q⟩
theorem sub4 {a0 a1 a2 a3 b0 b1 b2 b3 s0 s1 s2 s3 k0 k1 k2 k3 a b : Nat} (ha : IsW a0 a1 a2 a3 a) (hb : IsW b0 b1 b2 b3 b)
    (h0 : SubC a0 b0 0 s0 k0) (h1 : SubC a1 b1 k0 s1 k1) (h2 : SubC a2 b2 k1 s2 k2) (h3 : SubC a3 b3 k2 s3 k3) :
    IsW s0 s1 s2 s3 ((115792089237316195423570985008687907853269984665640564039457584007913129639936 + a - b) % 115792089237316195423570985008687907853269984665640564039457584007913129639936) := by
  have hbig := hb.big
  have habig := ha.big
  obtain ⟨_, _, _, _, ha⟩ := ha
  obtain ⟨_, _, _, _, hb⟩ := hb
  obtain ⟨h0, g0, _⟩ := h0
  obtain ⟨h1, g1, _⟩ := h1
  obtain ⟨h2, g2, _⟩ := h2
  obtain ⟨h3, g3, hk⟩ := h3
  have e : (s0 + 18446744073709551616 * s1 + 340282366920938463463374607431768211456 * s2 + 6277101735386680763835789423207666416102355444464034512896 * s3) + b = a + 115792089237316195423570985008687907853269984665640564039457584007913129639936 * k3 := by
    clear g0 g1 g2 g3
    grind
  have l := lim4 g0 g1 g2 g3
  refine ⟨g0, g1, g2, g3, ?_⟩
  clear h0 h1 h2 h3 g0 g1 g2 g3 ha hb
  generalize s0 + 18446744073709551616 * s1 + 340282366920938463463374607431768211456 * s2 + 6277101735386680763835789423207666416102355444464034512896 * s3 = S at *
  unfold Big at *
  rcases (show k3 = 0 ∨ k3 = 1 by omega) with rfl | rfl <;> omega

theorem addC_of (x y c : Nat) (hc : c ≤ 1) (hx : Lim x) (hy : Lim y) : AddC x y c ((x + y + c) % 18446744073709551616) ((x + y + c) / 18446744073709551616) ∧ (x + y + c) / 18446744073709551616 ≤ 1 ∧ Lim ((x + y + c) % 18446744073709551616) := by
  unfold Lim at *; unfold AddC; omega
theorem subC_lt (x y c : Nat) (hc : c ≤ 1) (hx : Lim x) (hy : Lim y) (h : x < y + c) : SubC x y c ((x + 18446744073709551616 - y - c) % 18446744073709551616) 1 ∧ Lim ((x + 18446744073709551616 - y - c) % 18446744073709551616) := by
  unfold Lim at *; unfold SubC; omega
theorem subC_ge (x y c : Nat) (hc : c ≤ 1) (hx : Lim x) (hy : Lim y) (h : ¬ x < y + c) : SubC x y c ((x + 18446744073709551616 - y - c) % 18446744073709551616) 0 ∧ Lim ((x + 18446744073709551616 - y - c) % 18446744073709551616) := by
  unfold Lim at *; unfold SubC; omega
theorem castMod (x y c : Nat) : ((x : Int) + y + c) % 18446744073709551616 = (((x + y + c) % 18446744073709551616 : Nat) : Int) ∧ ((x : Int) + y + c) / 18446744073709551616 = (((x + y + c) / 18446744073709551616 : Nat) : Int) := by omega
theorem wrapU (n : Nat) : IntKind.u64.wrap (n : Int) = ((n % 18446744073709551616 : Nat) : Int) := by rw [IntKind.wrap_u64]; omega
theorem mul_hi {x y h l : Nat} (hx : Lim x) (hy : Lim y) (hh : h = x * y / 18446744073709551616) (hl : l = x * y % 18446744073709551616) :
    l + 18446744073709551616 * h = x * y ∧ l < 18446744073709551616 ∧ h ≤ 18446744073709551614 := by
  unfold Lim at *
  have hm : x * y ≤ 18446744073709551615 * 18446744073709551615 := Nat.mul_le_mul (by omega) (by omega)
  generalize x * y = p at *
  omega

theorem maskN (a : Nat) (ha : a < 18446744073709551616) : bits .and .u64 (a : Int) 4294967295 = ((a % 4294967296 : Nat) : Int) := by
  have h := bits_and_u64_nat a 4294967295 ha (by omega)
  have e : a &&& 4294967295 = a % 4294967296 := Nat.and_two_pow_sub_one_eq_mod a 32
  rw [e] at h
  exact h
theorem divN (a : Nat) : (a : Int) / 4294967296 = ((a / 4294967296 : Nat) : Int) := by omega
theorem mulN (a b : Nat) : (a : Int) * (b : Int) = ((a * b : Nat) : Int) := (Int.natCast_mul a b).symm
theorem addN (a b : Nat) : (a : Int) + (b : Int) = ((a + b : Nat) : Int) := (Int.natCast_add a b).symm
theorem wrapN (a : Nat) (ha : a < 18446744073709551616) : IntKind.u64.wrap (a : Int) = (a : Int) := by rw [IntKind.wrap_u64]; omega
theorem mulA_of {x y c d h l s0 k0 s1 k1 : Nat} (hx : Lim x) (hy : Lim y) (hc : Lim c) (hd : Lim d) (hP : l + 18446744073709551616 * h = x * y ∧ l < 18446744073709551616 ∧ h ≤ 18446744073709551614) (A0 : AddC l c 0 s0 k0) (A1 : AddC s0 d 0 s1 k1)
    : MulA x y c d (h + k0 + k1) s1 ∧ IntKind.u64.wrap ((h : Int) + k0) = ((h + k0 : Nat) : Int) ∧ IntKind.u64.wrap (((h + k0 : Nat) : Int) + k1) = ((h + k0 + k1 : Nat) : Int) := by
  unfold Lim at *
  have hm : x * y ≤ 18446744073709551615 * 18446744073709551615 := Nat.mul_le_mul (by omega) (by omega)
  obtain ⟨e, h1, h2⟩ := hP
  obtain ⟨e0, _, b0⟩ := A0
  obtain ⟨e1, b1, b2⟩ := A1
  have hlt : h + k0 + k1 < 18446744073709551616 := by omega
  rw [addN, addN, wrapN _ (by omega), wrapN _ hlt]
  exact ⟨⟨by omega, b1, hlt⟩, rfl, rfl⟩
theorem bcell {W w1 : World} (hb : Below W.heap.size W w1) : (∀ b o, b < W.heap.size → w1.cell? ⟨b, o, none⟩ = W.cell? ⟨b, o, none⟩) ∧ (∀ b o, b < W.heap.size → w1.frozen? ⟨b, o, none⟩ = W.frozen? ⟨b, o, none⟩) :=
  ⟨fun b o h => hb.cell (p := ⟨b, o, none⟩) h, fun b o h => hb.frozen (p := ⟨b, o, none⟩) h⟩
theorem ret_u64 {a : Int} {b : Nat} (h : a = b) : Value.int .u64 a = Value.int .u64 (b : Int) := by rw [h]
end Go.Proofs.YtopeahjdglkheaaDoor
/- Blocks of memory that hold arrays of 64-bit numbers. No program is named here. -/
namespace Go.Proofs.YtopeahjdglkheaaDoor
open Go.RowKit

/-- A limb of a list, as a value. -/
def U (n : Nat) : Value := .int .u64 (n : Int)
/-- Block g holds just the numbers xs, of element type t. -/
def Arr (w : World) (g : Nat) (t : TypeId) (xs : List Nat) : Prop := w.heap[g]? = some (.cells (xs.map U).toArray t (0, 0))

section
variable {w w' : World} {g : Nat} {t : TypeId} {xs : List Nat}
theorem Arr.lt (h : Arr w g t xs) : g < w.heap.size := by
  rcases Nat.lt_or_ge g w.heap.size with hlt | hge
  · exact hlt
  · unfold Arr at h; rw [Array.getElem?_eq_none hge] at h; cases h
theorem Arr.cell (h : Arr w g t xs) (k : Nat) (hk : k < xs.length) : w.cell? ⟨g, k, none⟩ = some (.int .u64 (xs.getD k 0 : Nat)) := by
  rw [cell_of_row w g k _ t (0, 0) h]
  simp [List.getElem?_eq_getElem hk, U]
theorem Arr.frozen (h : Arr w g t xs) (k : Nat) : w.frozen? ⟨g, k, none⟩ = false := frozen_of_row w g k _ t h
theorem Arr.alloc (h : Arr w g t xs) (o : Obj) : Arr (w.alloc o) g t xs := (Below.heap_alloc w o g h.lt).trans h
theorem Arr.set (h : Arr w g t xs) (k v : Nat) : Arr (w.setCell ⟨g, k, none⟩ (.int .u64 (v : Int))) g t (xs.set k v) := by
  unfold Arr
  rw [heap_setCell_same w g k _ t _ h]
  congr 2
  apply Array.ext'
  simp [U, List.map_set]
theorem Arr.far (h : Arr w g t xs) {p : Addr} (hp : g ≠ p.block) (v : Value) : Arr (w.setCell p v) g t xs := (Below.heap_setCell w p v g hp).trans h
theorem Arr.below {B : Nat} (h : Arr w g t xs) (hb : Below B w w') (hg : g < B) : Arr w' g t xs := (hb.block g hg).trans h
theorem Arr.drew (h : Arr w g t xs) : Arr w.drew g t xs := h
theorem Arr.drewN (h : Arr w g t xs) (n : Nat) : Arr (w.drewN n) g t xs := h
theorem Arr.new4 (w : World) (t : TypeId) (a b c d : Nat) : Arr (w.alloc (.cells #[.int .u64 (a : Nat), .int .u64 (b : Nat), .int .u64 (c : Nat), .int .u64 (d : Nat)] t)) w.heap.size t [a, b, c, d] := heap_alloc_new w _
theorem Arr.new4z (w : World) (t : TypeId) : Arr (w.alloc (.cells #[.int .u64 0, .int .u64 0, .int .u64 0, .int .u64 0] t)) w.heap.size t [0, 0, 0, 0] := heap_alloc_new w _
theorem Arr.new8 (w : World) (t : TypeId) (a b c d e f g i : Nat) : Arr (w.alloc (.cells #[.int .u64 (a : Nat), .int .u64 (b : Nat), .int .u64 (c : Nat), .int .u64 (d : Nat), .int .u64 (e : Nat), .int .u64 (f : Nat), .int .u64 (g : Nat), .int .u64 (i : Nat)] t)) w.heap.size t [a, b, c, d, e, f, g, i] := heap_alloc_new w _
theorem Arr.new8z (w : World) (t : TypeId) : Arr (w.alloc (.cells #[.int .u64 0, .int .u64 0, .int .u64 0, .int .u64 0, .int .u64 0, .int .u64 0, .int .u64 0, .int .u64 0] t)) w.heap.size t [0, 0, 0, 0, 0, 0, 0, 0] := heap_alloc_new w _
theorem Arr.cells4 {c0 c1 c2 c3 : Nat} (h : Arr w g t [c0, c1, c2, c3]) : w.cell? ⟨g, 0, none⟩ = some (.int .u64 (c0 : Nat)) ∧ w.cell? ⟨g, 1, none⟩ = some (.int .u64 (c1 : Nat)) ∧ w.cell? ⟨g, 2, none⟩ = some (.int .u64 (c2 : Nat)) ∧ w.cell? ⟨g, 3, none⟩ = some (.int .u64 (c3 : Nat)) :=
  ⟨h.cell 0 (by simp), h.cell 1 (by simp), h.cell 2 (by simp), h.cell 3 (by simp)⟩
theorem Arr.free4 {xs : List Nat} (h : Arr w g t xs) : w.frozen? ⟨g, 0, none⟩ = false ∧ w.frozen? ⟨g, 1, none⟩ = false ∧ w.frozen? ⟨g, 2, none⟩ = false ∧ w.frozen? ⟨g, 3, none⟩ = false :=
  ⟨h.frozen 0, h.frozen 1, h.frozen 2, h.frozen 3⟩
theorem Arr.put4 {c0 c1 c2 c3 : Nat} (h : Arr w g t [c0, c1, c2, c3]) (a b c d : Nat) :
    Arr ((((w.setCell ⟨g, 0, none⟩ (.int .u64 (a : Int))).setCell ⟨g, 1, none⟩ (.int .u64 (b : Int))).setCell ⟨g, 2, none⟩ (.int .u64 (c : Int))).setCell ⟨g, 3, none⟩ (.int .u64 (d : Int))) g t [a, b, c, d] :=
  (((h.set 0 a).set 1 b).set 2 c).set 3 d
theorem Arr.far4 {xs : List Nat} {f : Nat} (h : Arr w g t xs) (hf : g ≠ f) (a b c d : Value) :
    Arr ((((w.setCell ⟨f, 0, none⟩ a).setCell ⟨f, 1, none⟩ b).setCell ⟨f, 2, none⟩ c).setCell ⟨f, 3, none⟩ d) g t xs :=
  (((h.far (p := ⟨f, 0, none⟩) hf a).far (p := ⟨f, 1, none⟩) hf b).far (p := ⟨f, 2, none⟩) hf c).far (p := ⟨f, 3, none⟩) hf d
theorem below_put4 {B f : Nat} (h : Below B w w') (hf : B ≤ f) (a b c d : Value) :
    Below B w ((((w'.setCell ⟨f, 0, none⟩ a).setCell ⟨f, 1, none⟩ b).setCell ⟨f, 2, none⟩ c).setCell ⟨f, 3, none⟩ d) :=
  (((h.setCell (p := ⟨f, 0, none⟩) hf a).setCell (p := ⟨f, 1, none⟩) hf b).setCell (p := ⟨f, 2, none⟩) hf c).setCell (p := ⟨f, 3, none⟩) hf d
/-- What a call that makes memory leaves as it was. -/
theorem after_ {W w1 : World} (hb : Below W.heap.size W w1) : (∀ b o, b < W.heap.size → w1.cell? ⟨b, o, none⟩ = W.cell? ⟨b, o, none⟩) ∧ (∀ b o, b < W.heap.size → w1.frozen? ⟨b, o, none⟩ = W.frozen? ⟨b, o, none⟩) ∧
    (∀ b, b < W.heap.size → b < w1.heap.size) ∧ (∀ b, b < W.heap.size → ¬ (b = w1.heap.size)) :=
  ⟨fun b o h => hb.cell (p := ⟨b, o, none⟩) h, fun b o h => hb.frozen (p := ⟨b, o, none⟩) h, fun b h => Nat.lt_of_lt_of_le h hb.size, fun b h e => absurd hb.size (by omega)⟩
/-- A function that boxes two words and lays the place of its result. -/
theorem start3 (w : World) (t : TypeId) (a0 a1 a2 a3 b0 b1 b2 b3 : Nat) (X : World)
    (hX : X = ((w.alloc (.cells #[.int .u64 (a0 : Nat), .int .u64 (a1 : Nat), .int .u64 (a2 : Nat), .int .u64 (a3 : Nat)] t)).alloc (.cells #[.int .u64 (b0 : Nat), .int .u64 (b1 : Nat), .int .u64 (b2 : Nat), .int .u64 (b3 : Nat)] t)).alloc (.cells #[.int .u64 0, .int .u64 0, .int .u64 0, .int .u64 0] t)) :
    Arr X w.heap.size t [a0, a1, a2, a3] ∧ Arr X (w.heap.size + 1) t [b0, b1, b2, b3] ∧ Arr X (w.heap.size + 1 + 1) t [0, 0, 0, 0] ∧ X.heap.size = w.heap.size + 1 + 1 + 1 ∧ Below w.heap.size w X := by
  subst hX
  refine ⟨((Arr.new4 w t a0 a1 a2 a3).alloc _).alloc _, ?_, ?_, by simp, (((Below.refl _ _).alloc (Nat.le_refl _) _).alloc (by simp) _).alloc (by simp; omega) _⟩
  · have h := (Arr.new4 (w.alloc (.cells #[.int .u64 (a0 : Nat), .int .u64 (a1 : Nat), .int .u64 (a2 : Nat), .int .u64 (a3 : Nat)] t)) t b0 b1 b2 b3).alloc (.cells #[.int .u64 0, .int .u64 0, .int .u64 0, .int .u64 0] t)
    simpa using h
  · have h := Arr.new4z ((w.alloc (.cells #[.int .u64 (a0 : Nat), .int .u64 (a1 : Nat), .int .u64 (a2 : Nat), .int .u64 (a3 : Nat)] t)).alloc (.cells #[.int .u64 (b0 : Nat), .int .u64 (b1 : Nat), .int .u64 (b2 : Nat), .int .u64 (b3 : Nat)] t)) t
    simpa using h
theorem list4 {cs : List Nat} (h : cs.length = 4) : ∃ c0 c1 c2 c3, cs = [c0, c1, c2, c3] := by
  match cs, h with
  | [c0, c1, c2, c3], _ => exact ⟨c0, c1, c2, c3, rfl⟩
end
end Go.Proofs.YtopeahjdglkheaaDoor
/- Plain arithmetic on lists of limbs: the number that a list of limbs is; products limb by limb. No program is named here. -/
namespace Go.Proofs.YtopeahjdglkheaaDoor

/-- The number of a list of limbs, the lowest first. -/
def vl : List Nat → Nat
  | [] => 0
  | x :: r => x + 18446744073709551616 * vl r
def Lims (xs : List Nat) : Prop := ∀ x ∈ xs, Lim x

theorem val_set (cs : List Nat) (k v : Nat) (h : k < cs.length) : vl (cs.set k v) + 18446744073709551616 ^ k * cs.getD k 0 = vl cs + 18446744073709551616 ^ k * v := by
  induction cs generalizing k with
  | nil => simp at h
  | cons c cs ih =>
    cases k with
    | zero => simp [vl]; omega
    | succ k =>
      have := ih k (by simpa using h)
      simp only [List.set_cons_succ, vl, List.getD_cons_succ, Nat.pow_succ] at *
      generalize 18446744073709551616 ^ k = P at *
      grind
theorem val_take_succ (bs : List Nat) (k : Nat) (h : k < bs.length) : vl (bs.take (k + 1)) = vl (bs.take k) + 18446744073709551616 ^ k * bs.getD k 0 := by
  induction bs generalizing k with
  | nil => simp at h
  | cons c cs ih =>
    cases k with
    | zero => simp [vl]
    | succ k =>
      have := ih k (by simpa using h)
      simp only [List.take_succ_cons, vl, List.getD_cons_succ, Nat.pow_succ] at *
      rw [this]
      generalize 18446744073709551616 ^ k = P at *
      grind
theorem val_split (bs : List Nat) (k : Nat) (h : k ≤ bs.length) : vl bs = vl (bs.take k) + 18446744073709551616 ^ k * vl (bs.drop k) := by
  induction bs generalizing k with
  | nil => simp at h; subst h; simp [vl]
  | cons c cs ih =>
    cases k with
    | zero => simp [vl]
    | succ k =>
      have := ih k (by simpa using h)
      simp only [List.take_succ_cons, List.drop_succ_cons, vl, Nat.pow_succ] at *
      rw [this]
      generalize 18446744073709551616 ^ k = P at *
      grind
theorem Lims.set {cs : List Nat} (h : Lims cs) (k v : Nat) (hv : Lim v) : Lims (cs.set k v) := by
  intro x hx
  rcases List.mem_or_eq_of_mem_set hx with h1 | h1
  · exact h x h1
  · exact h1 ▸ hv
theorem Lims.get {cs : List Nat} (h : Lims cs) (k : Nat) : Lim (cs.getD k 0) := by
  by_cases hk : k < cs.length
  · simp [List.getElem?_eq_getElem hk]
    exact h _ (List.getElem_mem hk)
  · simp [List.getElem?_eq_none (Nat.le_of_not_lt hk), Lim]
theorem Lims.four {a b c d : Nat} (ha : Lim a) (hb : Lim b) (hc : Lim c) (hd : Lim d) : Lims [a, b, c, d] := by
  intro x hx; simp at hx; rcases hx with rfl | rfl | rfl | rfl <;> assumption
theorem val_lt (cs : List Nat) (h : Lims cs) : vl cs < 18446744073709551616 ^ cs.length := by
  induction cs with
  | nil => simp [vl]
  | cons c cs ih =>
    have h1 := ih fun x hx => h x (List.mem_cons_of_mem _ hx)
    have h2 : Lim c := h c List.mem_cons_self
    unfold Lim at h2
    simp only [vl, List.length_cons, Nat.pow_succ]
    generalize 18446744073709551616 ^ cs.length = P at *
    omega
theorem IsW.vals {a b c d n : Nat} (h : IsW a b c d n) : n = vl [a, b, c, d] := by
  rw [h.2.2.2.2]; simp only [vl]; omega
theorem isW_val {a b c d : Nat} (h : Lims [a, b, c, d]) : IsW a b c d (vl [a, b, c, d]) := by
  have l : ∀ x ∈ [a, b, c, d], Lim x := h
  refine ⟨l a (by simp), l b (by simp), l c (by simp), l d (by simp), ?_⟩
  simp only [vl]; omega
theorem IsW.limsList {a b c d n : Nat} (h : IsW a b c d n) : Lims [a, b, c, d] := Lims.four h.lims.1 h.lims.2.1 h.lims.2.2.1 h.lims.2.2.2

/-- After i rounds of the outer loop of a product that is cut to K limbs. -/
def MulOut (K : Nat) (xs ys : List Nat) (i : Nat) (cs : List Nat) : Prop := ∃ q, vl cs + 18446744073709551616 ^ K * q = vl (xs.take i) * vl ys
/-- Within a round, at place k. -/
def MulIn (K : Nat) (xs ys : List Nat) (i k : Nat) (carry : Nat) (cs : List Nat) : Prop :=
  ∃ q, vl cs + 18446744073709551616 ^ k * carry + 18446744073709551616 ^ K * q = vl (xs.take i) * vl ys + 18446744073709551616 ^ i * (xs.getD i 0 * vl (ys.take (k - i)))

theorem mulIn_start {K : Nat} {xs ys cs : List Nat} {i : Nat} (h : MulOut K xs ys i cs) : MulIn K xs ys i i 0 cs := by
  obtain ⟨q, h⟩ := h
  refine ⟨q, ?_⟩
  rw [Nat.sub_self]
  simp [vl, h]
theorem mulIn_step {K : Nat} {xs ys cs : List Nat} {i k carry h l : Nat} (H : MulIn K xs ys i k carry cs) (hik : i ≤ k) (hk : k < cs.length) (hy : k - i < ys.length)
    (hM : MulA (xs.getD i 0) (ys.getD (k - i) 0) (cs.getD k 0) carry h l) : MulIn K xs ys i (k + 1) h (cs.set k l) := by
  obtain ⟨q, H⟩ := H
  obtain ⟨hM, _, _⟩ := hM
  refine ⟨q, ?_⟩
  have e1 := val_set cs k l hk
  have e2 := val_take_succ ys (k - i) hy
  rw [show k + 1 - i = k - i + 1 by omega, e2]
  have e3 : 18446744073709551616 ^ k = 18446744073709551616 ^ i * 18446744073709551616 ^ (k - i) := by rw [← Nat.pow_add]; congr 1; omega
  rw [Nat.pow_succ]
  rw [e3] at H e1 ⊢
  generalize 18446744073709551616 ^ i = I at *
  generalize 18446744073709551616 ^ (k - i) = J at *
  generalize 18446744073709551616 ^ K * q = T at *
  generalize vl (cs.set k l) = V at *
  generalize vl (xs.take i) * vl ys = S at *
  generalize vl (ys.take (k - i)) = Y at *
  generalize cs.getD k 0 = c at *
  generalize xs.getD i 0 = x at *
  generalize ys.getD (k - i) 0 = y at *
  generalize vl cs = C at *
  clear e2 e3 hy hk hik
  have f : I * J * (l + 18446744073709551616 * h) = I * J * (x * y + c + carry) := by rw [hM]
  grind
theorem mulIn_end {K : Nat} {xs ys cs : List Nat} {i carry : Nat} (H : MulIn K xs ys i K carry cs) (hi : i ≤ K) (hx : i < xs.length) (hy : K - i ≤ ys.length) : MulOut K xs ys (i + 1) cs := by
  obtain ⟨q, H⟩ := H
  rw [val_split ys (K - i) hy] at H
  refine ⟨carry + q + xs.getD i 0 * vl (ys.drop (K - i)), ?_⟩
  rw [val_take_succ xs i hx, val_split ys (K - i) hy]
  have e3 : 18446744073709551616 ^ K = 18446744073709551616 ^ i * 18446744073709551616 ^ (K - i) := by rw [← Nat.pow_add]; congr 1; omega
  rw [e3] at H ⊢
  generalize 18446744073709551616 ^ i = I at *
  generalize 18446744073709551616 ^ (K - i) = J at *
  grind
theorem mulOut_start (K : Nat) (xs ys : List Nat) (cs : List Nat) (h : vl cs = 0) : MulOut K xs ys 0 cs := ⟨0, by simp [h, vl]⟩
theorem mulOut_end {K : Nat} {xs ys cs : List Nat} (h : MulOut K xs ys xs.length cs) (hc : Lims cs) (hl : cs.length = K) : vl cs = vl xs * vl ys % 18446744073709551616 ^ K := by
  obtain ⟨q, h⟩ := h
  rw [List.take_length] at h
  have hlt := val_lt cs hc
  rw [hl] at hlt
  exact (mod_of h hlt).1

theorem sq_step {a e p s T : Nat} (hp : p = a ^ e % T) (hs : s = p * p % T) : s = a ^ (2 * e) % T := by
  subst hp hs
  rw [← Nat.mul_mod, Nat.two_mul, Nat.pow_add]
theorem mul_step {a e s r T : Nat} (hs : s = a ^ e % T) (hr : r = s * a % T) : r = a ^ (e + 1) % T := by
  subst hs hr
  rw [Nat.mod_mul_mod, Nat.pow_succ]
theorem half (b k : Nat) (hk : 0 < k) : b / 2 ^ k = b / 2 ^ (k - 1) / 2 := by
  rw [Nat.div_div_eq_div_mul, ← Nat.pow_succ]
  congr 2
  omega
theorem exp_bit0 {b k : Nat} (hk : 0 < k) (h : b / 2 ^ (k - 1) % 2 = 0) : 2 * (b / 2 ^ k) = b / 2 ^ (k - 1) := by
  rw [half b k hk]; omega
theorem exp_bit1 {b k : Nat} (hk : 0 < k) (h : b / 2 ^ (k - 1) % 2 = 1) : 2 * (b / 2 ^ k) + 1 = b / 2 ^ (k - 1) := by
  rw [half b k hk]; omega
theorem pow64 (j : Nat) : 18446744073709551616 ^ j = 2 ^ (64 * j) := by
  rw [show (18446744073709551616 : Nat) = 2 ^ 64 by decide, ← Nat.pow_mul]
/-- A bit of a list of limbs is a bit of its limb. -/
theorem vl_bit (xs : List Nat) (h : Lims xs) (j m : Nat) (hm : m < 64) : vl xs / 2 ^ (64 * j + m) % 2 = xs.getD j 0 / 2 ^ m % 2 := by
  induction xs generalizing j with
  | nil => simp [vl]
  | cons x xs ih =>
    have hx : Lim x := h x List.mem_cons_self
    have hxs : Lims xs := fun y hy => h y (List.mem_cons_of_mem _ hy)
    unfold Lim at hx
    cases j with
    | zero =>
      simp only [vl, Nat.mul_zero, Nat.zero_add, List.getD_cons_zero]
      rw [show 18446744073709551616 * vl xs = 2 ^ m * (2 * (2 ^ (63 - m) * vl xs)) by
        rw [← Nat.mul_assoc, ← Nat.mul_assoc, show (18446744073709551616 : Nat) = 2 ^ 64 by decide]
        congr 1
        rw [← Nat.pow_succ, ← Nat.pow_add]
        congr 1
        omega]
      rw [Nat.add_mul_div_left _ _ (Nat.two_pow_pos m)]
      omega
    | succ j =>
      simp only [vl, List.getD_cons_succ]
      rw [← ih hxs j, show 64 * (j + 1) + m = 64 + (64 * j + m) by omega, Nat.pow_add, ← Nat.div_div_eq_div_mul]
      congr 2
      omega
end Go.Proofs.YtopeahjdglkheaaDoor
/- More on lists of limbs: blocks of eight; long division by one limb. No program is named here. -/
namespace Go.Proofs.YtopeahjdglkheaaDoor
open Go.RowKit

section
variable {w w' : World} {g : Nat} {t : TypeId}
theorem Arr.cells8 {c0 c1 c2 c3 c4 c5 c6 c7 : Nat} (h : Arr w g t [c0, c1, c2, c3, c4, c5, c6, c7]) : w.cell? ⟨g, 0, none⟩ = some (.int .u64 (c0 : Nat)) ∧ w.cell? ⟨g, 1, none⟩ = some (.int .u64 (c1 : Nat)) ∧ w.cell? ⟨g, 2, none⟩ = some (.int .u64 (c2 : Nat)) ∧ w.cell? ⟨g, 3, none⟩ = some (.int .u64 (c3 : Nat)) ∧
    w.cell? ⟨g, 4, none⟩ = some (.int .u64 (c4 : Nat)) ∧ w.cell? ⟨g, 5, none⟩ = some (.int .u64 (c5 : Nat)) ∧ w.cell? ⟨g, 6, none⟩ = some (.int .u64 (c6 : Nat)) ∧ w.cell? ⟨g, 7, none⟩ = some (.int .u64 (c7 : Nat)) :=
  ⟨h.cell 0 (by simp), h.cell 1 (by simp), h.cell 2 (by simp), h.cell 3 (by simp), h.cell 4 (by simp), h.cell 5 (by simp), h.cell 6 (by simp), h.cell 7 (by simp)⟩
theorem Arr.free8 {xs : List Nat} (h : Arr w g t xs) : w.frozen? ⟨g, 0, none⟩ = false ∧ w.frozen? ⟨g, 1, none⟩ = false ∧ w.frozen? ⟨g, 2, none⟩ = false ∧ w.frozen? ⟨g, 3, none⟩ = false ∧ w.frozen? ⟨g, 4, none⟩ = false ∧ w.frozen? ⟨g, 5, none⟩ = false ∧ w.frozen? ⟨g, 6, none⟩ = false ∧ w.frozen? ⟨g, 7, none⟩ = false :=
  ⟨h.frozen 0, h.frozen 1, h.frozen 2, h.frozen 3, h.frozen 4, h.frozen 5, h.frozen 6, h.frozen 7⟩
theorem list8 {cs : List Nat} (h : cs.length = 8) : ∃ c0 c1 c2 c3 c4 c5 c6 c7, cs = [c0, c1, c2, c3, c4, c5, c6, c7] := by
  match cs, h with
  | [c0, c1, c2, c3, c4, c5, c6, c7], _ => exact ⟨c0, c1, c2, c3, c4, c5, c6, c7, rfl⟩
abbrev L8 (a b c d e f g h : Nat) : Value := .agg #[.int .u64 (a : Nat), .int .u64 (b : Nat), .int .u64 (c : Nat), .int .u64 (d : Nat), .int .u64 (e : Nat), .int .u64 (f : Nat), .int .u64 (g : Nat), .int .u64 (h : Nat)]
theorem below_put8 {B f : Nat} (h : Below B w w') (hf : B ≤ f) (v0 v1 v2 v3 v4 v5 v6 v7 : Value) :
    Below B w ((((((((w'.setCell ⟨f, 0, none⟩ v0).setCell ⟨f, 1, none⟩ v1).setCell ⟨f, 2, none⟩ v2).setCell ⟨f, 3, none⟩ v3).setCell ⟨f, 4, none⟩ v4).setCell ⟨f, 5, none⟩ v5).setCell ⟨f, 6, none⟩ v6).setCell ⟨f, 7, none⟩ v7) :=
  (((below_put4 h hf v0 v1 v2 v3).setCell (p := ⟨f, 4, none⟩) hf v4).setCell (p := ⟨f, 5, none⟩) hf v5).setCell (p := ⟨f, 6, none⟩) hf v6 |>.setCell (p := ⟨f, 7, none⟩) hf v7
theorem Arr.far8 {xs : List Nat} {f : Nat} (h : Arr w g t xs) (hf : g ≠ f) (v0 v1 v2 v3 v4 v5 v6 v7 : Value) :
    Arr ((((((((w.setCell ⟨f, 0, none⟩ v0).setCell ⟨f, 1, none⟩ v1).setCell ⟨f, 2, none⟩ v2).setCell ⟨f, 3, none⟩ v3).setCell ⟨f, 4, none⟩ v4).setCell ⟨f, 5, none⟩ v5).setCell ⟨f, 6, none⟩ v6).setCell ⟨f, 7, none⟩ v7) g t xs :=
  ((((h.far4 hf v0 v1 v2 v3).far (p := ⟨f, 4, none⟩) hf v4).far (p := ⟨f, 5, none⟩) hf v5).far (p := ⟨f, 6, none⟩) hf v6).far (p := ⟨f, 7, none⟩) hf v7
theorem Arr.put8 {c0 c1 c2 c3 c4 c5 c6 c7 : Nat} (h : Arr w g t [c0, c1, c2, c3, c4, c5, c6, c7]) (v0 v1 v2 v3 v4 v5 v6 v7 : Nat) :
    Arr ((((((((w.setCell ⟨g, 0, none⟩ (.int .u64 (v0 : Int))).setCell ⟨g, 1, none⟩ (.int .u64 (v1 : Int))).setCell ⟨g, 2, none⟩ (.int .u64 (v2 : Int))).setCell ⟨g, 3, none⟩ (.int .u64 (v3 : Int))).setCell ⟨g, 4, none⟩ (.int .u64 (v4 : Int))).setCell ⟨g, 5, none⟩ (.int .u64 (v5 : Int))).setCell ⟨g, 6, none⟩ (.int .u64 (v6 : Int))).setCell ⟨g, 7, none⟩ (.int .u64 (v7 : Int))) g t [v0, v1, v2, v3, v4, v5, v6, v7] :=
  (((((((h.set 0 v0).set 1 v1).set 2 v2).set 3 v3).set 4 v4).set 5 v5).set 6 v6).set 7 v7
end

/-- Long division by one limb: what is done when k limbs are still to come. -/
def SchoolInv (xs : List Nat) (d k left : Nat) (qs : List Nat) : Prop := left = vl (xs.drop k) % d ∧ vl (qs.drop k) = vl (xs.drop k) / d
theorem vl_drop_get (xs : List Nat) (k : Nat) (hk : k < xs.length) : vl (xs.drop k) = xs.getD k 0 + 18446744073709551616 * vl (xs.drop (k + 1)) := by
  rw [List.drop_eq_getElem_cons hk]
  simp [vl, List.getElem?_eq_getElem hk]
theorem school_step {xs qs : List Nat} {d k left q r : Nat} (h : SchoolInv xs d (k + 1) left qs) (hk : k < xs.length) (hq : k < qs.length) (hd : 0 < d)
    (e1 : q = (left * 18446744073709551616 + xs.getD k 0) / d) (e2 : r = (left * 18446744073709551616 + xs.getD k 0) % d) : SchoolInv xs d k r (qs.set k q) := by
  obtain ⟨h1, h2⟩ := h
  have h3 := vl_drop_get xs k hk
  have h4 := vl_drop_get (qs.set k q) k (by simpa using hq)
  have h5 : (qs.set k q).drop (k + 1) = qs.drop (k + 1) := by rw [List.drop_set, if_pos (by omega)]
  have h6 : (qs.set k q).getD k 0 = q := by simp [hq]
  rw [h5, h6, h2] at h4
  unfold SchoolInv
  rw [h4, h3]
  generalize xs.getD k 0 = x at *
  generalize vl (xs.drop (k + 1)) = H at *
  have h7 := Nat.div_add_mod H d
  rw [← h1] at h7
  have h8 : x + 18446744073709551616 * H = d * (18446744073709551616 * (H / d)) + (left * 18446744073709551616 + x) := by
    have e : 18446744073709551616 * H = 18446744073709551616 * (d * (H / d)) + 18446744073709551616 * left := by rw [← Nat.mul_add, h7]
    rw [e, Nat.mul_left_comm d]
    omega
  rw [h8, Nat.mul_add_mod, ← e2, Nat.mul_add_div hd, ← e1]
  exact ⟨rfl, by omega⟩
theorem school_start {xs qs : List Nat} {d k : Nat} (hx : vl (xs.drop k) = 0) (hq : vl (qs.drop k) = 0) : SchoolInv xs d k 0 qs := by
  unfold SchoolInv; rw [hx, hq]; simp
end Go.Proofs.YtopeahjdglkheaaDoor
/- Words in one form: the word of a number, by its four limbs; contracts said of numbers alone. -/
namespace Go.Proofs.YtopeahjdglkheaaDoor
open Go.RowKit Go.Sort

/-- Limb i of n. -/
def lim (i n : Nat) : Nat := n / 18446744073709551616 ^ i % 18446744073709551616
abbrev W (n : Nat) : Value := W4 (lim 0 n) (lim 1 n) (lim 2 n) (lim 3 n)
theorem lim_lt (i n : Nat) : Lim (lim i n) := by unfold Lim lim; omega
theorem isW_lim {n : Nat} (h : Big n) : IsW (lim 0 n) (lim 1 n) (lim 2 n) (lim 3 n) n := by
  refine ⟨lim_lt _ _, lim_lt _ _, lim_lt _ _, lim_lt _ _, ?_⟩
  unfold Big at h
  have e0 : lim 0 n = n % 18446744073709551616 := by simp [lim]
  have e1 : lim 1 n = n / 18446744073709551616 % 18446744073709551616 := by simp [lim]
  have e2 : lim 2 n = n / 18446744073709551616 / 18446744073709551616 % 18446744073709551616 := by simp [lim, Nat.div_div_eq_div_mul]
  have e3 : lim 3 n = n / 18446744073709551616 / 18446744073709551616 / 18446744073709551616 % 18446744073709551616 := by simp [lim, Nat.div_div_eq_div_mul]
  have h4 : n / 18446744073709551616 / 18446744073709551616 / 18446744073709551616 < 18446744073709551616 := by
    rw [Nat.div_div_eq_div_mul, Nat.div_div_eq_div_mul]
    exact Nat.div_lt_of_lt_mul (by simpa using h)
  have d0 := Nat.div_add_mod n 18446744073709551616
  have d1 := Nat.div_add_mod (n / 18446744073709551616) 18446744073709551616
  have d2 := Nat.div_add_mod (n / 18446744073709551616 / 18446744073709551616) 18446744073709551616
  rw [e0, e1, e2, e3, Nat.mod_eq_of_lt h4]
  generalize n / 18446744073709551616 / 18446744073709551616 / 18446744073709551616 = c at *
  generalize n / 18446744073709551616 / 18446744073709551616 % 18446744073709551616 = r2 at *
  generalize n / 18446744073709551616 / 18446744073709551616 = q2 at *
  generalize n / 18446744073709551616 % 18446744073709551616 = r1 at *
  generalize n / 18446744073709551616 = q1 at *
  generalize n % 18446744073709551616 = r0 at *
  clear h h4 e0 e1 e2 e3
  grind
theorem IsW.canon {a b c d n : Nat} (h : IsW a b c d n) : a = lim 0 n ∧ b = lim 1 n ∧ c = lim 2 n ∧ d = lim 3 n := h.inj (isW_lim h.big)
theorem RetW.val {n : Nat} {w w' : World} {e : Ending} (h : RetW n w e w') : e = .returned (W n) ∧ Below w.heap.size w w' := by
  obtain ⟨a, b, c, d, rfl, hw, hb⟩ := h
  obtain ⟨rfl, rfl, rfl, rfl⟩ := hw.canon
  exact ⟨rfl, hb⟩
theorem big_mod (n : Nat) : Big (n % 115792089237316195423570985008687907853269984665640564039457584007913129639936) := by unfold Big; omega
theorem big_lim {n : Nat} (h : Lim n) : Big n := by unfold Lim at h; unfold Big; omega
theorem Calls.quietW {P : Program} {f : FuncId} {args : Array Value} {w : World} {d : Nat} {os : Array Obj} {n : Nat}
    (h : Calls P f args (grow (redrawn w d) os) (RetW n (grow (redrawn w d) os))) : Calls P f args (grow (redrawn w d) os) fun e w'' => e = .returned (W n) ∧ ∃ p : Regrown, w'' = grow (redrawn w p.d) p.os :=
  Calls.regrown_of (h.mono fun _ _ h => h.val)
theorem Calls.quietV {P : Program} {f : FuncId} {args : Array Value} {w : World} {d : Nat} {os : Array Obj} {v : Value}
    (h : Calls P f args (grow (redrawn w d) os) (RetV v (grow (redrawn w d) os))) : Calls P f args (grow (redrawn w d) os) fun e w'' => e = .returned v ∧ ∃ p : Regrown, w'' = grow (redrawn w p.d) p.os :=
  Calls.regrown_of h
end Go.Proofs.YtopeahjdglkheaaDoor
/- Plain arithmetic of long division by halves of 64 bits. No program is named here. -/
namespace Go.Proofs.YtopeahjdglkheaaDoor
open Go.RowKit

/-- The guess q for a digit of u * 2^32 + v by y1 * 2^32 + y0, and what it leaves of u. -/
def GuessInv (u v y1 y0 q r : Nat) : Prop := q * y1 + r = u ∧ (u * 4294967296 + v) / (y1 * 4294967296 + y0) ≤ q ∧ r < 4294967296 ∧ q ≤ 4294967297

theorem guess_start {u v y1 y0 : Nat} (hu : u < y1 * 4294967296 + y0) (hv : v < 4294967296) (hy : 2147483648 ≤ y1) (hy1 : y1 < 4294967296) (hy0 : y0 < 4294967296) : GuessInv u v y1 y0 (u / y1) (u % y1) := by
  have hm : u % y1 < y1 := Nat.mod_lt _ (by omega)
  refine ⟨Nat.div_add_mod' u y1, ?_, by omega, ?_⟩
  · apply Nat.le_of_lt_succ
    rw [Nat.div_lt_iff_lt_mul (by omega)]
    have h := Nat.div_add_mod' u y1
    generalize u / y1 = q at *
    generalize u % y1 = r at *
    have : (q + 1) * (y1 * 4294967296 + y0) = (q * y1 + y1) * 4294967296 + (q + 1) * y0 := by grind
    rw [Nat.succ_eq_add_one, this]
    have h2 : u + 1 ≤ q * y1 + y1 := by omega
    have h3 : (u + 1) * 4294967296 ≤ (q * y1 + y1) * 4294967296 := Nat.mul_le_mul_right _ h2
    omega
  · rw [Nat.le_iff_lt_add_one, Nat.div_lt_iff_lt_mul (by omega)]
    omega
/-- A guess that is too great goes down by 1. -/
theorem guess_down {u v y1 y0 q r : Nat} (h : GuessInv u v y1 y0 q r) (hu : u < y1 * 4294967296 + y0) (hv : v < 4294967296) (ht : 4294967296 ≤ q ∨ 4294967296 * r + v < q * y0) :
    1 ≤ q ∧ (q - 1) * y1 + (r + y1) = u ∧ (u * 4294967296 + v) / (y1 * 4294967296 + y0) ≤ q - 1 ∧ q - 1 ≤ 4294967296 := by
  obtain ⟨h1, h2, h3, h4⟩ := h
  have hq : 1 ≤ q := by
    rcases ht with h | h
    · omega
    · rcases Nat.eq_zero_or_pos q with rfl | h'
      · simp at h
      · exact h'
  have hlt : (u * 4294967296 + v) / (y1 * 4294967296 + y0) < q := by
    rw [Nat.div_lt_iff_lt_mul (by omega)]
    rcases ht with h | h
    · have h5 : 4294967296 * (y1 * 4294967296 + y0) ≤ q * (y1 * 4294967296 + y0) := Nat.mul_le_mul_right _ h
      omega
    · have : q * (y1 * 4294967296 + y0) = (q * y1) * 4294967296 + q * y0 := by grind
      rw [this]
      omega
  refine ⟨hq, ?_, by omega, by omega⟩
  have : (q - 1) * y1 + y1 = q * y1 := by
    rw [← Nat.succ_mul]; congr 1; omega
  omega
/-- Where the guess is not too great, it is the digit. -/
theorem guess_end {u v y1 y0 q r : Nat} (h : GuessInv u v y1 y0 q r) (hp : 0 < y1) (ht : ¬ (4294967296 * r + v < q * y0)) : q = (u * 4294967296 + v) / (y1 * 4294967296 + y0) := by
  obtain ⟨h1, h2, h3, h4⟩ := h
  apply Nat.le_antisymm _ h2
  rw [Nat.le_div_iff_mul_le (by omega)]
  have : q * (y1 * 4294967296 + y0) = (q * y1) * 4294967296 + q * y0 := by grind
  rw [this]
  omega
/-- .. nor where what it leaves is so much that the second half can't matter. -/
theorem guess_break {u v y1 y0 q r : Nat} (h1 : q * y1 + r = u) (h2 : (u * 4294967296 + v) / (y1 * 4294967296 + y0) ≤ q) (hq : q ≤ 4294967296) (hr : 4294967296 ≤ r) (hy0 : y0 < 4294967296) (hu : u < y1 * 4294967296 + y0) :
    q = (u * 4294967296 + v) / (y1 * 4294967296 + y0) := by
  apply Nat.le_antisymm _ h2
  rw [Nat.le_div_iff_mul_le (by omega)]
  have e : q * (y1 * 4294967296 + y0) = (q * y1) * 4294967296 + q * y0 := by grind
  rw [e]
  have : q * y0 ≤ 4294967296 * y0 := Nat.mul_le_mul_right _ hq
  have : 4294967296 * y0 ≤ 4294967296 * 4294967295 := Nat.mul_le_mul_left _ (by omega)
  omega

theorem wrapSub {a b : Nat} (h : b ≤ a) (hd : a - b < 18446744073709551616) (x y : Int) (hx : x % 18446744073709551616 = (a : Int) % 18446744073709551616) (hy : y % 18446744073709551616 = (b : Int) % 18446744073709551616) :
    IntKind.u64.wrap (x - y) = ((a - b : Nat) : Int) := by
  rw [IntKind.wrap_u64]; omega
/-- What the first digit leaves, as the program reckons it. -/
theorem rest_of {u v Y q : Nat} (hq : q = (u * 4294967296 + v) / Y) (hY : Y < 18446744073709551616) (h0 : 0 < Y) :
    IntKind.u64.wrap (IntKind.u64.wrap (IntKind.u64.wrap ((u : Int) * 4294967296) + v) - IntKind.u64.wrap ((q : Int) * Y)) = (((u * 4294967296 + v) % Y : Nat) : Int) := by
  have h1 : q * Y ≤ u * 4294967296 + v := by rw [hq]; exact Nat.div_mul_le_self _ _
  have h2 := Nat.div_add_mod' (u * 4294967296 + v) Y
  rw [← hq] at h2
  have h3 := Nat.mod_lt (u * 4294967296 + v) h0
  have h4 : u * 4294967296 + v - q * Y = (u * 4294967296 + v) % Y := by omega
  rw [← h4]
  have e : (q : Int) * (Y : Int) = ((q * Y : Nat) : Int) := by simp
  apply wrapSub h1 (by omega)
  · simp only [IntKind.wrap_u64]
    omega
  · rw [e]
    simp only [IntKind.wrap_u64]
    omega

/-- The two numbers shifted: the dividend's upper part. -/
theorem shl_or {hi lo s : Nat} (hs : s ≤ 63) (hl : Lim lo) (hlt : hi * 2 ^ s < 18446744073709551616) :
    bits .or .u64 (IntKind.u64.wrap ((hi : Int) * 2 ^ s)) ((lo : Int) / 2 ^ (64 - s)) = ((hi * 2 ^ s + lo / 2 ^ (64 - s) : Nat) : Int) ∧
      (hi * 2 ^ s + lo / 2 ^ (64 - s)) * 18446744073709551616 + lo * 2 ^ s % 18446744073709551616 = (hi * 18446744073709551616 + lo) * 2 ^ s := by
  unfold Lim at *
  have hx : lo / 2 ^ (64 - s) < 2 ^ s := by
    apply Nat.div_lt_of_lt_mul
    rw [← Nat.pow_add, show 64 - s + s = 64 by omega]
    exact hl
  have hs2 : (2 : Nat) ^ s ≤ 2 ^ 63 := Nat.pow_le_pow_right (by omega) hs
  constructor
  · have e1 : ((hi : Int) * 2 ^ s) = ((hi * 2 ^ s : Nat) : Int) := by simp
    have e2 : ((lo : Int) / 2 ^ (64 - s)) = ((lo / 2 ^ (64 - s) : Nat) : Int) := by simp
    rw [e1, e2, wrapN _ hlt, bits_or_u64_nat _ _ hlt (by omega), Nat.mul_comm hi, ← Nat.two_pow_add_eq_or_of_lt hx]
  · have d := Nat.div_add_mod (lo * 2 ^ s) 18446744073709551616
    have e : lo * 2 ^ s / 18446744073709551616 = lo / 2 ^ (64 - s) := by
      rw [show (18446744073709551616 : Nat) = 2 ^ (64 - s) * 2 ^ s by rw [← Nat.pow_add, show 64 - s + s = 64 by omega], Nat.mul_div_mul_right _ _ (Nat.two_pow_pos s)]
    rw [e] at d
    generalize lo / 2 ^ (64 - s) = x at *
    generalize lo * 2 ^ s % 18446744073709551616 = y at *
    generalize 2 ^ s = P at *
    grind
/-- Quotient and rest of the shifted numbers are those of the numbers. -/
theorem unshift {T y P Q Z : Nat} (hy : 0 < y) (hP : 0 < P) (h : T * P = Q * (y * P) + Z) (hZ : Z < y * P) : Q = T / y ∧ Z / P = T % y := by
  have h1 : Q = T / y := by
    have : (T * P) / (y * P) = T / y := Nat.mul_div_mul_right _ _ hP
    rw [← this, h, Nat.add_comm, Nat.add_mul_div_right _ _ (Nat.mul_pos hy hP), Nat.div_eq_of_lt hZ]
    omega
  refine ⟨h1, ?_⟩
  have d := Nat.div_add_mod' T y
  rw [← h1] at d
  have : Z = (T % y) * P := by
    have e : T * P = (Q * y + T % y) * P := by rw [d]
    generalize T % y = m at *
    generalize T * P = tp at *
    grind
  rw [this, Nat.mul_div_cancel _ hP]
theorem two_digits' {a v1 v0 Y q1 q0 m z : Nat} (d1 : q1 * Y + m = a + v1) (d0 : q0 * Y + z = m * 4294967296 + v0) :
    a * 4294967296 + (v1 * 4294967296 + v0) = (q1 * 4294967296 + q0) * Y + z := by
  rw [Nat.add_mul, Nat.mul_right_comm]
  generalize q1 * Y = p1 at *
  generalize q0 * Y = p0 at *
  omega
theorem two_digits {u v1 v0 Y q1 q0 : Nat} (h1 : q1 = (u * 4294967296 + v1) / Y) (h0 : q0 = ((u * 4294967296 + v1) % Y * 4294967296 + v0) / Y) :
    u * 18446744073709551616 + (v1 * 4294967296 + v0) = (q1 * 4294967296 + q0) * Y + ((u * 4294967296 + v1) % Y * 4294967296 + v0) % Y := by
  have d1 := Nat.div_add_mod' (u * 4294967296 + v1) Y
  rw [← h1] at d1
  have d0 := Nat.div_add_mod' ((u * 4294967296 + v1) % Y * 4294967296 + v0) Y
  rw [← h0] at d0
  rw [← two_digits' d1 d0]
  have e : u * 4294967296 * 4294967296 = u * 18446744073709551616 := by rw [Nat.mul_assoc]
  rw [e]
theorem mod_wrap (U y : Nat) (hU : Lim U) : IntKind.u64.wrap ((U : Int) - IntKind.u64.wrap (((U / y : Nat) : Int) * y)) = ((U % y : Nat) : Int) := by
  unfold Lim at hU
  have h1 : U / y * y ≤ U := Nat.div_mul_le_self _ _
  have h2 := Nat.div_add_mod' U y
  have e : ((U / y : Nat) : Int) * (y : Int) = ((U / y * y : Nat) : Int) := (Int.natCast_mul _ _).symm
  have h4 : U - U / y * y = U % y := by omega
  rw [← h4, e]
  exact wrapSub h1 (by omega) _ _ rfl (by rw [IntKind.wrap_u64]; omega)
theorem upper_lt {hi lo y P U L : Nat} (hl : Lim lo) (h : hi < y) (hP : 0 < P) (e : U * 18446744073709551616 + L = (hi * 18446744073709551616 + lo) * P) : U < y * P := by
  unfold Lim at hl
  have h1 : hi * 18446744073709551616 + lo < y * 18446744073709551616 := by omega
  have h2 := Nat.mul_lt_mul_of_pos_right h1 hP
  rw [Nat.mul_right_comm] at h2
  generalize y * P = Y at *
  omega
end Go.Proofs.YtopeahjdglkheaaDoor
/- Words shifted to the right: how the limbs go. No program is named here. -/
namespace Go.Proofs.YtopeahjdglkheaaDoor
open Go.RowKit

theorem shr_low (x s : Nat) (hs : s ≤ 63) : x * 2 ^ (64 - s) % 18446744073709551616 = x % 2 ^ s * 2 ^ (64 - s) := by
  rw [show (18446744073709551616 : Nat) = 2 ^ s * 2 ^ (64 - s) by rw [← Nat.pow_add, show s + (64 - s) = 64 by omega], Nat.mul_mod_mul_right]
theorem orr_parts (x y s : Nat) (hs : s ≤ 63) (hx : Lim x) : bits .or .u64 ((x / 2 ^ s : Nat) : Int) ((y * 2 ^ (64 - s) % 18446744073709551616 : Nat) : Int) = ((x / 2 ^ s + y * 2 ^ (64 - s) % 18446744073709551616 : Nat) : Int) ∧
    x / 2 ^ s + y * 2 ^ (64 - s) % 18446744073709551616 < 18446744073709551616 := by
  unfold Lim at hx
  have hq : x / 2 ^ s < 2 ^ (64 - s) := by
    apply Nat.div_lt_of_lt_mul
    rw [← Nat.pow_add, show s + (64 - s) = 64 by omega]
    exact hx
  have e := shr_low y s hs
  have hlt : y * 2 ^ (64 - s) % 18446744073709551616 < 18446744073709551616 := Nat.mod_lt _ (by omega)
  have hle : x / 2 ^ s ≤ x := Nat.div_le_self _ _
  have hsum : x / 2 ^ s + y * 2 ^ (64 - s) % 18446744073709551616 < 18446744073709551616 := by
    rw [e]
    have h1 : y % 2 ^ s + 1 ≤ 2 ^ s := Nat.mod_lt _ (Nat.two_pow_pos _)
    have h2 := Nat.mul_le_mul_right (2 ^ (64 - s)) h1
    rw [← Nat.pow_add, show s + (64 - s) = 64 by omega, Nat.add_mul] at h2
    omega
  refine ⟨?_, hsum⟩
  rw [bits_or_u64_nat _ _ (by omega) hlt, e, Nat.mul_comm (y % 2 ^ s), Nat.or_comm, ← Nat.two_pow_add_eq_or_of_lt hq, Nat.add_comm]

/-- Limb j of xs shifted to the right by whole limbs and s bits. -/
def sxLimb (xs : List Nat) (whole s j : Nat) : Nat :=
  if j + whole < 4 then xs.getD (j + whole) 0 / 2 ^ s + (if j + whole < 3 then xs.getD (j + whole + 1) 0 * 2 ^ (64 - s) % 18446744073709551616 else 0) else 0
theorem sdiv_of {v p q r : Nat} (h : v = p * q + r) (hr : r < p) : v / p = q := by
  rw [h, Nat.mul_add_div (by omega), Nat.div_eq_of_lt hr, Nat.add_zero]
theorem shr_val (a0 a1 a2 a3 whole s : Nat) (hw : whole ≤ 3) (hs : s ≤ 63) (h0 : Lim a0) (h1 : Lim a1) (h2 : Lim a2) :
    vl [sxLimb [a0, a1, a2, a3] whole s 0, sxLimb [a0, a1, a2, a3] whole s 1, sxLimb [a0, a1, a2, a3] whole s 2, sxLimb [a0, a1, a2, a3] whole s 3] = vl [a0, a1, a2, a3] / 2 ^ (64 * whole + s) := by
  have q0 := shr_low a0 s hs
  have q1 := shr_low a1 s hs
  have q2 := shr_low a2 s hs
  have q3 := shr_low a3 s hs
  have d0 := Nat.div_add_mod a0 (2 ^ s)
  have d1 := Nat.div_add_mod a1 (2 ^ s)
  have d2 := Nat.div_add_mod a2 (2 ^ s)
  have d3 := Nat.div_add_mod a3 (2 ^ s)
  have m0 := Nat.mod_lt a0 (Nat.two_pow_pos s)
  have m1 := Nat.mod_lt a1 (Nat.two_pow_pos s)
  have m2 := Nat.mod_lt a2 (Nat.two_pow_pos s)
  have m3 := Nat.mod_lt a3 (Nat.two_pow_pos s)
  have hP : 2 ^ s * 2 ^ (64 - s) = 18446744073709551616 := by rw [← Nat.pow_add, show s + (64 - s) = 64 by omega]
  rw [Nat.pow_add, ← pow64, ← Nat.div_div_eq_div_mul]
  symm
  unfold Lim at h0 h1 h2
  rcases (show whole = 0 ∨ whole = 1 ∨ whole = 2 ∨ whole = 3 by omega) with rfl | rfl | rfl | rfl
  · rw [show vl [a0, a1, a2, a3] / 18446744073709551616 ^ 0 = vl [a0, a1, a2, a3] by simp]
    refine sdiv_of (r := a0 % 2 ^ s) ?_ m0
    simp [sxLimb, vl]
    rw [q1, q2, q3]
    generalize a0 / 2 ^ s = x0 at *
    generalize a1 / 2 ^ s = x1 at *
    generalize a2 / 2 ^ s = x2 at *
    generalize a3 / 2 ^ s = x3 at *
    generalize a0 % 2 ^ s = l0 at *
    generalize a1 % 2 ^ s = l1 at *
    generalize a2 % 2 ^ s = l2 at *
    generalize a3 % 2 ^ s = l3 at *
    generalize 2 ^ s = P at *
    generalize 2 ^ (64 - s) = Q at *
    clear q0 q1 q2 q3 m0 m1 m2 m3 h0 h1 h2
    grind
  · rw [show vl [a0, a1, a2, a3] / 18446744073709551616 ^ 1 = vl [a1, a2, a3] by simp [vl]; omega]
    refine sdiv_of (r := a1 % 2 ^ s) ?_ m1
    simp [sxLimb, vl]
    rw [q2, q3]
    generalize a1 / 2 ^ s = x1 at *
    generalize a2 / 2 ^ s = x2 at *
    generalize a3 / 2 ^ s = x3 at *
    generalize a1 % 2 ^ s = l1 at *
    generalize a2 % 2 ^ s = l2 at *
    generalize a3 % 2 ^ s = l3 at *
    generalize 2 ^ s = P at *
    generalize 2 ^ (64 - s) = Q at *
    clear q0 q1 q2 q3 m0 m1 m2 m3 h0 h1 h2 d0
    grind
  · rw [show vl [a0, a1, a2, a3] / 18446744073709551616 ^ 2 = vl [a2, a3] by simp [vl]; omega]
    refine sdiv_of (r := a2 % 2 ^ s) ?_ m2
    simp [sxLimb, vl]
    rw [q3]
    generalize a2 / 2 ^ s = x2 at *
    generalize a3 / 2 ^ s = x3 at *
    generalize a2 % 2 ^ s = l2 at *
    generalize a3 % 2 ^ s = l3 at *
    generalize 2 ^ s = P at *
    generalize 2 ^ (64 - s) = Q at *
    clear q0 q1 q2 q3 m0 m1 m2 m3 h0 h1 h2 d0 d1
    grind
  · rw [show vl [a0, a1, a2, a3] / 18446744073709551616 ^ 3 = a3 by simp [vl]; omega]
    simp [sxLimb, vl]
end Go.Proofs.YtopeahjdglkheaaDoor
/- Words that stand in memory, and what calls and statements leave of them. -/
namespace Go.Proofs.YtopeahjdglkheaaDoor
open Go.RowKit Go.Sort

/-- The word n stands in block g. -/
def Cells (w : World) (g n : Nat) : Prop := w.cell? ⟨g, 0, none⟩ = some (.int .u64 (lim 0 n : Nat)) ∧ w.cell? ⟨g, 1, none⟩ = some (.int .u64 (lim 1 n : Nat)) ∧ w.cell? ⟨g, 2, none⟩ = some (.int .u64 (lim 2 n : Nat)) ∧ w.cell? ⟨g, 3, none⟩ = some (.int .u64 (lim 3 n : Nat))
theorem Cells.lt {w : World} {g n : Nat} (h : Cells w g n) : g < w.heap.size := block_lt_of_cell h.1
theorem Cells.below {w w' : World} {g n : Nat} (h : Cells w g n) (hb : Below w.heap.size w w') : Cells w' g n := by
  have hl := h.lt
  unfold Cells at *
  rw [hb.cell (p := ⟨g, 0, none⟩) hl, hb.cell (p := ⟨g, 1, none⟩) hl, hb.cell (p := ⟨g, 2, none⟩) hl, hb.cell (p := ⟨g, 3, none⟩) hl]
  exact h
theorem Cells.alloc {w : World} {g n : Nat} (h : Cells w g n) (o : Obj) : Cells (w.alloc o) g n := h.below ((Below.refl _ _).alloc (Nat.le_refl _) o)
theorem Cells.new (w : World) (t : TypeId) (n : Nat) : Cells (w.alloc (.cells #[.int .u64 (lim 0 n : Nat), .int .u64 (lim 1 n : Nat), .int .u64 (lim 2 n : Nat), .int .u64 (lim 3 n : Nat)] t)) w.heap.size n := (Arr.new4 w t _ _ _ _).cells4
theorem Cells.grown {w : World} {g n : Nat} (h : Cells w g n) (d : Nat) (os : Array Obj) : Cells (grow (redrawn w d) os) g n := h.below (below_regrown w d os)

/-- The words of l stand in memory; what was there when the law began is as it was. -/
def Laid (w W : World) (l : List (Nat × Nat)) : Prop := (∀ p ∈ l, Cells W p.1 p.2) ∧ w.heap.size ≤ W.heap.size ∧ Below w.heap.size w W
/-- .. in the midst of a statement that began when there were B blocks. -/
def Mid (w W : World) (B : Nat) (l : List (Nat × Nat)) : Prop := (∀ p ∈ l, p.1 < B ∧ Cells W p.1 p.2) ∧ B ≤ W.heap.size ∧ w.heap.size ≤ B ∧ Below w.heap.size w W
theorem Laid.mid {w W : World} {l : List (Nat × Nat)} (h : Laid w W l) : Mid w W.drew W.heap.size l := ⟨fun p hp => ⟨(h.1 p hp).lt, h.1 p hp⟩, Nat.le_refl _, h.2.1, h.2.2.drew⟩
theorem Mid.alloc {w W : World} {B : Nat} {l : List (Nat × Nat)} (h : Mid w W B l) (o : Obj) : Mid w (W.alloc o) B l :=
  ⟨fun p hp => ⟨(h.1 p hp).1, (h.1 p hp).2.alloc o⟩, by have := h.2.1; simp; omega, h.2.2.1, h.2.2.2.alloc (Nat.le_trans h.2.2.1 h.2.1) o⟩
theorem Laid.mid1 {w W : World} {l : List (Nat × Nat)} (h : Laid w W l) (o : Obj) : Mid w (W.alloc o).drew W.heap.size l := h.mid.alloc o
theorem Mid.call {w W W1 : World} {B : Nat} {l : List (Nat × Nat)} (h : Mid w W B l) (hb : Below W.heap.size W W1) : Mid w W1 B l :=
  ⟨fun p hp => ⟨(h.1 p hp).1, (h.1 p hp).2.below hb⟩, Nat.le_trans h.2.1 hb.size, h.2.2.1, h.2.2.2.trans (hb.mono (Nat.le_trans h.2.2.1 h.2.1))⟩
theorem zeros_call {W W1 : World} {f : Nat} {t : TypeId} (h : Arr W f t [0, 0, 0, 0]) (hb : Below W.heap.size W W1) : Arr W1 f t [0, 0, 0, 0] := h.below hb h.lt
theorem laid_late {w W : World} {B : Nat} {l : List (Nat × Nat)} (m : Mid w W B l) (t : TypeId) (n : Nat) :
    Laid w (W.alloc (.cells #[.int .u64 (lim 0 n : Nat), .int .u64 (lim 1 n : Nat), .int .u64 (lim 2 n : Nat), .int .u64 (lim 3 n : Nat)] t)) ((W.heap.size, n) :: l) := by
  have m2 := m.alloc (.cells #[.int .u64 (lim 0 n : Nat), .int .u64 (lim 1 n : Nat), .int .u64 (lim 2 n : Nat), .int .u64 (lim 3 n : Nat)] t)
  refine ⟨fun p hp => ?_, Nat.le_trans m2.2.2.1 m2.2.1, m2.2.2.2⟩
  rcases List.mem_cons.1 hp with rfl | hp
  · exact Cells.new W t n
  · exact (m2.1 p hp).2
theorem laid_early {w W : World} {B f : Nat} {l : List (Nat × Nat)} {t : TypeId} (m : Mid w W B l) (z : Arr W f t [0, 0, 0, 0]) (hf : B ≤ f) (n : Nat) :
    Laid w ((((W.setCell ⟨f, 0, none⟩ (.int .u64 (lim 0 n : Nat))).setCell ⟨f, 1, none⟩ (.int .u64 (lim 1 n : Nat))).setCell ⟨f, 2, none⟩ (.int .u64 (lim 2 n : Nat))).setCell ⟨f, 3, none⟩ (.int .u64 (lim 3 n : Nat))) ((f, n) :: l) := by
  refine ⟨fun p hp => ?_, by have := Nat.le_trans m.2.2.1 m.2.1; simpa [World.setCell] using this, below_put4 m.2.2.2 (Nat.le_trans m.2.2.1 hf) _ _ _ _⟩
  rcases List.mem_cons.1 hp with rfl | hp
  · exact (z.put4 _ _ _ _).cells4
  · obtain ⟨hlt, c0, c1, c2, c3⟩ := m.1 p hp
    have o : ∀ (W : World) (i j : Nat) (v : Value), (W.setCell ⟨f, j, none⟩ v).cell? ⟨p.1, i, none⟩ = W.cell? ⟨p.1, i, none⟩ := fun W i j v => World.cell?_setCell_other W ⟨f, j, none⟩ ⟨p.1, i, none⟩ v (by intro e; injection e with e; omega)
    unfold Cells
    simp only [o]
    exact ⟨c0, c1, c2, c3⟩
end Go.Proofs.YtopeahjdglkheaaDoor
