/- Plain arithmetic for the proofs about package word: limbs, carries, words as numbers. No program is named here. -/
import Derived.WalkKit
import Derived.Lib.Hide
import Derived.Lib.Mul64
import Derived.Laws.Bits64b
namespace Go.Proofs.Ytihffojljbgpcaa
open Go.RowKit

/-- Below 2^64. -/
def Lim (n : Nat) : Prop := n < 18446744073709551616
/-- Below 2^256. -/
def Big (n : Nat) : Prop := n < 115792089237316195423570985008687907853269984665640564039457584007913129639936
/-- A sum with carry. -/
def AddC (x y c s k : Nat) : Prop := s + 18446744073709551616 * k = x + y + c ∧ s < 18446744073709551616 ∧ k ≤ 1
/-- A difference with borrow. -/
def SubC (x y c s k : Nat) : Prop := s + y + c = x + 18446744073709551616 * k ∧ s < 18446744073709551616 ∧ k ≤ 1
/-- A product with two summands. -/
def MulA (x y c d hi lo : Nat) : Prop := lo + 18446744073709551616 * hi = x * y + c + d ∧ lo < 18446744073709551616 ∧ hi < 18446744073709551616
/-- Four limbs are the number n. -/
def IsW (a b c d n : Nat) : Prop := a < 18446744073709551616 ∧ b < 18446744073709551616 ∧ c < 18446744073709551616 ∧ d < 18446744073709551616 ∧
  n = a + 18446744073709551616 * b + 340282366920938463463374607431768211456 * c + 6277101735386680763835789423207666416102355444464034512896 * d

abbrev W4 (a b c d : Nat) : Value := .agg #[.int .u64 a, .int .u64 b, .int .u64 c, .int .u64 d]

/-- The call returns the word n, and nothing that was there has changed. -/
def RetW (n : Nat) (w : World) (e : Ending) (w' : World) : Prop := ∃ a b c d, e = .returned (W4 a b c d) ∧ IsW a b c d n ∧ Below w.heap.size w w'
/-- The call returns the value v. -/
def RetV (v : Value) (w : World) (e : Ending) (w' : World) : Prop := e = .returned v ∧ Below w.heap.size w w'

theorem lim4 {a b c d : Nat} (ha : a < 18446744073709551616) (hb : b < 18446744073709551616) (hc : c < 18446744073709551616) (hd : d < 18446744073709551616) :
    a + 18446744073709551616 * b + 340282366920938463463374607431768211456 * c + 6277101735386680763835789423207666416102355444464034512896 * d < 115792089237316195423570985008687907853269984665640564039457584007913129639936 := by omega
theorem IsW.big {a b c d n : Nat} (h : IsW a b c d n) : Big n := by obtain ⟨h0, h1, h2, h3, h4⟩ := h; rw [h4]; exact lim4 h0 h1 h2 h3
theorem IsW.eq {a b c d n m : Nat} (h : IsW a b c d n) (e : n = m) : IsW a b c d m := e ▸ h
theorem IsW.inj {a b c d n a' b' c' d' : Nat} (h : IsW a b c d n) (h' : IsW a' b' c' d' n) : a = a' ∧ b = b' ∧ c = c' ∧ d = d' := by
  obtain ⟨h0, h1, h2, h3, h4⟩ := h
  obtain ⟨g0, g1, g2, g3, g4⟩ := h'
  have e0 : a = a' := by omega
  subst e0
  have e1 : b = b' := by omega
  subst e1
  have e2 : c = c' := by omega
  subst e2
  omega
theorem IsW.val {a b c d n m : Nat} (h : IsW a b c d n) (h' : IsW a b c d m) : n = m := by rw [h.2.2.2.2, h'.2.2.2.2]
theorem IsW.ne {a b c d n m a' b' c' d' : Nat} (h : IsW a b c d n) (h' : IsW a' b' c' d' m) (hn : n ≠ m) : ¬ (a = a' ∧ b = b' ∧ c = c' ∧ d = d') := by
  rintro ⟨rfl, rfl, rfl, rfl⟩
  exact hn (h.val h')
theorem IsW.lims {a b c d n : Nat} (h : IsW a b c d n) : Lim a ∧ Lim b ∧ Lim c ∧ Lim d := ⟨h.1, h.2.1, h.2.2.1, h.2.2.2.1⟩
theorem IsW.of {a b c d : Nat} (ha : Lim a) (hb : Lim b) (hc : Lim c) (hd : Lim d) : ∃ n, IsW a b c d n := ⟨_, ha, hb, hc, hd, rfl⟩
theorem isW_small {a : Nat} (ha : Lim a) : IsW a 0 0 0 a := by unfold Lim at ha; unfold IsW; omega

theorem mod_of {S T k N : Nat} (e : S + T * k = N) (l : S < T) : S = N % T ∧ k = N / T := by
  subst e
  rw [Nat.add_mul_mod_self_left, Nat.mod_eq_of_lt l, Nat.add_mul_div_left _ _ (by omega), Nat.div_eq_of_lt l]
  exact ⟨rfl, by omega⟩

theorem add4 {a0 a1 a2 a3 b0 b1 b2 b3 s0 s1 s2 s3 k0 k1 k2 k3 a b : Nat} (ha : IsW a0 a1 a2 a3 a) (hb : IsW b0 b1 b2 b3 b)
    (h0 : AddC a0 b0 0 s0 k0) (h1 : AddC a1 b1 k0 s1 k1) (h2 : AddC a2 b2 k1 s2 k2) (h3 : AddC a3 b3 k2 s3 k3) :
    IsW s0 s1 s2 s3 ((a + b) % 115792089237316195423570985008687907853269984665640564039457584007913129639936) ∧ k3 = (a + b) / 115792089237316195423570985008687907853269984665640564039457584007913129639936 := by
  obtain ⟨_, _, _, _, ha⟩ := ha
  obtain ⟨_, _, _, _, hb⟩ := hb
  obtain ⟨h0, g0, _⟩ := h0
  obtain ⟨h1, g1, _⟩ := h1
  obtain ⟨h2, g2, _⟩ := h2
  obtain ⟨h3, g3, _⟩ := h3
  have e : (s0 + 18446744073709551616 * s1 + 340282366920938463463374607431768211456 * s2 + 6277101735386680763835789423207666416102355444464034512896 * s3) + 115792089237316195423570985008687907853269984665640564039457584007913129639936 * k3 = a + b := by
    clear g0 g1 g2 g3
    grind
  obtain ⟨r, q⟩ := mod_of e (lim4 g0 g1 g2 g3)
  exact ⟨⟨g0, g1, g2, g3, r.symm⟩, q⟩
theorem sub4 {a0 a1 a2 a3 b0 b1 b2 b3 s0 s1 s2 s3 k0 k1 k2 k3 a b : Nat} (ha : IsW a0 a1 a2 a3 a) (hb : IsW b0 b1 b2 b3 b)
    (h0 : SubC a0 b0 0 s0 k0) (h1 : SubC a1 b1 k0 s1 k1) (h2 : SubC a2 b2 k1 s2 k2) (h3 : SubC a3 b3 k2 s3 k3) :
    IsW s0 s1 s2 s3 ((115792089237316195423570985008687907853269984665640564039457584007913129639936 + a - b) % 115792089237316195423570985008687907853269984665640564039457584007913129639936) := by
  have hbig := hb.big
  have habig := ha.big
  obtain ⟨_, _, _, _, ha⟩ := ha
  obtain ⟨_, _, _, _, hb⟩ := hb
  obtain ⟨h0, g0, _⟩ := h0
  obtain ⟨h1, g1, _⟩ := h1
  obtain ⟨h2, g2, _⟩ := h2
  obtain ⟨h3, g3, hk⟩ := h3
  have e : (s0 + 18446744073709551616 * s1 + 340282366920938463463374607431768211456 * s2 + 6277101735386680763835789423207666416102355444464034512896 * s3) + b = a + 115792089237316195423570985008687907853269984665640564039457584007913129639936 * k3 := by
    clear g0 g1 g2 g3
    grind
  have l := lim4 g0 g1 g2 g3
  refine ⟨g0, g1, g2, g3, ?_⟩
  clear h0 h1 h2 h3 g0 g1 g2 g3 ha hb
  generalize s0 + 18446744073709551616 * s1 + 340282366920938463463374607431768211456 * s2 + 6277101735386680763835789423207666416102355444464034512896 * s3 = S at *
  unfold Big at *
  rcases (show k3 = 0 ∨ k3 = 1 by omega) with rfl | rfl <;> omega

theorem addC_of (x y c : Nat) (hc : c ≤ 1) (hx : Lim x) (hy : Lim y) : AddC x y c ((x + y + c) % 18446744073709551616) ((x + y + c) / 18446744073709551616) ∧ (x + y + c) / 18446744073709551616 ≤ 1 ∧ Lim ((x + y + c) % 18446744073709551616) := by
  unfold Lim at *; unfold AddC; omega
theorem subC_lt (x y c : Nat) (hc : c ≤ 1) (hx : Lim x) (hy : Lim y) (h : x < y + c) : SubC x y c ((x + 18446744073709551616 - y - c) % 18446744073709551616) 1 ∧ Lim ((x + 18446744073709551616 - y - c) % 18446744073709551616) := by
  unfold Lim at *; unfold SubC; omega
theorem subC_ge (x y c : Nat) (hc : c ≤ 1) (hx : Lim x) (hy : Lim y) (h : ¬ x < y + c) : SubC x y c ((x + 18446744073709551616 - y - c) % 18446744073709551616) 0 ∧ Lim ((x + 18446744073709551616 - y - c) % 18446744073709551616) := by
  unfold Lim at *; unfold SubC; omega
theorem castMod (x y c : Nat) : ((x : Int) + y + c) % 18446744073709551616 = (((x + y + c) % 18446744073709551616 : Nat) : Int) ∧ ((x : Int) + y + c) / 18446744073709551616 = (((x + y + c) / 18446744073709551616 : Nat) : Int) := by omega
theorem wrapU (n : Nat) : IntKind.u64.wrap (n : Int) = ((n % 18446744073709551616 : Nat) : Int) := by rw [IntKind.wrap_u64]; omega
theorem mul_hi {x y h l : Nat} (hx : Lim x) (hy : Lim y) (hh : h = x * y / 18446744073709551616) (hl : l = x * y % 18446744073709551616) :
    l + 18446744073709551616 * h = x * y ∧ l < 18446744073709551616 ∧ h ≤ 18446744073709551614 := by
  unfold Lim at *
  have hm : x * y ≤ 18446744073709551615 * 18446744073709551615 := Nat.mul_le_mul (by omega) (by omega)
  generalize x * y = p at *
  omega

theorem maskN (a : Nat) (ha : a < 18446744073709551616) : bits .and .u64 (a : Int) 4294967295 = ((a % 4294967296 : Nat) : Int) := by
  have h := bits_and_u64_nat a 4294967295 ha (by omega)
  have e : a &&& 4294967295 = a % 4294967296 := Nat.and_two_pow_sub_one_eq_mod a 32
  rw [e] at h
  exact h
theorem divN (a : Nat) : (a : Int) / 4294967296 = ((a / 4294967296 : Nat) : Int) := by omega
theorem mulN (a b : Nat) : (a : Int) * (b : Int) = ((a * b : Nat) : Int) := (Int.natCast_mul a b).symm
theorem addN (a b : Nat) : (a : Int) + (b : Int) = ((a + b : Nat) : Int) := (Int.natCast_add a b).symm
theorem wrapN (a : Nat) (ha : a < 18446744073709551616) : IntKind.u64.wrap (a : Int) = (a : Int) := by rw [IntKind.wrap_u64]; omega
theorem mulA_of {x y c d h l s0 k0 s1 k1 : Nat} (hx : Lim x) (hy : Lim y) (hc : Lim c) (hd : Lim d) (hP : l + 18446744073709551616 * h = x * y ∧ l < 18446744073709551616 ∧ h ≤ 18446744073709551614) (A0 : AddC l c 0 s0 k0) (A1 : AddC s0 d 0 s1 k1)
    : MulA x y c d (h + k0 + k1) s1 ∧ IntKind.u64.wrap ((h : Int) + k0) = ((h + k0 : Nat) : Int) ∧ IntKind.u64.wrap (((h + k0 : Nat) : Int) + k1) = ((h + k0 + k1 : Nat) : Int) := by
  unfold Lim at *
  have hm : x * y ≤ 18446744073709551615 * 18446744073709551615 := Nat.mul_le_mul (by omega) (by omega)
  obtain ⟨e, h1, h2⟩ := hP
  obtain ⟨e0, _, b0⟩ := A0
  obtain ⟨e1, b1, b2⟩ := A1
  have hlt : h + k0 + k1 < 18446744073709551616 := by omega
  rw [addN, addN, wrapN _ (by omega), wrapN _ hlt]
  exact ⟨⟨by omega, b1, hlt⟩, rfl, rfl⟩
theorem bcell {W w1 : World} (hb : Below W.heap.size W w1) : (∀ b o, b < W.heap.size → w1.cell? ⟨b, o, none⟩ = W.cell? ⟨b, o, none⟩) ∧ (∀ b o, b < W.heap.size → w1.frozen? ⟨b, o, none⟩ = W.frozen? ⟨b, o, none⟩) :=
  ⟨fun b o h => hb.cell (p := ⟨b, o, none⟩) h, fun b o h => hb.frozen (p := ⟨b, o, none⟩) h⟩
theorem ret_u64 {a : Int} {b : Nat} (h : a = b) : Value.int .u64 a = Value.int .u64 (b : Int) := by rw [h]
end Go.Proofs.Ytihffojljbgpcaa
