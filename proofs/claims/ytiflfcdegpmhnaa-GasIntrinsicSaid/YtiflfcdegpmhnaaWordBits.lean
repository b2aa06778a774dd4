/- Contracts of package word's limbs and Bits, and of math/bits' Len64 and LeadingZeros64. -/
import Derived.Test.YtiflfcdegpmhnaaWordLeaf
import Derived.Test.YtiflfcdegpmhnaaWordMath
import Derived.Lib.Strings
import Derived.Lib.Slices
import Derived.Lib.Small
import Derived.Lib.Walk
import Derived.Lib.BitFns
import Derived.Lib.ItoaNum
namespace Go.Proofs.Ytiflfcdegpmhnaa
open Go.RowKit

theorem tabF : ∀ k : Fin 256, (Lib.len8tab[k.val]!).toNat = Lib.bitLen k.val := by decide +kernel
set_option maxRecDepth 100000 in
theorem tab_eq (k : Nat) (h : k < Lib.len8tab.size) : (Lib.len8tab[k]'h).toNat = Lib.bitLen k := by
  have hs : Lib.len8tab.size = 256 := by decide +kernel
  have := tabF ⟨k, by omega⟩
  rw [getElem!_pos Lib.len8tab k h] at this
  exact this
theorem wrap_len {x y : Nat} {s : Int} (h : (Lib.bitLen x : Int) = s + Lib.bitLen y) (hs : 0 ≤ s ∧ s ≤ 56) (hy : y < 256) : wrap64 (s + wrap64 (Lib.bitLen y : Int)) = (Lib.bitLen x : Int) := by
  have l := Lib.bitLen_le8 ⟨y, hy⟩
  simp only at l
  rw [IntWalk.wrap64_in (Lib.bitLen y : Int) (by omega), IntWalk.wrap64_in _ (by omega), h]
theorem wrap_len0 {x : Nat} (hy : x < 256) : wrap64 (wrap64 (Lib.bitLen x : Int)) = (Lib.bitLen x : Int) := by
  have l := Lib.bitLen_le8 ⟨x, hy⟩
  simp only at l
  rw [IntWalk.wrap64_in (Lib.bitLen x : Int) (by omega), IntWalk.wrap64_in _ (by omega)]

set_option maxHeartbeats 4000000 in
set_option maxRecDepth 100000 in
theorem len64_any (x : Int) (w : World) (h0 : 0 ≤ x) (h1 : x ≤ 18446744073709551615) :
    Calls Try.prog 68 #[.int .u64 x] w fun e w' => e = .returned (.int .i64 (Lib.bitLen x.toNat)) ∧ w = w' := by
  have hs : (Lib.len8tab.size : Int) = 256 := by decide +kernel
  go_enter Try.func68, Try.ntmps68
  go_wp2
  all_goals (go_ret; refine ⟨congrArg Ending.returned (congrArg (Value.int IntKind.i64) ?_), rfl⟩)
  all_goals simp only [tab_eq]
  · rw [show (x / 4294967296 / 65536 / 256).toNat = x.toNat / 72057594037927936 by omega]
    exact wrap_len (by have := Lib.bitLen_shift56 x.toNat (by omega) (by omega); omega) (by omega) (by omega)
  · rw [show (x / 4294967296 / 65536).toNat = x.toNat / 281474976710656 by omega]
    exact wrap_len (by have := Lib.bitLen_shift48 x.toNat (by omega) (by omega); omega) (by omega) (by omega)
  · rw [show (x / 4294967296 / 256).toNat = x.toNat / 1099511627776 by omega]
    exact wrap_len (by have := Lib.bitLen_shift40 x.toNat (by omega) (by omega); omega) (by omega) (by omega)
  · rw [show (x / 4294967296).toNat = x.toNat / 4294967296 by omega]
    exact wrap_len (by have := Lib.bitLen_shift32 x.toNat (by omega) (by omega); omega) (by omega) (by omega)
  · rw [show (x / 65536 / 256).toNat = x.toNat / 16777216 by omega]
    exact wrap_len (by have := Lib.bitLen_shift24 x.toNat (by omega) (by omega); omega) (by omega) (by omega)
  · rw [show (x / 65536).toNat = x.toNat / 65536 by omega]
    exact wrap_len (by have := Lib.bitLen_shift16 x.toNat (by omega) (by omega); omega) (by omega) (by omega)
  · rw [show (x / 256).toNat = x.toNat / 256 by omega]
    exact wrap_len (by have := Lib.bitLen_shift8 x.toNat (by omega) (by omega); omega) (by omega) (by omega)
  · exact wrap_len0 (by omega)
theorem len64_c (x : Nat) (hx : Lim x) (w : World) :
    Calls Try.prog 68 #[.int .u64 x] w fun e w' => e = .returned (.int .i64 (Lib.bitLen x : Nat)) ∧ w = w' := by
  unfold Lim at hx
  exact (len64_any x w (by omega) (by omega))
/-- What Len64 tells. -/
theorem bitLen_is (x : Nat) (hx : Lim x) : x < 2 ^ Lib.bitLen x ∧ Lib.bitLen x ≤ 64 ∧ (x ≠ 0 → 1 ≤ Lib.bitLen x ∧ 2 ^ (Lib.bitLen x - 1) ≤ x) := by
  unfold Lim at hx
  have h2 : Lib.bitLen x ≤ 64 := Lib.bitLen_le x 64 (Nat.le_refl _) hx
  by_cases h0 : x = 0
  · subst h0
    exact ⟨by decide, h2, fun h => absurd rfl h⟩
  · obtain ⟨b1, b2, b3⟩ := Lib.bitLenAux_bounds 64 x hx h0
    exact ⟨b3, h2, fun _ => ⟨b1, b2⟩⟩
/-- k is how many limbs of xs there are up to the highest that is not 0. -/
def IsTop (xs : List Nat) (k : Nat) : Prop := k ≤ xs.length ∧ (∀ j, k ≤ j → xs.getD j 0 = 0) ∧ (0 < k → xs.getD (k - 1) 0 ≠ 0)
def RetTop (xs : List Nat) (w : World) (e : Ending) (w' : World) : Prop := ∃ k : Nat, e = .returned (.int .i64 k) ∧ IsTop xs k ∧ w = w'

set_option maxRecDepth 100000 in
set_option maxHeartbeats 1000000 in
theorem limbs_c {g : Nat} {t : TypeId} {xs : List Nat} (w : World) (h : Arr w g t xs) (hl : xs.length ≤ 9) :
    Calls Try.prog 67 #[.slice (some ⟨g, 0, none⟩) xs.length xs.length] w (RetTop xs w) := by
  obtain ⟨n, hn⟩ : ∃ n, n = xs.length := ⟨_, rfl⟩
  rw [← hn] at hl ⊢
  have HN := Lib.hid hn
  clear hn
  go_enter Try.func67, Try.ntmps67
  go_wp2_with fail
  go_loop [3] (fun s => ∃ k : Nat, k ≤ n ∧ s = .int .i64 k ∧ Hid (∀ j, k ≤ j → xs.getD j 0 = 0)) (fun s => (intOf s).toNat)
  case atStart => exact ⟨n, Nat.le_refl _, rfl, fun j hj => by simp [List.getElem?_eq_none (show xs.length ≤ j by rw [← HN.out]; exact hj)]⟩
  case round =>
    obtain ⟨k, hk, rfl, hz⟩ := hrel
    by_cases h0 : 0 < k
    · have ck := h.cell (k - 1) (by rw [← HN.out]; omega)
      obtain ⟨y, hy⟩ : ∃ y, y = xs.getD (k - 1) 0 := ⟨_, rfl⟩
      rw [← hy] at ck
      have HY := Lib.hid hy
      clear hy
      by_cases hy0 : y = 0
      · subst hy0
        go_wp2_with fail
        go_round
        case rel => exact ⟨k - 1, by omega, by go_num, fun j hj => by
          rcases Nat.lt_or_ge j k with hlt | hge
          · obtain rfl : j = k - 1 := by omega
            exact HY.out.symm
          · exact hz.out j hge⟩
        case measure => simp [intOf]; omega
      · have hyb : ((y : Int) == 0) = false := by simp; omega
        go_wp2_with fail
        go_ret
        exact ⟨k, rfl, ⟨by rw [← HN.out]; exact hk, hz.out, fun _ => by rw [← HY.out]; exact hy0⟩, rfl⟩
    · obtain rfl : k = 0 := by omega
      go_wp2_with fail
      go_ret
      exact ⟨0, rfl, ⟨by omega, hz.out, fun h => absurd h (by omega)⟩, rfl⟩

/-- n is how many bits the number a has. -/
def IsBits (a n : Nat) : Prop := a < 2 ^ n ∧ n ≤ 256 ∧ (a ≠ 0 → 1 ≤ n ∧ 2 ^ (n - 1) ≤ a) ∧ (a = 0 → n = 0)
def RetBits (a : Nat) (w : World) (e : Ending) (w' : World) : Prop := ∃ n : Nat, e = .returned (.int .i64 n) ∧ IsBits a n ∧ Below w.heap.size w w'

theorem vl_zero (xs : List Nat) (h : ∀ j, xs.getD j 0 = 0) : vl xs = 0 := by
  induction xs with
  | nil => rfl
  | cons x xs ih =>
    have h0 := h 0
    have h1 := ih fun j => by simpa using h (j + 1)
    simp at h0
    simp [vl, h0, h1]
theorem vl_top {xs : List Nat} {k : Nat} (h : IsTop xs k) : vl xs = vl (xs.take k) := by
  rw [val_split xs k h.1, vl_zero (xs.drop k) (fun j => by
    have := h.2.1 (k + j) (by omega)
    simpa using this)]
  simp

theorem bits_of {a0 a1 a2 a3 a k : Nat} (ha : IsW a0 a1 a2 a3 a) (h : IsTop [a0, a1, a2, a3] k) (hk : 0 < k) :
    IsBits a (64 * (k - 1) + Lib.bitLen ([a0, a1, a2, a3].getD (k - 1) 0)) := by
  obtain ⟨hl, hz, hn⟩ := h
  obtain ⟨b1, b2, b3⟩ := bitLen_is _ (ha.limsList.get (k - 1))
  obtain ⟨b4, b5⟩ := b3 (hn hk)
  obtain ⟨l0, l1, l2, l3, rfl⟩ := ha
  generalize hL : Lib.bitLen ([a0, a1, a2, a3].getD (k - 1) 0) = L at *
  have hL2 : 2 ^ L = 2 * 2 ^ (L - 1) := by rw [← Nat.pow_succ']; congr 1; omega
  have z1 := hz 1; have z2 := hz 2; have z3 := hz 3
  rcases (show k = 1 ∨ k = 2 ∨ k = 3 ∨ k = 4 by simp at hl; omega) with rfl | rfl | rfl | rfl <;> simp at b1 b5 z1 z2 z3 ⊢
  · subst z1 z2 z3
    unfold IsBits
    refine ⟨by omega, by omega, fun _ => ⟨by omega, by omega⟩, fun h => by omega⟩
  · subst z2 z3
    unfold IsBits
    rw [show 64 + L - 1 = 64 + (L - 1) by omega, Nat.pow_add, Nat.pow_add]
    simp
    refine ⟨by omega, by omega, fun _ => ⟨by omega, by omega⟩, fun h => by omega⟩
  · subst z3
    unfold IsBits
    rw [show 128 + L - 1 = 128 + (L - 1) by omega, Nat.pow_add, Nat.pow_add]
    simp
    refine ⟨by omega, by omega, fun _ => ⟨by omega, by omega⟩, fun h => by omega⟩
  · unfold IsBits
    rw [show 192 + L - 1 = 192 + (L - 1) by omega, Nat.pow_add, Nat.pow_add]
    simp
    refine ⟨by omega, by omega, fun _ => ⟨by omega, by omega⟩, fun h => by omega⟩

set_option maxRecDepth 100000 in
set_option maxHeartbeats 1000000 in
theorem bits_c {a0 a1 a2 a3 a : Nat} (ha : IsW a0 a1 a2 a3 a) (w : World) : Calls Try.prog 43 #[W4 a0 a1 a2 a3] w (RetBits a w) := by
  go_enter Try.func43, Try.ntmps43
  go_wp2_with fail
  refine (limbs_c (xs := [a0, a1, a2, a3]) _ (Arr.new4 w 24 a0 a1 a2 a3) (by simp)).mono ?_
  rintro e w1 ⟨k, rfl, hk, rfl⟩
  by_cases hk0 : k = 0
  · subst hk0
    go_wp2_with fail
    go_ret
    refine ⟨0, rfl, ?_, (Below.refl _ _).alloc (Nat.le_refl _) _⟩
    have h0 := ha.vals
    rw [vl_top hk] at h0
    simp [vl] at h0
    subst h0
    exact ⟨by decide, by omega, fun h => absurd rfl h, fun _ => rfl⟩
  · have hkb : ((k : Int) == 0) = false := by simp; omega
    have hkl : k ≤ 4 := hk.1
    have ck := (Arr.new4 w 24 a0 a1 a2 a3).cell (k - 1) (by simp; omega)
    obtain ⟨y, hy⟩ : ∃ y, y = [a0, a1, a2, a3].getD (k - 1) 0 := ⟨_, rfl⟩
    rw [← hy] at ck
    have ly : Lim y := by rw [hy]; exact ha.limsList.get (k - 1)
    have HY := Lib.hid hy
    have hlen := (bitLen_is y ly).2.1
    clear hy
    go_wp2_with (go_at_call 68; refine (len64_c y ly _).mono ?_; rintro e w' ⟨rfl, rfl⟩)
    go_ret
    refine ⟨64 * (k - 1) + Lib.bitLen y, ?_, ?_, (Below.refl _ _).alloc (Nat.le_refl _) _⟩
    · rw [show ((64 * (k - 1) + Lib.bitLen y : Nat) : Int) = 64 * ((k : Int) - 1) + (Lib.bitLen y : Int) by omega]; rfl
    · rw [HY.out]; exact bits_of ha hk (by omega)
end Go.Proofs.Ytiflfcdegpmhnaa
