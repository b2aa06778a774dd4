/- The contracts of package word's Small and below, and of the reference's Small and far. -/
import Derived.Test.YtopeahjdglkheaaDoorWordLeaf
import Derived.Deep.QuietTactic
import Derived.Deep.DeepCutAuto
namespace Go.Proofs.YtopeahjdglkheaaDoor
open Go.RowKit

theorem W_small {a : Nat} (h : a < 18446744073709551616) : W a = W4 a 0 0 0 := by
  show W4 (lim 0 a) (lim 1 a) (lim 2 a) (lim 3 a) = _
  unfold lim
  rw [show a / 18446744073709551616 ^ 0 % 18446744073709551616 = a by rw [Nat.pow_zero, Nat.div_one, Nat.mod_eq_of_lt h],
    show a / 18446744073709551616 ^ 1 % 18446744073709551616 = 0 by rw [Nat.div_eq_of_lt (by omega)],
    show a / 18446744073709551616 ^ 2 % 18446744073709551616 = 0 by rw [Nat.div_eq_of_lt (by omega)],
    show a / 18446744073709551616 ^ 3 % 18446744073709551616 = 0 by rw [Nat.div_eq_of_lt (by omega)]]
theorem or0 : bits .or .u64 0 0 = 0 := by decide
set_option maxRecDepth 100000 in
set_option maxHeartbeats 1600000 in
theorem small_t {a : Nat} (h : a < 18446744073709551616) (w : World) : Calls Tryd.prog 35 #[W a] w (RetV (.tuple #[.int .u64 (a : Nat), .bool true]) w) := by
  rw [W_small h]
  have o := or0
  have hB : Hid (Below w.heap.size w (w.alloc (.cells #[.int .u64 (a : Nat), .int .u64 0, .int .u64 0, .int .u64 0] 34))) := (Below.refl _ _).alloc (Nat.le_refl _) _
  clear h
  go_enter Tryd.func35, Tryd.ntmps35
  go_wp2_with fail
  exact bodyPost_ret (v := .tuple #[.int .u64 (a : Nat), .bool true]) (by simp [results, Tryd.results35, go_sem]) rfl ⟨rfl, hB.out⟩
set_option maxRecDepth 100000 in
set_option maxHeartbeats 1600000 in
theorem small1_t {a : Nat} (h : a < 18446744073709551616) (w : World) : Calls Tryd.prog 36 #[W a] w (RetV (.tuple #[.int .u64 (a : Nat), .bool true]) w) := by
  rw [W_small h]
  have hB : Hid (Below w.heap.size w (w.alloc (.cells #[.int .u64 (a : Nat), .int .u64 0, .int .u64 0, .int .u64 0] 34))) := (Below.refl _ _).alloc (Nat.le_refl _) _
  clear h
  go_enter Tryd.func36, Tryd.ntmps36
  go_wp2_with fail
  exact bodyPost_ret (v := .tuple #[.int .u64 (a : Nat), .bool true]) (by simp [results, Tryd.results36, go_sem]) rfl ⟨rfl, hB.out⟩
theorem or_zero {x y : Nat} (hx : Lim x) (hy : Lim y) : ∃ z : Nat, bits .or .u64 (x : Int) (y : Int) = (z : Int) ∧ Lim z ∧ (z = 0 → x = 0 ∧ y = 0) := by
  unfold Lim at *
  refine ⟨x ||| y, bits_or_u64_nat _ _ hx hy, Nat.or_lt_two_pow (n := 64) hx hy, fun h => ?_⟩
  have h1 := Nat.left_le_or (n := x) (m := y)
  have h2 := Nat.right_le_or (n := x) (m := y)
  omega
set_option maxRecDepth 100000 in
set_option maxHeartbeats 1600000 in
theorem small_f {a : Nat} (ha : Big a) (h : 18446744073709551616 ≤ a) (w : World) : Calls Tryd.prog 35 #[W a] w (RetV (.tuple #[.int .u64 0, .bool false]) w) := by
  obtain ⟨l0, l1, l2, l3, hv⟩ := isW_lim ha
  obtain ⟨x, ex, lx, zx⟩ := or_zero l1 l2
  obtain ⟨y, ey, ly, zy⟩ := or_zero lx l3
  have hy : ¬ ((y : Nat) : Int) = 0 := fun e => by
    have h1 := zy (by omega)
    have h2 := zx h1.1
    have l0' : lim 0 a < 18446744073709551616 := l0
    omega
  have hB : Hid (Below w.heap.size w (w.alloc (.cells #[.int .u64 (lim 0 a : Nat), .int .u64 (lim 1 a : Nat), .int .u64 (lim 2 a : Nat), .int .u64 (lim 3 a : Nat)] 34))) := (Below.refl _ _).alloc (Nat.le_refl _) _
  clear zx zy lx ly hv l0 l1 l2 l3 h ha
  go_enter Tryd.func35, Tryd.ntmps35
  go_wp2_with fail
  exact bodyPost_ret (v := .tuple #[.int .u64 0, .bool false]) (by simp [results, Tryd.results35, go_sem]) rfl ⟨rfl, hB.out⟩
set_option maxRecDepth 100000 in
set_option maxHeartbeats 1600000 in
theorem small1_f {a : Nat} (ha : Big a) (h : 18446744073709551616 ≤ a) (w : World) : Calls Tryd.prog 36 #[W a] w (RetV (.tuple #[.int .u64 0, .bool false]) w) := by
  obtain ⟨l0, l1, l2, l3, hv⟩ := isW_lim ha
  by_cases h1 : ((lim 1 a : Nat) : Int) = 0
  · by_cases h2 : ((lim 2 a : Nat) : Int) = 0
    · have h3 : ¬ ((lim 3 a : Nat) : Int) = 0 := fun h3 => by
        have l0' : lim 0 a < 18446744073709551616 := l0
        omega
      clear hv l0 l1 l2 l3 h ha
      go_enter Tryd.func36, Tryd.ntmps36
      go_wp2_with fail
      exact bodyPost_ret (v := .tuple #[.int .u64 0, .bool false]) (by simp [results, Tryd.results36, go_sem]) rfl ⟨rfl, (Below.refl _ _).alloc (Nat.le_refl _) _⟩
    · clear hv l0 l1 l2 l3 h ha
      go_enter Tryd.func36, Tryd.ntmps36
      go_wp2_with fail
      exact bodyPost_ret (v := .tuple #[.int .u64 0, .bool false]) (by simp [results, Tryd.results36, go_sem]) rfl ⟨rfl, (Below.refl _ _).alloc (Nat.le_refl _) _⟩
  · clear hv l0 l1 l2 l3 h ha
    go_enter Tryd.func36, Tryd.ntmps36
    go_wp2_with fail
    exact bodyPost_ret (v := .tuple #[.int .u64 0, .bool false]) (by simp [results, Tryd.results36, go_sem]) rfl ⟨rfl, (Below.refl _ _).alloc (Nat.le_refl _) _⟩

/-- What Small tells. -/
def sml (a : Nat) : Value := if a < 18446744073709551616 then .tuple #[.int .u64 (a : Nat), .bool true] else .tuple #[.int .u64 0, .bool false]
theorem small_c {a : Nat} (ha : Big a) (w : World) : Calls Tryd.prog 35 #[W a] w (RetV (sml a) w) := by
  unfold sml
  split
  · rename_i h; exact small_t h w
  · rename_i h; exact small_f ha (by omega) w
theorem small1_c {a : Nat} (ha : Big a) (w : World) : Calls Tryd.prog 36 #[W a] w (RetV (sml a) w) := by
  unfold sml
  split
  · rename_i h; exact small1_t h w
  · rename_i h; exact small1_f ha (by omega) w

/-- A shift, at most 256. -/
def farv (a : Nat) : Nat := if a ≤ 256 then a else 256
end Go.Proofs.YtopeahjdglkheaaDoor
