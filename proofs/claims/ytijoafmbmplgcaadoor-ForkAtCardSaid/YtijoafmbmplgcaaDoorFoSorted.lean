/- slices.IsSorted of 64-bit numbers; package fork: begun. -/
import Derived.Test.YtijoafmbmplgcaaDoorFoBase
import Derived.Test.YtijoafmbmplgcaaDoorFkAt
namespace Go.Proofs.YtijoafmbmplgcaaDoor
open Go.RowKit

/-- Numbers lie in a block, from there on. -/
def U64At (w : World) (g o : Nat) (xs : List Nat) : Prop := g < w.heap.size ∧ ∀ j, j < xs.length → w.cell? ⟨g, o + j, none⟩ = some (.int .u64 (xs.getD j 0 : Nat))
theorem U64At.below {w v : World} {g o : Nat} {xs : List Nat} (h : U64At w g o xs) (hb : Below w.heap.size w v) : U64At v g o xs :=
  ⟨Nat.lt_of_lt_of_le h.1 hb.size, fun j hj => by rw [cell_below hb h.1]; exact h.2 j hj⟩
/-- They never fall. -/
def Rising (xs : List Nat) : Prop := ∀ i, 1 ≤ i → i < xs.length → xs.getD (i - 1) 0 ≤ xs.getD i 0

set_option maxRecDepth 100000 in
set_option maxHeartbeats 6400000 in
theorem sorted_c (xs : List Nat) (g o n c : Nat) (hn : xs.length = n) (h1 : 1 ≤ n) (h2 : n ≤ 100) (w : World) (h : U64At w g o xs) :
    Calls Tryd.prog 26 #[.slice (some ⟨g, o, none⟩) n c] w fun e w' => ∃ b : Bool, e = .returned (.bool b) ∧ (b = true ↔ Rising xs) ∧ Below w.heap.size w w' := by
  have HN := Lib.hid hn
  have HU := Lib.hid h
  have KL : ∀ x y w, Calls Tryd.prog 38 #[.int .u64 x, .int .u64 y] w fun e w' => e = .returned (.bool (decide (x < y))) ∧ w' = w := less_c
  obtain ⟨q, hq⟩ : ∃ q, q = n - 1 := ⟨_, rfl⟩
  have hq2 : (n : Int) - 1 = (q : Int) := by omega
  have hqn : q + 1 = n := by omega
  have HQ := Lib.hid hqn
  clear hn h hq h1
  go_enter Tryd.func26, Tryd.ntmps26
  go_wp2_with fail
  go_loopw [3] (fun a wr => ∃ (m : Nat), a = .int .i64 (m : Int) ∧ m < n ∧ Hid (∀ i, m < i → i < n → xs.getD (i - 1) 0 ≤ xs.getD i 0) ∧ Hid (U64At wr g o xs) ∧ Hid (Below w.heap.size w wr))
    (fun a _ => (intOf a).toNat)
  case atStart => exact ⟨q, rfl, by have := HQ.out; omega, fun i h1 h2 => by have := HQ.out; omega, HU.out, Below.refl _ _⟩
  case round =>
    clear HU hq2 HQ
    obtain ⟨m, rfl, hm, hz, hu, hb⟩ := hrel
    by_cases h0 : 0 < m
    · have cm := hu.out.2 m (by rw [HN.out]; exact hm)
      obtain ⟨p, hp⟩ : ∃ p, p = m - 1 := ⟨_, rfl⟩
      have cp := hu.out.2 p (by rw [HN.out]; omega)
      have hp2 : (m : Int) - 1 = (p : Int) := by omega
      obtain ⟨x, hx⟩ : ∃ x, x = xs.getD m 0 := ⟨_, rfl⟩
      obtain ⟨y, hy⟩ : ∃ y, y = xs.getD p 0 := ⟨_, rfl⟩
      rw [← hx] at cm
      rw [← hy] at cp
      have HX := Lib.hid hx
      have HY := Lib.hid hy
      have HP := Lib.hid hp
      have hpn : p < n := by omega
      clear hx hy hp
      by_cases hlt : (x : Int) < (y : Int)
      · have kl : ∀ w, Calls Tryd.prog 38 #[.int .u64 (x : Nat), .int .u64 (y : Nat)] w fun e w' => e = .returned (.bool true) ∧ w' = w := fun w => by
          have h := KL x y w
          rw [decide_eq_true hlt] at h
          exact h
        have e : ¬ Rising xs := fun h => by
          have h3 := h m h0 (by rw [HN.out]; exact hm)
          rw [← HX.out, ← HP.out, ← HY.out] at h3
          omega
        have HE := Lib.hid e
        clear e hlt KL
        go_wp2_with fail
        go_quiet (exact Calls.quiet_of_same (kl _))
        go_simp
        go_wp2_with fail
        go_ret
        exact ⟨false, rfl, by simp [HE.out], fdraw hb.out nq⟩
      · have kl : ∀ w, Calls Tryd.prog 38 #[.int .u64 (x : Nat), .int .u64 (y : Nat)] w fun e w' => e = .returned (.bool false) ∧ w' = w := fun w => by
          have h := KL x y w
          rw [decide_eq_false hlt] at h
          exact h
        have HLE : Hid (y ≤ x) := by show _ ≤ _; omega
        clear hlt
        go_wp2_with fail
        go_quiet (exact Calls.quiet_of_same (kl _))
        go_simp
        go_wp2_with fail
        go_roundw
        case rel => exact ⟨p, rfl, hpn, fun i h1 h2 => by
          by_cases e : i = m
          · subst e; rw [← HP.out, ← HX.out, ← HY.out]; exact HLE.out
          · exact hz.out i (by have := HP.out; omega) h2, hu.out.below (draw_below _ nq), fdraw hb.out nq⟩
        case measure => simp [intOf]; have := HP.out; omega
    · have e : Rising xs := fun i h1 h2 => hz.out i (by omega) (by rw [← HN.out]; exact h2)
      have HE := Lib.hid e
      clear e
      go_wp2_with fail
      go_ret
      exact ⟨true, rfl, by simp [HE.out], hb.out⟩

/-- How many of the first m have come. -/
def begunN (xs : List Nat) (now : Nat) : Nat → Nat
  | 0 => 0
  | m + 1 => begunN xs now m + (if comeB (xs.getD m 0) now = true then 1 else 0)
theorem begunN_le (xs : List Nat) (now : Nat) : ∀ m, begunN xs now m ≤ m
  | 0 => Nat.le_refl _
  | m + 1 => by
    have := begunN_le xs now m
    unfold begunN
    split <;> omega

set_option maxRecDepth 100000 in
set_option maxHeartbeats 6400000 in
theorem begun_c (xs : List Nat) (now g o n c : Nat) (hn : xs.length = n) (h2 : n ≤ 100) (w : World) (h : U64At w g o xs) :
    Calls Tryd.prog 24 #[.slice (some ⟨g, o, none⟩) n c, .int .u64 (now : Nat)] w (RetV (.int .i64 (begunN xs now n : Nat)) w) := by
  have HN := Lib.hid hn
  have HU := Lib.hid h
  clear hn h
  go_enter Tryd.func24, Tryd.ntmps24
  go_wp2_with fail
  go_loopw [5, 10] (fun a b wr => ∃ (m : Nat), b = .int .i64 (m : Int) ∧ m ≤ n ∧ a = .int .i64 (begunN xs now m : Nat) ∧ Hid (U64At wr g o xs) ∧ Hid (Below w.heap.size w wr))
    (fun _ b _ => n - (intOf b).toNat)
  case atStart => exact ⟨0, rfl, Nat.zero_le _, rfl, HU.out, Below.refl _ _⟩
  case round =>
    clear HU
    obtain ⟨m, rfl, hm, rfl, hu, hb⟩ := hrel
    by_cases h0 : m < n
    · have cm := hu.out.2 m (by rw [HN.out]; exact h0)
      obtain ⟨x, hx⟩ : ∃ x, x = xs.getD m 0 := ⟨_, rfl⟩
      rw [← hx] at cm
      have hb1 : begunN xs now (m + 1) = begunN xs now m + (if comeB x now = true then 1 else 0) := by rw [hx]; rfl
      have HB1 := Lib.hid hb1
      have hle := begunN_le xs now m
      obtain ⟨k, hk⟩ : ∃ k, k = begunN xs now m := ⟨_, rfl⟩
      rw [← hk] at hle HB1 ⊢
      clear hx hb1 hk
      by_cases h3 : x ≤ now
      · by_cases h4 : x = 18446744073709551615
        · have hcb : comeB x now = false := decide_eq_false fun h => h.1 h4
          have k4 : ((x : Int) != 18446744073709551615) = false := by simp; omega
          have e := HB1.out
          rw [hcb, if_neg (by decide)] at e
          have HE := Lib.hid e
          clear hcb e h4 HB1
          go_wp2_with fail
          go_roundw
          case rel => exact ⟨m + 1, by go_num, by omega, by rw [HE.out]; rfl, hu.out, hb.out⟩
          case measure => simp [intOf]; omega
        · have hcb : comeB x now = true := decide_eq_true ⟨h4, h3⟩
          have k4 : ((x : Int) != 18446744073709551615) = true := by simp; omega
          have e := HB1.out
          rw [hcb, if_pos rfl] at e
          have HE := Lib.hid e
          clear hcb e h4 HB1
          go_wp2_with fail
          go_roundw
          case rel => exact ⟨m + 1, by go_num, by omega, by rw [HE.out]; go_num, hu.out, hb.out⟩
          case measure => simp [intOf]; omega
      · have hcb : comeB x now = false := decide_eq_false fun h => h3 h.2
        have e := HB1.out
        rw [hcb, if_neg (by decide)] at e
        have HE := Lib.hid e
        clear hcb e HB1
        go_wp2_with fail
        go_roundw
        case rel => exact ⟨m + 1, by go_num, by omega, by rw [HE.out]; rfl, hu.out, hb.out⟩
        case measure => simp [intOf]; omega
    · obtain rfl : m = n := by omega
      go_wp2_with fail
      go_ret
      exact ⟨rfl, hb.out⟩
end Go.Proofs.YtijoafmbmplgcaaDoor
