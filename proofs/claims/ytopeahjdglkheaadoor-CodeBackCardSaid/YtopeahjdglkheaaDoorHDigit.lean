/- The contract of package hexa's digit and early; the runes of a text. -/
import Derived.Test.YtopeahjdglkheaaDoorProg
import Derived.Test.YtopeahjdglkheaaDoorDig
import Derived.OwnWalk
import Derived.Deep.DeepCutAuto
import Derived.Deep.CutBlock
import Derived.Laws.BitsAllLaws
import Derived.Laws.RangeString
import Derived.Laws.RangeAny
import Derived.Lib.OthersKept
namespace Go.Proofs.YtopeahjdglkheaaDoor
open Go.RowKit

/-- A hex digit's value; whether a rune is one. -/
def digN (r : Int) : Nat := if 48 ≤ r ∧ r ≤ 57 then (r - 48).toNat else if 97 ≤ r ∧ r ≤ 102 then (r - 87).toNat else if 65 ≤ r ∧ r ≤ 70 then (r - 55).toNat else 0
def digOk (r : Int) : Bool := decide (48 ≤ r ∧ r ≤ 57) || decide (97 ≤ r ∧ r ≤ 102) || decide (65 ≤ r ∧ r ≤ 70)
theorem digN_lt (r : Int) : digN r < 16 := by
  unfold digN
  split
  · omega
  · split
    · omega
    · split <;> omega

set_option maxRecDepth 100000 in
set_option maxHeartbeats 1600000 in
theorem digit_h (r : Int) (h0 : 0 ≤ r) (h1 : r ≤ 2147483647) (w : World) : Calls Tryd.prog 79 #[.int .i32 r] w fun e w' => e = .returned (.tuple #[.int .u8 (digN r : Nat), .bool (digOk r)]) ∧ w' = w := by
  have fin : ∀ (v : Int) (b : Bool), v = (digN r : Nat) → b = digOk r → Ending.returned (.tuple #[.int .u8 v, .bool b]) = .returned (.tuple #[.int .u8 (digN r : Nat), .bool (digOk r)]) := fun v b h k => by rw [h, k]
  have FIN := Lib.hid fin
  clear fin
  by_cases a1 : 48 ≤ r ∧ r ≤ 57
  · obtain ⟨a1, a2⟩ := a1
    have e1 : IntKind.u8.wrap (r - 48) = r - 48 := by rw [IntKind.wrap_u8']; omega
    have E := Lib.hid (show r - 48 = (digN r : Nat) ∧ true = digOk r by unfold digN digOk; rw [if_pos ⟨a1, a2⟩]; exact ⟨by omega, by simp [a1, a2]⟩)
    go_enter Tryd.func79, Tryd.ntmps79
    go_wp2_with fail
    go_ret2
    exact ⟨FIN.out _ _ E.out.1 E.out.2, rfl⟩
  · by_cases a2 : 97 ≤ r ∧ r ≤ 102
    · obtain ⟨a2, a3⟩ := a2
      have a4 : ¬ r ≤ 57 := by omega
      have e1 : IntKind.u8.wrap (r - 97) = r - 97 := by rw [IntKind.wrap_u8']; omega
      have e2 : IntKind.u8.wrap (r - 97 + 10) = r - 97 + 10 := by rw [IntKind.wrap_u8']; omega
      have E := Lib.hid (show r - 97 + 10 = (digN r : Nat) ∧ true = digOk r by unfold digN digOk; rw [if_neg (by omega), if_pos ⟨a2, a3⟩]; exact ⟨by omega, by simp [a2, a3]⟩)
      clear a1
      go_enter Tryd.func79, Tryd.ntmps79
      go_wp2_with fail
      go_ret2
      exact ⟨FIN.out _ _ E.out.1 E.out.2, rfl⟩
    · by_cases a3 : 65 ≤ r ∧ r ≤ 70
      · obtain ⟨a3, a4⟩ := a3
        have a5 : ¬ r ≤ 57 := by omega
        have a6 : ¬ 97 ≤ r := by omega
        have e1 : IntKind.u8.wrap (r - 65) = r - 65 := by rw [IntKind.wrap_u8']; omega
        have e2 : IntKind.u8.wrap (r - 65 + 10) = r - 65 + 10 := by rw [IntKind.wrap_u8']; omega
        have E := Lib.hid (show r - 65 + 10 = (digN r : Nat) ∧ true = digOk r by unfold digN digOk; rw [if_neg (by omega), if_neg (by omega), if_pos ⟨a3, a4⟩]; exact ⟨by omega, by simp [a3, a4]⟩)
        clear a1 a2
        go_enter Tryd.func79, Tryd.ntmps79
        go_wp2_with fail
        go_ret2
        exact ⟨FIN.out _ _ E.out.1 E.out.2, rfl⟩
      · have E := Lib.hid (show (0 : Int) = (digN r : Nat) ∧ false = digOk r by
          have c1 : (decide (48 ≤ r ∧ r ≤ 57)) = false := by simpa using a1
          have c2 : (decide (97 ≤ r ∧ r ≤ 102)) = false := by simpa using a2
          have c3 : (decide (65 ≤ r ∧ r ≤ 70)) = false := by simpa using a3
          unfold digN digOk; rw [if_neg a1, if_neg a2, if_neg a3, c1, c2, c3]; exact ⟨rfl, rfl⟩)
        rcases (show r < 48 ∨ (57 < r ∧ r < 65) ∨ (70 < r ∧ r < 97) ∨ 102 < r by omega) with h | ⟨h, k⟩ | ⟨h, k⟩ | h
        all_goals
          clear a1 a2 a3
          go_enter Tryd.func79, Tryd.ntmps79
          go_wp2_with fail
          go_ret2
          exact ⟨FIN.out _ _ E.out.1 E.out.2, rfl⟩

/-- The runes of a text from a place on. -/
def runesF (s : ByteArray) : Nat → Nat → List Nat
  | 0, _ => []
  | f + 1, pos => if pos < s.size then (Utf8.decode s pos).1 :: runesF s f (pos + (Utf8.decode s pos).2) else []
def runesAt (s : ByteArray) (pos : Nat) : List Nat := runesF s (s.size - pos) pos
theorem decode_wide (s : ByteArray) (pos : Nat) (h : pos < s.size) : 1 ≤ (Utf8.decode s pos).2 := by
  by_cases ha : (s[pos]'h).toNat < 128
  · rw [decode_ascii s pos h ha]; exact Nat.le_refl _
  · exact (decode_high s pos h (by omega)).2
theorem runesF_end (s : ByteArray) (f pos : Nat) (h : ¬ pos < s.size) : runesF s f pos = [] := by
  cases f with
  | zero => rfl
  | succ f => unfold runesF; rw [if_neg h]
theorem runesF_more (s : ByteArray) : ∀ f g pos, s.size - pos ≤ f → s.size - pos ≤ g → runesF s f pos = runesF s g pos
  | 0, g, pos, h, _ => by rw [runesF_end s g pos (by omega)]; rfl
  | f + 1, 0, pos, _, h => by rw [runesF_end s (f + 1) pos (by omega)]; rfl
  | f + 1, g + 1, pos, h, k => by
    unfold runesF
    by_cases hp : pos < s.size
    · rw [if_pos hp, if_pos hp]
      have := decode_wide s pos hp
      rw [runesF_more s f g _ (by omega) (by omega)]
    · rw [if_neg hp, if_neg hp]
theorem runesAt_cons (s : ByteArray) (pos : Nat) (h : pos < s.size) : runesAt s pos = (Utf8.decode s pos).1 :: runesAt s (pos + (Utf8.decode s pos).2) := by
  have hw := decode_wide s pos h
  unfold runesAt
  obtain ⟨f, hf⟩ : ∃ f, s.size - pos = f + 1 := ⟨s.size - pos - 1, by omega⟩
  rw [hf]
  show (if pos < s.size then _ else _) = _
  rw [if_pos h, runesF_more s f (s.size - (pos + (Utf8.decode s pos).2)) _ (by omega) (by omega)]
theorem runesAt_nil (s : ByteArray) (pos : Nat) (h : ¬ pos < s.size) : runesAt s pos = [] := runesF_end s _ pos h

/-- What digits tells of runes: how many digits, what is wrong and where; and what its reader has come to. -/
def badAt (k : Nat) (r : Int) : Bool := if k = 0 then decide (r ≠ 48) else if k = 1 then decide (r ≠ 120) else !(digOk r)
def scan {σ : Type} (step : σ → Nat → Nat → Except Nat σ) : List Nat → Nat → σ → (Nat × Nat × Nat) × σ
  | [], k, x => if k < 2 then ((0, 2, k), x) else ((k - 2, 0, 0), x)
  | r :: rs, k, x =>
    if badAt k r = true then ((0, 2, k), x)
    else if k < 2 then scan step rs (k + 1) x
    else match step x (k - 2) (digN r) with
      | .ok y => scan step rs (k + 1) y
      | .error c => ((0, c, k), x)
end Go.Proofs.YtopeahjdglkheaaDoor
