/- Package quarryref13: from, which tells the last of the values whose fork has come. -/
import Derived.Test.YtiflfcdegpmhnaaProg
import Derived.Test.YtiflfcdegpmhnaaWordMath
import Derived.Deep.QuietTactic
import Derived.BigQuiet
import Derived.OwnWalk
namespace Go.Proofs.Ytiflfcdegpmhnaa
open Go.RowKit

/-- The last of the values whose fork has come. -/
def fromZ (f : Int) : Int → List (Int × Int) → Int
  | a, [] => a
  | a, p :: r => fromZ f (if p.1 ≤ f then p.2 else a) r
theorem fromZ_cons (f a : Int) (p : Int × Int) (r : List (Int × Int)) : fromZ f a (p :: r) = fromZ f (if p.1 ≤ f then p.2 else a) r := rfl
/-- Pairs lie in a block. -/
def PairsAt (w : World) (g : Nat) (l : List (Int × Int)) : Prop := ∀ i p, l[i]? = some p → w.cell? ⟨g, i * 2, none⟩ = some (.int .u64 p.1) ∧ w.cell? ⟨g, i * 2 + 1, none⟩ = some (.int .u64 p.2)

set_option maxRecDepth 100000 in
set_option maxHeartbeats 6400000 in
theorem rffrom_c (f a : Int) (l : List (Int × Int)) (g : Nat) (w : World) (h : PairsAt w g l) (hl : l.length ≤ 100) (hp : ∀ p ∈ l, 0 ≤ p.1 ∧ p.1 ≤ 1000) :
    Calls Try.prog 58 #[.int .i64 f, .int .u64 a, .slice (some ⟨g, 0, none⟩) l.length l.length] w fun e w' => e = .returned (.int .u64 (fromZ f a l)) ∧ w' = w := by
  go_enter Try.func58, Try.ntmps58
  go_wp2_with fail
  go_loop [1, 7] (fun x n => ∃ (m : Nat) (y : Int), m ≤ l.length ∧ n = .int .i64 m ∧ x = .int .u64 y ∧ Hid (fromZ f y (l.drop m) = fromZ f a l)) (fun _ n => l.length - (intOf n).toNat)
  case atStart => exact ⟨0, a, Nat.zero_le _, rfl, rfl, rfl⟩
  case round =>
    obtain ⟨m, y, hm, rfl, rfl, hz⟩ := hrel
    by_cases h0 : m < l.length
    · obtain ⟨p, hp1⟩ : ∃ p, l[m]? = some p := ⟨_, List.getElem?_eq_getElem h0⟩
      obtain ⟨c0, c1⟩ := h m p hp1
      have hpm : p ∈ l := List.mem_of_getElem? hp1
      obtain ⟨b0, b1⟩ := hp p hpm
      obtain ⟨p0, p1⟩ := p
      simp only at c0 c1 b0 b1
      have hd : l.drop m = (p0, p1) :: l.drop (m + 1) := by
        rw [List.drop_eq_getElem_cons h0]
        rw [List.getElem?_eq_getElem h0] at hp1
        injection hp1 with hp1
        rw [hp1]
      have v0 : IntKind.i64.wrap p0 = p0 := IntWalk.i64_in _ (by omega)
      rw [hd] at hz
      have hz := hz.out
      rw [fromZ_cons] at hz
      by_cases hf : p0 ≤ f
      · rw [if_pos hf] at hz
        have HZ := Lib.hid hz
        clear hz hd hp1 hpm
        go_wp2_with fail
        go_round
        case rel => exact ⟨m + 1, p1, by omega, by go_num, rfl, HZ.out⟩
        case measure => simp [intOf]; omega
      · rw [if_neg hf] at hz
        have HZ := Lib.hid hz
        clear hz hd hp1 hpm
        go_wp2_with fail
        go_round
        case rel => exact ⟨m + 1, y, by omega, by go_num, rfl, HZ.out⟩
        case measure => simp [intOf]; omega
    · have hz := hz.out
      rw [List.drop_eq_nil_of_le (by omega)] at hz
      have HZ : Hid (y = fromZ f a l) := hz
      clear hz
      go_wp2_with fail
      go_ret
      exact ⟨by rw [← HZ.out]; rfl, rfl⟩
theorem rffrom_n (f a : Int) (l : List (Int × Int)) (n g : Nat) (w : World) (h : PairsAt w g l) (hn : l.length = n) (hl : n ≤ 100) (hp : ∀ p ∈ l, 0 ≤ p.1 ∧ p.1 ≤ 1000) :
    Calls Try.prog 58 #[.int .i64 f, .int .u64 a, .slice (some ⟨g, 0, none⟩) n n] w fun e w' => e = .returned (.int .u64 (fromZ f a l)) ∧ w' = w := by
  subst hn; exact rffrom_c f a l g w h hl hp
end Go.Proofs.Ytiflfcdegpmhnaa
