/- Package quarryref17: in, which tells whether a number lies in one of some spans. -/
import Derived.Test.YtiflfcdegpmhnaaFkOf
import Derived.Test.YtiflfcdegpmhnaaFkOp
namespace Go.Proofs.Ytiflfcdegpmhnaa
open Go.RowKit

/-- Does a number lie in one of the spans? -/
def inZ (op : Int) : List (Int × Int) → Bool
  | [] => false
  | p :: r => if p.1 ≤ op ∧ op ≤ p.2 then true else inZ op r
/-- Spans lie in a block. -/
def SpansAt (w : World) (g : Nat) (l : List (Int × Int)) : Prop := ∀ i p, l[i]? = some p → w.cell? ⟨g, i * 2, none⟩ = some (.int .i64 p.1) ∧ w.cell? ⟨g, i * 2 + 1, none⟩ = some (.int .i64 p.2)

set_option maxRecDepth 100000 in
set_option maxHeartbeats 6400000 in
theorem rin_c (op : Int) (l : List (Int × Int)) (g : Nat) (w : World) (h : SpansAt w g l) (hl : l.length ≤ 100) :
    Calls Try.prog 42 #[.int .i64 op, .slice (some ⟨g, 0, none⟩) (l.length * 2) (l.length * 2)] w fun e w' => e = .returned (.bool (inZ op l)) ∧ w' = w := by
  obtain ⟨n, hn⟩ : ∃ n, n = l.length * 2 := ⟨_, rfl⟩
  rw [← hn]
  go_enter Try.func42, Try.ntmps42
  go_wp2_with fail
  go_loop [5] (fun i => ∃ m : Nat, m ≤ l.length ∧ i = .int .i64 ((m * 2 : Nat) : Int) ∧ Hid (inZ op (l.drop m) = inZ op l)) (fun i => n - (intOf i).toNat)
  case atStart => exact ⟨0, Nat.zero_le _, rfl, rfl⟩
  case round =>
    obtain ⟨m, hm, rfl, hz⟩ := hrel
    by_cases h0 : m < l.length
    · obtain ⟨p, hp1⟩ : ∃ p, l[m]? = some p := ⟨_, List.getElem?_eq_getElem h0⟩
      obtain ⟨c0, c1⟩ := h m p hp1
      obtain ⟨p0, p1⟩ := p
      simp only at c0 c1
      have hd : l.drop m = (p0, p1) :: l.drop (m + 1) := by
        rw [List.drop_eq_getElem_cons h0]
        rw [List.getElem?_eq_getElem h0] at hp1
        injection hp1 with hp1
        rw [hp1]
      rw [hd] at hz
      have hz := hz.out
      rw [inZ] at hz
      simp only at hz
      by_cases hf : p0 ≤ op
      · by_cases hg : op ≤ p1
        · rw [if_pos ⟨hf, hg⟩] at hz
          have HZ := Lib.hid hz
          clear hz hd hp1
          go_wp2_with fail
          go_ret
          exact ⟨by rw [← HZ.out]; rfl, rfl⟩
        · rw [if_neg (fun x => hg x.2)] at hz
          have HZ := Lib.hid hz
          clear hz hd hp1
          go_wp2_with fail
          go_round
          case rel => exact ⟨m + 1, by omega, by go_num, HZ.out⟩
          case measure => simp [intOf]; omega
      · rw [if_neg (fun x => hf x.1)] at hz
        have HZ := Lib.hid hz
        clear hz hd hp1
        go_wp2_with fail
        go_round
        case rel => exact ⟨m + 1, by omega, by go_num, HZ.out⟩
        case measure => simp [intOf]; omega
    · have hz := hz.out
      rw [List.drop_eq_nil_of_le (by omega)] at hz
      have HZ : Hid (false = inZ op l) := hz
      clear hz
      have he : m = l.length := by omega
      go_wp2_with fail
      go_ret
      exact ⟨by rw [← HZ.out]; rfl, rfl⟩
theorem rin_n (op : Int) (l : List (Int × Int)) (n g : Nat) (w : World) (h : SpansAt w g l) (hn : l.length * 2 = n) (hl : n ≤ 100) :
    Calls Try.prog 42 #[.int .i64 op, .slice (some ⟨g, 0, none⟩) n n] w fun e w' => e = .returned (.bool (inZ op l)) ∧ w' = w := by
  subst hn; exact rin_c op l g w h (by omega)
end Go.Proofs.Ytiflfcdegpmhnaa
