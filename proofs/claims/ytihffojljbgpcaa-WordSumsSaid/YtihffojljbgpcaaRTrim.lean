/- The contracts of package quarryref02's smallest functions: trim, Of, From. -/
import Derived.Test.YtihffojljbgpcaaProg
import Derived.Test.YtihffojljbgpcaaSl
namespace Go.Proofs.Ytihffojljbgpcaa
open Go.RowKit

/-- The call returns a value of which R says what it is, and the world is as it was. -/
def RetS (R : Value → Prop) (w : World) (e : Ending) (w' : World) : Prop := ∃ v, e = .returned v ∧ R v ∧ w' = w

set_option maxRecDepth 100000 in
set_option maxHeartbeats 1600000 in
theorem rtrim_c {A : Option Addr} {c : Nat} {xs : List Nat} (w : World) (h : Rd .u32 w A c xs) (hd : Ds 4294967296 xs) (hl : xs.length ≤ 67108864) :
    Calls Try.prog 127 #[.slice A xs.length c] w (RetS (fun v => Num w v (dv 4294967296 xs) xs.length) w) := by
  have hle := h.le
  go_enter Try.func127, Try.ntmps127
  go_wp2_with fail
  go_loop [3] (fun n => ∃ m : Nat, m ≤ xs.length ∧ n = .int .i64 m ∧ Hid (∀ j, m ≤ j → xs.getD j 0 = 0)) (fun n => (intOf n).toNat)
  case atStart => exact ⟨xs.length, Nat.le_refl _, rfl, fun j hj => by rw [List.getD_eq_getElem?_getD, List.getElem?_eq_none (by omega)]; rfl⟩
  case round =>
    obtain ⟨m, hm, rfl, hz⟩ := hrel
    by_cases h0 : 0 < m
    · obtain ⟨b, off, rfl, hb, hc⟩ := h.at_ (by omega)
      have cx := hc (m - 1) (by omega)
      obtain ⟨x, ex⟩ : ∃ x, x = xs.getD (m - 1) 0 := ⟨_, rfl⟩
      rw [← ex] at cx
      have EX := Lib.hid ex
      have H := Lib.hid h
      clear hc ex h
      by_cases hx : x = 0
      · subst hx
        go_wp2_with fail
        go_round
        case rel => exact ⟨m - 1, by omega, by go_num, fun j hj => by
          rcases Nat.lt_or_ge j m with h1 | h1
          · obtain rfl : j = m - 1 := by omega
            exact EX.out.symm
          · exact hz.out j h1⟩
        case measure => simp [intOf]; omega
      · have hx0 : ((x : Int) == 0) = false := by simp; omega
        go_wp2_with fail
        go_ret
        refine ⟨_, rfl, ?_, rfl⟩
        exact ⟨_, c, xs.take m, by rw [List.length_take, Nat.min_eq_left hm]; rfl, H.out.take m hm, Can.of_take hd hm hz.out fun _ => by rw [← EX.out]; exact hx, by rw [List.length_take]; omega⟩
    · obtain rfl : m = 0 := by omega
      have H := Lib.hid h
      clear h
      go_wp2_with fail
      go_ret
      refine ⟨_, rfl, ?_, rfl⟩
      refine ⟨_, c, [], rfl, H.out.take 0 (Nat.zero_le _), ?_, by simp⟩
      have := Can.of_take (m := 0) hd (by omega) hz.out (fun h => by omega)
      simpa using this
theorem rtrim_n {A : Option Addr} {n c : Nat} {xs : List Nat} (w : World) (h : Rd .u32 w A c xs) (hn : xs.length = n) (hd : Ds 4294967296 xs) (hl : n ≤ 67108864) :
    Calls Try.prog 127 #[.slice A n c] w (RetS (fun v => Num w v (dv 4294967296 xs) n) w) := by
  subst hn; exact rtrim_c w h hd hl
end Go.Proofs.Ytihffojljbgpcaa
