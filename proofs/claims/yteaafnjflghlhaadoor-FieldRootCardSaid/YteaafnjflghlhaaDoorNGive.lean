/- The contract of package nat's giveBack: as word's, over longer slices. -/
import Derived.Test.YteaafnjflghlhaaDoorGuess
import Derived.Test.YteaafnjflghlhaaDoorNTimes
namespace Go.Proofs.YteaafnjflghlhaaDoor
open Go.RowKit

set_option maxRecDepth 100000 in
set_option maxHeartbeats 1600000 in
theorem ngive_c {g f : Nat} {tl td : TypeId} {xs ys : List Nat} {off n cl cd : Nat} (w : World) (hx : Arr w g tl xs) (hy : Arr w f td ys) (hne : f ≠ g) (lx : Lims xs) (ly : Lims ys)
    (hn : n ≤ ys.length) (hys : ys.length ≤ 8388608) (hoff : off + n < xs.length) (hxs : xs.length ≤ 16777216) :
    Calls Tryd.prog 87 #[.slice (some ⟨g, off, none⟩) (n + 1) cl, .slice (some ⟨f, 0, none⟩) n cd] w (RetGive g tl xs ys off n w) := by
  have l0 : Lim 0 := by unfold Lim; omega
  have hn9 : (n : Int) ≤ 8388608 := by omega
  go_enter Tryd.func87, Tryd.ntmps87
  go_wp2_with fail
  go_loopw [4, 9] (fun a i wr => ∃ (k c : Nat) (zs : List Nat), k ≤ n ∧ a = .int .u64 c ∧ i = .int .i64 k ∧ c ≤ 1 ∧ zs.length = xs.length ∧ Lims zs ∧ GiveInv xs ys off k c zs ∧
      Hid (∀ j, off + k ≤ j → zs.getD j 0 = xs.getD j 0) ∧ Arr wr g tl zs ∧ Touch g w wr)
    (fun _ i _ => n - (intOf i).toNat)
  case atStart => exact ⟨0, 0, xs, Nat.zero_le _, rfl, rfl, by omega, rfl, lx, by simp [GiveInv, vl], fun _ _ => rfl, hx, Touch.refl _ _⟩
  case round =>
    obtain ⟨k, c, zs, hk, rfl, rfl, hc1, hlen, hlim, hinv, htail, harr, htouch⟩ := hrel
    have HL := Lib.hid hlen
    clear hlen
    have harr2 := htouch.arr hy hne
    have cx := harr.cell (off + k) (by rw [HL.out]; omega)
    have fx := harr.frozen (off + k)
    obtain ⟨x, ex⟩ : ∃ x, x = zs.getD (off + k) 0 := ⟨_, rfl⟩
    rw [← ex] at cx
    have lx2 : Lim x := by rw [ex]; exact hlim.get _
    have EX := Lib.hid ex
    clear ex
    by_cases hlt : k < n
    · have cy := harr2.cell k (by omega)
      obtain ⟨y, ey⟩ : ∃ y, y = ys.getD k 0 := ⟨_, rfl⟩
      rw [← ey] at cy
      have ly2 : Lim y := by rw [ey]; exact ly.get _
      have EY := Lib.hid ey
      clear ey
      go_wp2_with fail
      refine upon_add x y c hc1 _ lx2 ly2 ?_
      intro s b' hS hb' ls
      go_wp2_with fail
      go_roundw
      case rel =>
        rw [EX.out, EY.out] at hS
        exact ⟨k + 1, b', zs.set (off + k) s, by omega, rfl, by go_num, hb', by rw [List.length_set]; exact HL.out, hlim.set _ _ ls, give_step hinv (by rw [HL.out]; omega) (by omega) hS,
          fun j hj => by rw [List.getD_eq_getElem?_getD, List.getElem?_set_ne (by omega), ← List.getD_eq_getElem?_getD]; exact htail.out j (by omega), harr.set _ _, htouch.trans (Touch.put _ _ _ _)⟩
      case measure => simp [intOf]; omega
    · obtain rfl : k = n := by omega
      have hsum : IntKind.u64.wrap ((x : Int) + c) = (((x + c) % 18446744073709551616 : Nat) : Int) := by rw [addN, wrapU]
      obtain ⟨s, es⟩ : ∃ s, s = (x + c) % 18446744073709551616 := ⟨_, rfl⟩
      rw [← es] at hsum
      have ES := Lib.hid es
      clear es
      go_wp2_with fail
      go_end0
      have he := give_end hinv (by rw [HL.out]; omega)
      rw [← EX.out, ← ES.out] at he
      exact ⟨_, zs.set (off + k) s, rfl, by rw [List.length_set]; exact HL.out, hlim.set _ _ (by rw [ES.out]; unfold Lim; omega), he,
        fun j hj => by rw [List.getD_eq_getElem?_getD, List.getElem?_set_ne (by omega), ← List.getD_eq_getElem?_getD]; exact htail.out j (by omega), harr.set _ _, htouch.trans (Touch.put _ _ _ _)⟩
end Go.Proofs.YteaafnjflghlhaaDoor
