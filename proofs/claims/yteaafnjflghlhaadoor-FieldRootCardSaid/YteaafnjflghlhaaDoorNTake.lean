/- The contract of package nat's takeAway: as word's, over longer slices. -/
import Derived.Test.YteaafnjflghlhaaDoorGuess
import Derived.Test.YteaafnjflghlhaaDoorNTimes
namespace Go.Proofs.YteaafnjflghlhaaDoor
open Go.RowKit

set_option maxRecDepth 100000 in
set_option maxHeartbeats 1600000 in
theorem ntake_c {g f : Nat} {tl td : TypeId} {xs ys : List Nat} {off n cl cd digit : Nat} (w : World) (hx : Arr w g tl xs) (hy : Arr w f td ys) (hne : f ≠ g) (lx : Lims xs) (ly : Lims ys) (hd : Lim digit)
    (hn : n ≤ ys.length) (hys : ys.length ≤ 8388608) (hoff : off + n < xs.length) (hxs : xs.length ≤ 16777216) (hcl : n ≤ cl) :
    Calls Tryd.prog 86 #[.slice (some ⟨g, off, none⟩) (n + 1) cl, .slice (some ⟨f, 0, none⟩) n cd, .int .u64 digit] w (RetTake g tl xs ys off n digit w) := by
  have l0 : Lim 0 := by unfold Lim; omega
  have hn9 : (n : Int) ≤ 8388608 := by omega
  have hcl2 : (n : Int) ≤ (cl : Int) := by omega
  go_enter Tryd.func86, Tryd.ntmps86
  go_wp2_with fail
  go_loopw [7, 8, 19] (fun a b i wr => ∃ (k c br : Nat) (zs : List Nat), k ≤ n ∧ a = .int .u64 c ∧ b = .int .u64 br ∧ i = .int .i64 k ∧ Lim c ∧ br ≤ 1 ∧ zs.length = xs.length ∧ Lims zs ∧ TakeInv xs ys off digit k c br zs ∧
      Hid (∀ j, off + k ≤ j → zs.getD j 0 = xs.getD j 0) ∧ Arr wr g tl zs ∧ Touch g w wr)
    (fun _ _ i _ => n - (intOf i).toNat)
  case atStart => exact ⟨0, 0, 0, xs, Nat.zero_le _, rfl, rfl, rfl, l0, by omega, rfl, lx, by simp [TakeInv, vl], fun _ _ => rfl, hx, Touch.refl _ _⟩
  case round =>
    obtain ⟨k, c, br, zs, hk, rfl, rfl, rfl, lc, hbr, hlen, hlim, hinv, htail, harr, htouch⟩ := hrel
    have HL := Lib.hid hlen
    clear hlen
    have harr2 := htouch.arr hy hne
    by_cases hlt : k < n
    · have cx := harr.cell (off + k) (by rw [HL.out]; omega)
      have fx := harr.frozen (off + k)
      have cy := harr2.cell k (by omega)
      obtain ⟨x, ex⟩ : ∃ x, x = zs.getD (off + k) 0 := ⟨_, rfl⟩
      obtain ⟨y, ey⟩ : ∃ y, y = ys.getD k 0 := ⟨_, rfl⟩
      rw [← ex] at cx
      rw [← ey] at cy
      have lx2 : Lim x := by rw [ex]; exact hlim.get _
      have ly2 : Lim y := by rw [ey]; exact ly.get _
      have EX := Lib.hid ex
      have EY := Lib.hid ey
      clear ex ey
      go_wp2_with fail
      refine (times_c y digit c 0 ly2 hd lc l0 _).mono ?_
      rintro e w1 ⟨h, lo, rfl, hM, rfl⟩
      go_wp2_with fail
      refine upon_sub x lo br hbr _ lx2 hM.2.1 ?_
      intro s b' hS hb' ls
      go_wp2_with fail
      go_roundw
      case rel =>
        rw [EY.out] at hM
        rw [EX.out] at hS
        exact ⟨k + 1, h, b', zs.set (off + k) s, by omega, rfl, rfl, by go_num, hM.2.2, hb', by rw [List.length_set]; exact HL.out, hlim.set _ _ ls, take_step hinv (by rw [HL.out]; omega) (by omega) hM hS,
          fun j hj => by rw [List.getD_eq_getElem?_getD, List.getElem?_set_ne (by omega), ← List.getD_eq_getElem?_getD]; exact htail.out j (by omega), harr.set _ _, htouch.trans (Touch.put _ _ _ _)⟩
      case measure => simp [intOf]; omega
    · obtain rfl : k = n := by omega
      have cx := harr.cell (off + k) (by rw [HL.out]; omega)
      have fx := harr.frozen (off + k)
      obtain ⟨x, ex⟩ : ∃ x, x = zs.getD (off + k) 0 := ⟨_, rfl⟩
      rw [← ex] at cx
      have lx2 : Lim x := by rw [ex]; exact hlim.get _
      have EX := Lib.hid ex
      clear ex
      go_wp2_with fail
      refine upon_sub x c br hbr _ lx2 lc ?_
      intro s b' hS hb' ls
      go_wp2_with fail
      go_ret
      rw [EX.out] at hS
      exact ⟨b', zs.set (off + k) s, rfl, hb', by rw [List.length_set]; exact HL.out, hlim.set _ _ ls, take_end hinv (by rw [HL.out]; omega) hS,
        fun j hj => by rw [List.getD_eq_getElem?_getD, List.getElem?_set_ne (by omega), ← List.getD_eq_getElem?_getD]; exact htail.out j (by omega), harr.set _ _, htouch.trans (Touch.put _ _ _ _)⟩

end Go.Proofs.YteaafnjflghlhaaDoor
