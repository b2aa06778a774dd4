/- The contract of package word's shiftRight: a / 2^n, for n from 0 to 255. -/
import Derived.Test.YtihffojljbgpcaaShift
import Derived.Test.YtihffojljbgpcaaWordMath
namespace Go.Proofs.Ytihffojljbgpcaa
open Go.RowKit

/-- Limbs below m are shifted, those from m on are still 0. -/
def ShrInv (xs : List Nat) (whole s m : Nat) (bs : List Nat) : Prop := (∀ j, m ≤ j → bs.getD j 0 = 0) ∧ ∀ j, j < m → bs.getD j 0 = sxLimb xs whole s j
theorem shr_step {xs bs cs : List Nat} {whole s m : Nat} (h : ShrInv xs whole s m bs) (hne : ∀ j, j ≠ m → cs.getD j 0 = bs.getD j 0) (he : cs.getD m 0 = sxLimb xs whole s m) : ShrInv xs whole s (m + 1) cs := by
  refine ⟨fun j hj => ?_, fun j hj => ?_⟩
  · rw [hne j (by omega)]; exact h.1 j (by omega)
  · by_cases hjm : j = m
    · subst hjm; exact he
    · rw [hne j hjm]; exact h.2 j (by omega)
theorem shr_done {xs bs : List Nat} {whole s m : Nat} (h : ShrInv xs whole s m bs) (hm : 4 ≤ m + whole) (j : Nat) : bs.getD j 0 = sxLimb xs whole s j := by
  by_cases hlt : j < m
  · exact h.2 j hlt
  · rw [h.1 j (by omega)]
    unfold sxLimb
    rw [if_neg (by omega)]
set_option maxRecDepth 100000 in
set_option maxHeartbeats 1600000 in
theorem shiftRight_c {a0 a1 a2 a3 a : Nat} (ha : IsW a0 a1 a2 a3 a) (n : Nat) (hn : n < 256) (w : World) :
    Calls Try.prog 125 #[W4 a0 a1 a2 a3, .int .i64 n] w (RetW (a / 2 ^ n) w) := by
  obtain ⟨wh, hwh⟩ : ∃ wh, wh = n / 64 := ⟨_, rfl⟩
  obtain ⟨s, hs⟩ : ∃ s, s = n % 64 := ⟨_, rfl⟩
  have b1 : (n : Int) < 256 := by omega
  have e1 : (n : Int) / 64 = (wh : Int) := by omega
  have e2 : (n : Int) % 64 = (s : Int) := by omega
  have e3 : (n : Int).tmod 64 = (s : Int) := by rw [Int.tmod_eq_emod_of_nonneg (by omega)]; omega
  have hw3 : (wh : Int) ≤ 3 := by omega
  have hs63 : (s : Int) ≤ 63 := by omega
  have HN : Hid (n = 64 * wh + s) := by show n = _; omega
  clear hwh hs
  go_enter Try.func125, Try.ntmps125
  go_wp2_with fail
  go_loopw [8] (fun i wr => ∃ (m : Nat) (bs : List Nat), m + wh ≤ 4 ∧ i = .int .i64 (m : Int) ∧ bs.length = 4 ∧ Lims bs ∧ Hid (ShrInv [a0, a1, a2, a3] wh s m bs) ∧ ShMem w wr [a0, a1, a2, a3] bs)
    (fun i _ => (4 - intOf i).toNat)
  case atStart =>
    refine ⟨0, [0, 0, 0, 0], by omega, rfl, rfl, Lims.four ?_ ?_ ?_ ?_, ⟨fun j _ => ?_, fun j hj => by omega⟩, ?_, ?_, ?_, ?_⟩
    iterate 4 (unfold Lim; omega)
    · match j with
      | 0 | 1 | 2 | 3 => rfl
      | j + 4 => rfl
    · have h := ((Arr.new4 w 24 a0 a1 a2 a3).alloc (.cells #[.int .u64 0, .int .u64 0, .int .u64 0, .int .u64 0] 24)).alloc (.cells #[.int .u64 0, .int .u64 0, .int .u64 0, .int .u64 0] 24)
      simpa using h
    · have h := (Arr.new4z (w.alloc (.cells #[.int .u64 a0, .int .u64 a1, .int .u64 a2, .int .u64 a3] 24)) 24).alloc (.cells #[.int .u64 0, .int .u64 0, .int .u64 0, .int .u64 0] 24)
      simpa using h
    · have h := Arr.new4z ((w.alloc (.cells #[.int .u64 a0, .int .u64 a1, .int .u64 a2, .int .u64 a3] 24)).alloc (.cells #[.int .u64 0, .int .u64 0, .int .u64 0, .int .u64 0] 24)) 24
      simpa using h
    · exact (((Below.refl _ _).alloc (Nat.le_refl _) _).alloc (by simp) _).alloc (by simp; omega) _
  case round =>
    obtain ⟨m, bs, hm4, rfl, hlen, hlim, hinv, hmem⟩ := hrel
    have HL := Lib.hid hlen
    clear hlen
    have hwr : IntKind.i64.wrap ((m : Int) + wh) = ((m + wh : Nat) : Int) := by rw [IntWalk.i64_in _ (by omega)]; omega
    by_cases hlt : m + wh < 4
    · have ht : decide (((m + wh : Nat) : Int) < 4) = true := decide_eq_true (by omega)
      have cx := hmem.1.cell (m + wh) (by simp; omega)
      have cb := hmem.2.2.1.cell m (by rw [HL.out]; omega)
      have fb := hmem.2.2.1.frozen m
      obtain ⟨x, ex⟩ : ∃ x, x = [a0, a1, a2, a3].getD (m + wh) 0 := ⟨_, rfl⟩
      rw [← ex] at cx
      have lx : Lim x := by rw [ex]; exact ha.limsList.get _
      have hsh : (x : Int) / 2 ^ s = ((x / 2 ^ s : Nat) : Int) := by simp
      obtain ⟨l, el⟩ : ∃ l, l = x / 2 ^ s := ⟨_, rfl⟩
      rw [← el] at hsh
      have ll : Lim l := by
        have := Nat.div_le_self x (2 ^ s)
        unfold Lim at *
        omega
      have EX := Lib.hid ex
      have EL := Lib.hid el
      clear ex el
      by_cases hgt : m + wh < 3
      · have ch := hmem.1.cell (m + wh + 1) (by simp; omega)
        obtain ⟨y, ey⟩ : ∃ y, y = [a0, a1, a2, a3].getD (m + wh + 1) 0 := ⟨_, rfl⟩
        rw [← ey] at ch
        have hor := orr_parts x y s (by omega) lx
        rw [← EL.out] at hor
        obtain ⟨h, eh⟩ : ∃ h, h = y * 2 ^ (64 - s) % 18446744073709551616 := ⟨_, rfl⟩
        have hsy : IntKind.u64.wrap ((y : Int) * 2 ^ (64 - s)) = (h : Int) := by
          have e : ((y : Int) * 2 ^ (64 - s)) = ((y * 2 ^ (64 - s) : Nat) : Int) := by simp
          rw [e, wrapU, eh]
        rw [← eh] at hor
        obtain ⟨z, ez⟩ : ∃ z, z = l + h := ⟨_, rfl⟩
        have hor1 : bits .or .u64 (l : Int) (h : Int) = (z : Int) := by rw [ez]; exact hor.1
        have EY := Lib.hid ey
        have EH := Lib.hid eh
        have EZ := Lib.hid ez
        have HO := Lib.hid hor.2
        have HX := Lib.hid lx
        have HLL := Lib.hid ll
        clear ey ez eh hor lx ll
        go_wp2_with fail
        have hi2 : IntKind.i64.wrap (((m + wh : Nat) : Int) + 1) = ((m + wh + 1 : Nat) : Int) := by rw [IntWalk.i64_in _ (by omega)]; omega
        have hi3 : IntKind.i64.wrap (64 - (s : Int)) = ((64 - s : Nat) : Int) := by rw [IntWalk.i64_in _ (by omega)]; omega
        go_region
        clear hi2 hi3 hor1 ch
        go_wp2_with fail
        go_roundw
        case rel =>
          refine ⟨m + 1, (bs.set m l).set m z, by omega, by go_num, by simp [HL.out], (hlim.set _ _ HLL.out).set _ _ (by rw [EZ.out]; exact HO.out), ?_, ((hmem.put m l).put m z).drew⟩
          refine shr_step hinv.out (fun j hj => by simp [List.getElem?_set_ne (Ne.symm hj)]) ?_
          simp [HL.out, show m < 4 by omega, sxLimb, hlt, hgt, EZ.out, EL.out, EX.out, EY.out, EH.out]
        case measure => simp [intOf]; omega
      · go_wp2_with fail
        go_roundw
        case rel =>
          refine ⟨m + 1, bs.set m l, by omega, by go_num, by simp [HL.out], hlim.set _ _ ll, ?_, hmem.put m l⟩
          refine shr_step hinv.out (fun j hj => by simp [List.getElem?_set_ne (Ne.symm hj)]) ?_
          simp [HL.out, show m < 4 by omega, sxLimb, hlt, hgt, EL.out, EX.out]
        case measure => simp [intOf]; omega
    · obtain ⟨c0, c1, c2, c3, rfl⟩ := list4 HL.out
      obtain ⟨z0, z1, z2, z3⟩ := hmem.2.2.1.cells4
      obtain ⟨y0, y1, y2, y3⟩ := hmem.2.1.cells4
      obtain ⟨f0, f1, f2, f3⟩ := hmem.2.1.free4
      have g0 := shr_done hinv.out (by omega) 0
      have g1 := shr_done hinv.out (by omega) 1
      have g2 := shr_done hinv.out (by omega) 2
      have g3 := shr_done hinv.out (by omega) 3
      simp at g0 g1 g2 g3
      have hv := shr_val a0 a1 a2 a3 wh s (by omega) (by omega) ha.lims.1 ha.lims.2.1 ha.lims.2.2.1
      rw [← g0, ← g1, ← g2, ← g3, ← HN.out, ← ha.vals] at hv
      have HV := Lib.hid hv
      have hB := hmem.2.2.2
      have ht : decide (((m + wh : Nat) : Int) < 4) = false := decide_eq_false (by omega)
      clear g0 g1 g2 g3 hv
      go_wp2_with fail
      refine bodyPost_ret (v := W4 c0 c1 c2 c3) (by simp [results, Try.results125, go_sem, y0, y1, y2, y3]) rfl ⟨c0, c1, c2, c3, rfl, (isW_val hlim).eq HV.out, ?_⟩
      exact below_put4 hB (by omega) _ _ _ _
end Go.Proofs.Ytihffojljbgpcaa
