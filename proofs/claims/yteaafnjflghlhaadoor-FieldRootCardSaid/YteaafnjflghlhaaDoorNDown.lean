/- The contract of package nat's shiftDown. -/
import Derived.Test.YteaafnjflghlhaaDoorNLimbs
import Derived.Deep.DeepCutAuto
namespace Go.Proofs.YteaafnjflghlhaaDoor
open Go.RowKit

/-- A limb of a number divided by 2^n, of two limbs of the number. -/
theorem shdn_digit {xs : List Nat} (h : Ds 18446744073709551616 xs) {m n : Nat} (hn : n ≤ 63) :
    bits .or .u64 ((xs.getD m 0 / 2 ^ n : Nat) : Int) ((xs.getD (m + 1) 0 * 2 ^ (64 - n) % 18446744073709551616 : Nat) : Int) = ((xs.getD m 0 / 2 ^ n + xs.getD (m + 1) 0 * 2 ^ (64 - n) % 18446744073709551616 : Nat) : Int) ∧
    xs.getD m 0 / 2 ^ n + xs.getD (m + 1) 0 * 2 ^ (64 - n) % 18446744073709551616 < 18446744073709551616 ∧
    xs.getD m 0 / 2 ^ n + xs.getD (m + 1) 0 * 2 ^ (64 - n) % 18446744073709551616 = dv 18446744073709551616 xs / 2 ^ n / 18446744073709551616 ^ m % 18446744073709551616 := by
  have hB : (18446744073709551616 : Nat) = 2 ^ n * 2 ^ (64 - n) := by rw [← Nat.pow_add, show n + (64 - n) = 64 by omega]
  have e0 : dv 18446744073709551616 xs / 2 ^ n / 18446744073709551616 ^ m = dv 18446744073709551616 xs / 18446744073709551616 ^ m / 2 ^ n := by
    rw [Nat.div_div_eq_div_mul, Nat.div_div_eq_div_mul, Nat.mul_comm]
  have d0 := dv_digit h (by omega) m
  have d1 := dv_digit h (by omega) (m + 1)
  rw [Nat.pow_succ, ← Nat.div_div_eq_div_mul] at d1
  rw [e0]
  generalize dv 18446744073709551616 xs / 18446744073709551616 ^ m = q at *
  rw [← d0, ← d1]
  obtain ⟨t, ht⟩ : ∃ t, t = q / 18446744073709551616 := ⟨_, rfl⟩
  obtain ⟨x, hx⟩ : ∃ x, x = q % 18446744073709551616 := ⟨_, rfl⟩
  rw [← ht, ← hx]
  have hq : q = x + 2 ^ n * (2 ^ (64 - n) * t) := by
    have := Nat.mod_add_div q 18446744073709551616
    rw [← ht, ← hx] at this
    rw [← Nat.mul_assoc, ← hB]
    exact this.symm
  have hx2 : x < 18446744073709551616 := by rw [hx]; exact Nat.mod_lt _ (by omega)
  have hlow : x / 2 ^ n < 2 ^ (64 - n) := Nat.div_lt_of_lt_mul (by rw [← hB]; exact hx2)
  have ey : t % 18446744073709551616 * 2 ^ (64 - n) % 18446744073709551616 = 2 ^ (64 - n) * (t % 2 ^ n) := by
    rw [Nat.mod_mul_mod]
    conv => lhs; rw [hB, Nat.mul_mod_mul_right]
    rw [Nat.mul_comm]
  have ez : 2 ^ (64 - n) * t % 18446744073709551616 = 2 ^ (64 - n) * (t % 2 ^ n) := by
    conv => lhs; rw [hB, Nat.mul_comm (2 ^ n), Nat.mul_mod_mul_left]
  have hr : t % 2 ^ n + 1 ≤ 2 ^ n := Nat.mod_lt _ (Nat.two_pow_pos _)
  have hsum : x / 2 ^ n + 2 ^ (64 - n) * (t % 2 ^ n) < 18446744073709551616 := by
    have := Nat.mul_le_mul_left (2 ^ (64 - n)) hr
    rw [Nat.mul_add, Nat.mul_one, Nat.mul_comm (2 ^ (64 - n)) (2 ^ n), ← hB] at this
    omega
  rw [ey]
  refine ⟨?_, hsum, ?_⟩
  · rw [bits_or_u64_nat _ _ (by omega) (by omega), Nat.add_comm (x / 2 ^ n), Nat.two_pow_add_eq_or_of_lt hlow, Nat.or_comm]
  · rw [hq, Nat.add_mul_div_left _ _ (Nat.two_pow_pos n), Nat.add_mod, ez, Nat.mod_eq_of_lt (Nat.lt_of_le_of_lt (Nat.div_le_self _ _) hx2), Nat.mod_eq_of_lt hsum]
/-- The slice in place, divided by 2^n. -/
theorem tch_drew (g : Nat) (w : World) : Tch g w w.drew := ⟨rfl, rfl, rfl, rfl, fun _ _ => rfl⟩
def RetDown (n K G : Nat) (w : World) (e : Ending) (w' : World) : Prop := ∃ zs, e = .returned (.tuple #[]) ∧ Row .u64 w' G 22 zs ∧ Ds 18446744073709551616 zs ∧ dv 18446744073709551616 zs = n ∧ zs.length = K ∧ Tch G w w'
/-- m limbs done, the others as they were. -/
def DownInv (xs : List Nat) (n m : Nat) (cs : List Nat) : Prop := ∀ j, cs.getD j 0 = if j < m then dv 18446744073709551616 xs / 2 ^ n / 18446744073709551616 ^ j % 18446744073709551616 else xs.getD j 0
theorem down_step {xs cs : List Nat} {n m r : Nat} (h : DownInv xs n m cs) (hm : m < cs.length) (hr : r = dv 18446744073709551616 xs / 2 ^ n / 18446744073709551616 ^ m % 18446744073709551616) : DownInv xs n (m + 1) (cs.set m r) := by
  intro j
  rw [List.getD_eq_getElem?_getD, List.getElem?_set]
  by_cases e : m = j
  · rw [if_pos e, if_pos (by omega), if_pos (by omega), ← e]; exact hr
  · rw [if_neg e, ← List.getD_eq_getElem?_getD, h j]
    by_cases e2 : j < m
    · rw [if_pos e2, if_pos (by omega)]
    · rw [if_neg e2, if_neg (by omega)]
theorem down_end {xs cs : List Nat} {n : Nat} (hx : Ds 18446744073709551616 xs) (h : DownInv xs n cs.length cs) (hl : cs.length = xs.length) : dv 18446744073709551616 cs = dv 18446744073709551616 xs / 2 ^ n := by
  refine dv_of_digits (fun i hi => by rw [h i, if_pos hi]) ?_
  rw [hl]
  exact Nat.lt_of_le_of_lt (Nat.div_le_self _ _) (dv_lt xs hx)
set_option maxRecDepth 100000 in
set_option maxHeartbeats 6400000 in
theorem shiftDown_c {G : Nat} {xs : List Nat} (w : World) (h : Row .u64 w G 22 xs) (hx : Ds 18446744073709551616 xs) (hl : xs.length ≤ 16777216) (n : Nat) (hn : n ≤ 63) :
    Calls Tryd.prog 81 #[.slice (some ⟨G, 0, none⟩) xs.length xs.length, .int .i64 (n : Nat)] w (RetDown (dv 18446744073709551616 xs / 2 ^ n) xs.length G w) := by
  have HX := Lib.hid hx
  obtain ⟨L, hL⟩ : ∃ L, L = xs.length := ⟨_, rfl⟩
  have HL := Lib.hid hL
  rw [← hL] at hl ⊢
  obtain ⟨t, ht⟩ : ∃ t : Nat, t = 64 - n := ⟨_, rfl⟩
  have ht1 : 64 - (n : Int) = (t : Int) := by omega
  have ht2 : IntKind.i64.wrap (64 - (n : Int)) = (t : Int) := by rw [IntWalk.i64_in _ (by omega)]; exact ht1
  have ht3 : (t : Int) ≤ 64 := by omega
  have hn63 : (n : Int) ≤ 63 := by omega
  have HT := Lib.hid ht
  have HN := Lib.hid hn
  clear hx hL ht hn
  go_enter Tryd.func81, Tryd.ntmps81
  go_wp2_with fail
  go_loopw [7] (fun i wr => ∃ (m : Nat) (cs : List Nat), m ≤ L ∧ i = .int .i64 (m : Int) ∧ Hid (cs.length = L) ∧ Hid (Ds 18446744073709551616 cs) ∧ Hid (DownInv xs n m cs) ∧ Row .u64 wr G 22 cs ∧ Hid (Tch G w wr))
    (fun i _ => (L - intOf i).toNat)
  case atStart =>
    exact ⟨0, xs, by omega, rfl, HL.out.symm, HX.out, (show DownInv xs n 0 xs from fun j => by rw [if_neg (by omega)]), h, Tch.refl G w⟩
  case round =>
    clear h
    obtain ⟨m, cs, hm, rfl, HCL, hlim, hinv, harr, hbel⟩ := hrel
    by_cases hlt : (m : Int) < (L : Int)
    · have hst := shdn_digit (xs := xs) HX.out (m := m) (n := n) HN.out
      rw [← HT.out] at hst
      have c0 := harr.cell m (by rw [HCL.out]; omega)
      have f0 := harr.frozen m
      have g0 : cs.getD m 0 = xs.getD m 0 := by rw [hinv.out m, if_neg (by omega)]
      have g1 : cs.getD (m + 1) 0 = xs.getD (m + 1) 0 := by rw [hinv.out (m + 1), if_neg (by omega)]
      obtain ⟨x, ex⟩ : ∃ x, x = xs.getD m 0 := ⟨_, rfl⟩
      obtain ⟨y, ey⟩ : ∃ y, y = xs.getD (m + 1) 0 := ⟨_, rfl⟩
      have hxB : x < 18446744073709551616 := by rw [ex]; exact HX.out.get (by omega) m
      rw [← ex] at hst g0
      rw [← ey] at hst g1
      rw [g0] at c0
      obtain ⟨d, ed⟩ : ∃ d, d = x / 2 ^ n := ⟨_, rfl⟩
      have vd : (x : Int) / 2 ^ n = (d : Int) := by rw [ed]; simp
      have hdB : d < 18446744073709551616 := by rw [ed]; exact Nat.lt_of_le_of_lt (Nat.div_le_self _ _) hxB
      obtain ⟨z, ez⟩ : ∃ z, z = y * 2 ^ t % 18446744073709551616 := ⟨_, rfl⟩
      have vz : IntKind.u64.wrap ((y : Int) * 2 ^ t) = (z : Int) := by
        have e : ((y : Int) * 2 ^ t) = ((y * 2 ^ t : Nat) : Int) := by simp
        rw [e, wrapU, ez]
      rw [← ed, ← ez] at hst
      obtain ⟨r, er⟩ : ∃ r, r = d + z := ⟨_, rfl⟩
      rw [← er] at hst
      have vr := hst.1
      have HRB := Lib.hid hst.2.1
      have HDB := Lib.hid hdB
      have hs1 := down_step (m := m) (r := r) hinv.out (by rw [HCL.out]; omega) hst.2.2
      have HS1 := Lib.hid hs1
      have hA := Lib.hid (harr.set m d)
      have hB := Lib.hid (hbel.out.trans (Tch.put G m _ (.int .u64 (d : Nat))))
      by_cases hnx : (m : Int) + 1 < (L : Int)
      · have HG1 := Lib.hid g1
        clear hst hs1 harr hinv ex ey ed ez er hxB hdB g0 g1 hbel
        go_upto_region 4 with (fail)
        generalize wr.setCell ⟨G, m, none⟩ (.int .u64 (d : Nat)) = Y at *
        clear c0 f0 vd
        have c0 := hA.out.cell m (by rw [List.length_set, HCL.out]; omega)
        have f0 := hA.out.frozen m
        have c1 := hA.out.cell (m + 1) (by rw [List.length_set, HCL.out]; omega)
        have k0 : (cs.set m d).getD m 0 = d := by rw [List.getD_eq_getElem?_getD, List.getElem?_set, if_pos rfl, if_pos (by rw [HCL.out]; omega)]; rfl
        have k1 : (cs.set m d).getD (m + 1) 0 = y := by rw [List.getD_eq_getElem?_getD, List.getElem?_set_ne (by omega), ← List.getD_eq_getElem?_getD]; exact HG1.out
        rw [k0] at c0
        rw [k1] at c1
        clear k0 k1
        go_wp2_with fail
        go_region
        go_wp2_with fail
        go_roundw
        case rel =>
          refine ⟨m + 1, cs.set m r, by omega, by go_num, by show (cs.set m r).length = L; rw [List.length_set]; exact HCL.out, hlim.out.set m r HRB.out, HS1.out, ?_, (hB.out.trans (Tch.put G m _ _)).trans (tch_drew G _)⟩
          have := hA.out.set m r
          rw [List.set_set] at this
          exact this
        case measure => simp [intOf]; omega
      · have y0 : y = 0 := by
          rw [ey, List.getD_eq_getElem?_getD, List.getElem?_eq_none (by have := HL.out; omega)]; rfl
        have r0 : r = d := by rw [er, ez, y0, Nat.zero_mul]; rfl
        rw [r0] at HS1
        clear hst hs1 harr hinv ex ey ed ez er hxB hdB g0 g1 hbel vr HRB vz r0 y0
        go_wp2_with fail
        go_roundw
        case rel =>
          exact ⟨m + 1, cs.set m d, by omega, by go_num, by show (cs.set m d).length = L; rw [List.length_set]; exact HCL.out, hlim.out.set m d HDB.out, HS1.out, hA.out, hB.out⟩
        case measure => simp [intOf]; omega
    · obtain rfl : m = L := by omega
      have hv := down_end HX.out (by rw [HCL.out]; exact hinv.out) (by rw [HCL.out]; exact HL.out)
      have HV := Lib.hid hv
      have HA := Lib.hid harr
      clear hv harr hinv
      go_wp2_with fail
      go_end0
      exact ⟨cs, rfl, HA.out, hlim.out, HV.out, HCL.out, hbel.out⟩
end Go.Proofs.YteaafnjflghlhaaDoor
