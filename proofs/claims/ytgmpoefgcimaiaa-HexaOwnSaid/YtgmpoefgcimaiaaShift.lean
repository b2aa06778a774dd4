/- The contract of package word's shiftLeft: a * 2^n modulo 2^256, for n from 0 to 255. -/
import Derived.Test.YtgmpoefgcimaiaaWordMath
import Derived.Test.YtgmpoefgcimaiaaProg
namespace Go.Proofs.Ytgmpoefgcimaiaa
open Go.RowKit

/-- The upper and the lower part of a limb that is shifted by s bits. -/
theorem shl_parts (x s : Nat) (hs : s ≤ 63) : x * 2 ^ s = 18446744073709551616 * (x / 2 ^ (64 - s)) + x * 2 ^ s % 18446744073709551616 := by
  have d := Nat.div_add_mod (x * 2 ^ s) 18446744073709551616
  have e : x * 2 ^ s / 18446744073709551616 = x / 2 ^ (64 - s) := by
    rw [show (18446744073709551616 : Nat) = 2 ^ (64 - s) * 2 ^ s by rw [← Nat.pow_add, show 64 - s + s = 64 by omega], Nat.mul_div_mul_right _ _ (Nat.two_pow_pos s)]
  rw [e] at d
  exact d.symm
theorem or_parts (x y s : Nat) (hs : s ≤ 63) (hy : Lim y) : bits .or .u64 ((x * 2 ^ s % 18446744073709551616 : Nat) : Int) ((y / 2 ^ (64 - s) : Nat) : Int) = ((x * 2 ^ s % 18446744073709551616 + y / 2 ^ (64 - s) : Nat) : Int) ∧
    x * 2 ^ s % 18446744073709551616 + y / 2 ^ (64 - s) < 18446744073709551616 := by
  unfold Lim at hy
  have hq : y / 2 ^ (64 - s) < 2 ^ s := by
    apply Nat.div_lt_of_lt_mul
    rw [← Nat.pow_add, show 64 - s + s = 64 by omega]
    exact hy
  have hs2 : (2 : Nat) ^ s ≤ 2 ^ 63 := Nat.pow_le_pow_right (by omega) hs
  have e : x * 2 ^ s % 18446744073709551616 = 2 ^ s * (x % 2 ^ (64 - s)) := by
    rw [show (18446744073709551616 : Nat) = 2 ^ s * 2 ^ (64 - s) by rw [← Nat.pow_add, show s + (64 - s) = 64 by omega], Nat.mul_comm x, Nat.mul_mod_mul_left]
  have hlt : x * 2 ^ s % 18446744073709551616 < 18446744073709551616 := Nat.mod_lt _ (by omega)
  have hsum : x * 2 ^ s % 18446744073709551616 + y / 2 ^ (64 - s) < 18446744073709551616 := by
    rw [e]
    have h1 : x % 2 ^ (64 - s) + 1 ≤ 2 ^ (64 - s) := Nat.mod_lt _ (Nat.two_pow_pos _)
    have h2 := Nat.mul_le_mul_left (2 ^ s) h1
    rw [← Nat.pow_add, show s + (64 - s) = 64 by omega, Nat.mul_add] at h2
    omega
  refine ⟨?_, hsum⟩
  rw [bits_or_u64_nat _ _ hlt (by omega), e, ← Nat.two_pow_add_eq_or_of_lt hq]

/-- Limb j of xs shifted by whole limbs and s bits. -/
def shlLimb (xs : List Nat) (whole s j : Nat) : Nat :=
  if j < whole then 0 else xs.getD (j - whole) 0 * 2 ^ s % 18446744073709551616 + (if whole < j then xs.getD (j - whole - 1) 0 / 2 ^ (64 - s) else 0)
theorem shl_val (a0 a1 a2 a3 whole s : Nat) (hw : whole ≤ 3) (hs : s ≤ 63) (hl : Lims [shlLimb [a0, a1, a2, a3] whole s 0, shlLimb [a0, a1, a2, a3] whole s 1, shlLimb [a0, a1, a2, a3] whole s 2, shlLimb [a0, a1, a2, a3] whole s 3]) :
    vl [shlLimb [a0, a1, a2, a3] whole s 0, shlLimb [a0, a1, a2, a3] whole s 1, shlLimb [a0, a1, a2, a3] whole s 2, shlLimb [a0, a1, a2, a3] whole s 3] = vl [a0, a1, a2, a3] * 2 ^ (64 * whole + s) % 115792089237316195423570985008687907853269984665640564039457584007913129639936 := by
  have hlt := val_lt _ hl
  have p0 := shl_parts a0 s hs
  have p1 := shl_parts a1 s hs
  have p2 := shl_parts a2 s hs
  have p3 := shl_parts a3 s hs
  rw [Nat.pow_add, ← pow64]
  simp only [List.length_cons, List.length_nil] at hlt
  rcases (show whole = 0 ∨ whole = 1 ∨ whole = 2 ∨ whole = 3 by omega) with rfl | rfl | rfl | rfl
  · refine (mod_of (k := a3 / 2 ^ (64 - s)) ?_ hlt).1
    simp [shlLimb, vl]
    generalize a0 / 2 ^ (64 - s) = h0 at *
    generalize a1 / 2 ^ (64 - s) = h1 at *
    generalize a2 / 2 ^ (64 - s) = h2 at *
    generalize a3 / 2 ^ (64 - s) = h3 at *
    generalize a0 * 2 ^ s % 18446744073709551616 = l0 at *
    generalize a1 * 2 ^ s % 18446744073709551616 = l1 at *
    generalize a2 * 2 ^ s % 18446744073709551616 = l2 at *
    generalize a3 * 2 ^ s % 18446744073709551616 = l3 at *
    generalize 2 ^ s = P at *
    clear hl hlt
    grind
  · refine (mod_of (k := a2 / 2 ^ (64 - s) + a3 * 2 ^ s) ?_ hlt).1
    simp [shlLimb, vl]
    generalize a0 / 2 ^ (64 - s) = h0 at *
    generalize a1 / 2 ^ (64 - s) = h1 at *
    generalize a2 / 2 ^ (64 - s) = h2 at *
    generalize a3 / 2 ^ (64 - s) = h3 at *
    generalize a0 * 2 ^ s % 18446744073709551616 = l0 at *
    generalize a1 * 2 ^ s % 18446744073709551616 = l1 at *
    generalize a2 * 2 ^ s % 18446744073709551616 = l2 at *
    generalize a3 * 2 ^ s % 18446744073709551616 = l3 at *
    generalize 2 ^ s = P at *
    clear hl hlt
    grind
  · refine (mod_of (k := a1 / 2 ^ (64 - s) + a2 * 2 ^ s + 18446744073709551616 * (a3 * 2 ^ s)) ?_ hlt).1
    simp [shlLimb, vl]
    generalize a0 / 2 ^ (64 - s) = h0 at *
    generalize a1 / 2 ^ (64 - s) = h1 at *
    generalize a2 / 2 ^ (64 - s) = h2 at *
    generalize a3 / 2 ^ (64 - s) = h3 at *
    generalize a0 * 2 ^ s % 18446744073709551616 = l0 at *
    generalize a1 * 2 ^ s % 18446744073709551616 = l1 at *
    generalize a2 * 2 ^ s % 18446744073709551616 = l2 at *
    generalize a3 * 2 ^ s % 18446744073709551616 = l3 at *
    generalize 2 ^ s = P at *
    clear hl hlt
    grind
  · refine (mod_of (k := a0 / 2 ^ (64 - s) + a1 * 2 ^ s + 18446744073709551616 * (a2 * 2 ^ s) + 340282366920938463463374607431768211456 * (a3 * 2 ^ s)) ?_ hlt).1
    simp [shlLimb, vl]
    generalize a0 / 2 ^ (64 - s) = h0 at *
    generalize a1 / 2 ^ (64 - s) = h1 at *
    generalize a2 / 2 ^ (64 - s) = h2 at *
    generalize a3 / 2 ^ (64 - s) = h3 at *
    generalize a0 * 2 ^ s % 18446744073709551616 = l0 at *
    generalize a1 * 2 ^ s % 18446744073709551616 = l1 at *
    generalize a2 * 2 ^ s % 18446744073709551616 = l2 at *
    generalize a3 * 2 ^ s % 18446744073709551616 = l3 at *
    generalize 2 ^ s = P at *
    clear hl hlt
    grind

/-- What stands in memory while a word is shifted. -/
def ShMem (w wr : World) (xs bs : List Nat) : Prop := Arr wr w.heap.size 30 xs ∧ Arr wr (w.heap.size + 1) 30 [0, 0, 0, 0] ∧ Arr wr (w.heap.size + 1 + 1) 30 bs ∧ Below w.heap.size w wr
theorem ShMem.put {w wr : World} {xs bs : List Nat} (h : ShMem w wr xs bs) (j l : Nat) : ShMem w (wr.setCell ⟨w.heap.size + 1 + 1, j, none⟩ (.int .u64 (l : Int))) xs (bs.set j l) :=
  ⟨h.1.far (p := ⟨w.heap.size + 1 + 1, j, none⟩) (by simp; omega) _, h.2.1.far (p := ⟨w.heap.size + 1 + 1, j, none⟩) (by simp) _, h.2.2.1.set j l, h.2.2.2.setCell (p := ⟨w.heap.size + 1 + 1, j, none⟩) (by simp; omega) _⟩
theorem ShMem.drew {w wr : World} {xs bs : List Nat} (h : ShMem w wr xs bs) : ShMem w wr.drew xs bs := ⟨h.1, h.2.1, h.2.2.1, h.2.2.2.drew⟩
/-- Limbs from m on are shifted, those below are still 0. -/
def ShlInv (xs : List Nat) (whole s m : Nat) (bs : List Nat) : Prop := (∀ j, j < m → bs.getD j 0 = 0) ∧ ∀ j, m ≤ j → j < 4 → bs.getD j 0 = shlLimb xs whole s j

theorem shl_step {xs bs cs : List Nat} {whole s m : Nat} (h : ShlInv xs whole s m bs) (hm : 1 ≤ m) (hne : ∀ j, j ≠ m - 1 → cs.getD j 0 = bs.getD j 0) (he : cs.getD (m - 1) 0 = shlLimb xs whole s (m - 1)) : ShlInv xs whole s (m - 1) cs := by
  refine ⟨fun j hj => ?_, fun j h1 h2 => ?_⟩
  · rw [hne j (by omega)]; exact h.1 j (by omega)
  · by_cases hj : j = m - 1
    · subst hj; exact he
    · rw [hne j hj]; exact h.2 j (by omega) h2
theorem shl_done {xs bs : List Nat} {whole s : Nat} (h : ShlInv xs whole s whole bs) (_hw : whole ≤ 4) : bs.getD 0 0 = shlLimb xs whole s 0 ∧ bs.getD 1 0 = shlLimb xs whole s 1 ∧ bs.getD 2 0 = shlLimb xs whole s 2 ∧ bs.getD 3 0 = shlLimb xs whole s 3 := by
  have k : ∀ j, j < 4 → bs.getD j 0 = shlLimb xs whole s j := fun j hj => by
    by_cases hlt : j < whole
    · rw [h.1 j hlt]; simp [shlLimb, hlt]
    · exact h.2 j (by omega) hj
  exact ⟨k 0 (by omega), k 1 (by omega), k 2 (by omega), k 3 (by omega)⟩
set_option maxRecDepth 100000 in
set_option maxHeartbeats 1600000 in
theorem shiftLeft_c {a0 a1 a2 a3 a : Nat} (ha : IsW a0 a1 a2 a3 a) (n : Nat) (hn : n < 256) (w : World) :
    Calls Try.prog 53 #[W4 a0 a1 a2 a3, .int .i64 n] w (RetW (a * 2 ^ n % 115792089237316195423570985008687907853269984665640564039457584007913129639936) w) := by
  obtain ⟨wh, hwh⟩ : ∃ wh, wh = n / 64 := ⟨_, rfl⟩
  obtain ⟨s, hs⟩ : ∃ s, s = n % 64 := ⟨_, rfl⟩
  have b1 : (n : Int) < 256 := by omega
  have e1 : (n : Int) / 64 = (wh : Int) := by omega
  have e2 : (n : Int) % 64 = (s : Int) := by omega
  have e3 : (n : Int).tmod 64 = (s : Int) := by rw [Int.tmod_eq_emod_of_nonneg (by omega)]; omega
  have hw3 : (wh : Int) ≤ 3 := by omega
  have hs63 : (s : Int) ≤ 63 := by omega
  have HN : Hid (n = 64 * wh + s) := by show n = _; omega
  clear hwh hs
  go_enter Try.func53, Try.ntmps53
  go_wp2_with fail
  go_loopw [8] (fun i wr => ∃ (m : Nat) (bs : List Nat), wh ≤ m ∧ m ≤ 4 ∧ i = .int .i64 ((m : Int) - 1) ∧ bs.length = 4 ∧ Lims bs ∧ Hid (ShlInv [a0, a1, a2, a3] wh s m bs) ∧ ShMem w wr [a0, a1, a2, a3] bs)
    (fun i _ => (intOf i + 1).toNat)
  case atStart =>
    refine ⟨4, [0, 0, 0, 0], by omega, by omega, rfl, rfl, Lims.four ?_ ?_ ?_ ?_, ⟨fun j hj => ?_, fun j h1 h2 => by omega⟩, ?_, ?_, ?_, ?_⟩
    iterate 4 (unfold Lim; omega)
    · rcases (show j = 0 ∨ j = 1 ∨ j = 2 ∨ j = 3 by omega) with rfl | rfl | rfl | rfl <;> rfl
    · have h := ((Arr.new4 w 30 a0 a1 a2 a3).alloc (.cells #[.int .u64 0, .int .u64 0, .int .u64 0, .int .u64 0] 30)).alloc (.cells #[.int .u64 0, .int .u64 0, .int .u64 0, .int .u64 0] 30)
      simpa using h
    · have h := (Arr.new4z (w.alloc (.cells #[.int .u64 a0, .int .u64 a1, .int .u64 a2, .int .u64 a3] 30)) 30).alloc (.cells #[.int .u64 0, .int .u64 0, .int .u64 0, .int .u64 0] 30)
      simpa using h
    · have h := Arr.new4z ((w.alloc (.cells #[.int .u64 a0, .int .u64 a1, .int .u64 a2, .int .u64 a3] 30)).alloc (.cells #[.int .u64 0, .int .u64 0, .int .u64 0, .int .u64 0] 30)) 30
      simpa using h
    · exact (((Below.refl _ _).alloc (Nat.le_refl _) _).alloc (by simp) _).alloc (by simp; omega) _
  case round =>
    obtain ⟨m, bs, hwm, hm4, rfl, hlen, hlim, hinv, hmem⟩ := hrel
    have HL := Lib.hid hlen
    clear hlen
    by_cases hlt : (wh : Int) ≤ (m : Int) - 1
    · have cx := hmem.1.cell (m - 1 - wh) (by simp; omega)
      have cb := hmem.2.2.1.cell (m - 1) (by rw [HL.out]; omega)
      have fb := hmem.2.2.1.frozen (m - 1)
      obtain ⟨x, ex⟩ : ∃ x, x = [a0, a1, a2, a3].getD (m - 1 - wh) 0 := ⟨_, rfl⟩
      rw [← ex] at cx
      have lx : Lim x := by rw [ex]; exact ha.limsList.get _
      have hsh : IntKind.u64.wrap ((x : Int) * 2 ^ s) = ((x * 2 ^ s % 18446744073709551616 : Nat) : Int) := by
        have e : ((x : Int) * 2 ^ s) = ((x * 2 ^ s : Nat) : Int) := by simp
        rw [e, wrapU]
      obtain ⟨l, el⟩ : ∃ l, l = x * 2 ^ s % 18446744073709551616 := ⟨_, rfl⟩
      rw [← el] at hsh
      have EX := Lib.hid ex
      have EL := Lib.hid el
      clear ex el
      by_cases hgt : (wh : Int) < (m : Int) - 1
      · have ch := hmem.1.cell (m - 1 - wh - 1) (by simp; omega)
        obtain ⟨y, ey⟩ : ∃ y, y = [a0, a1, a2, a3].getD (m - 1 - wh - 1) 0 := ⟨_, rfl⟩
        rw [← ey] at ch
        have ly : Lim y := by rw [ey]; exact ha.limsList.get _
        have hor := or_parts x y s (by omega) ly
        rw [← EL.out] at hor
        have hor1 : bits .or .u64 (l : Int) ((y : Int) / 2 ^ (64 - s)) = ((l + y / 2 ^ (64 - s) : Nat) : Int) := by
          have e : ((y : Int) / 2 ^ (64 - s)) = ((y / 2 ^ (64 - s) : Nat) : Int) := by simp
          rw [e]; exact hor.1
        obtain ⟨z, ez⟩ : ∃ z, z = l + y / 2 ^ (64 - s) := ⟨_, rfl⟩
        rw [← ez] at hor1
        have EY := Lib.hid ey
        have EZ := Lib.hid ez
        have HO := Lib.hid hor.2
        clear ey ez hor
        go_wp2_with fail
        have hi1 : IntKind.i64.wrap ((m : Int) - 1 - wh) = (m : Int) - 1 - wh := IntWalk.i64_in _ (by omega)
        have hi2 : IntKind.i64.wrap ((m : Int) - 1 - wh - 1) = ((m - 1 - wh - 1 : Nat) : Int) := by rw [IntWalk.i64_in _ (by omega)]; omega
        have hi3 : IntKind.i64.wrap (64 - (s : Int)) = ((64 - s : Nat) : Int) := by rw [IntWalk.i64_in _ (by omega)]; omega
        have hp : (m : Int) - 1 = ((m - 1 : Nat) : Int) := by omega
        go_region
        clear hi1 hi2 hi3 hp hor1 ch
        go_wp2_with fail
        go_roundw
        case rel =>
          refine ⟨m - 1, (bs.set (m - 1) l).set (m - 1) z, by omega, by omega, by go_num, by simp [HL.out], (hlim.set _ _ (by rw [EL.out]; unfold Lim; omega)).set _ _ (by rw [EZ.out]; exact HO.out), ?_, ((hmem.put (m - 1) l).put (m - 1) z).drew⟩
          refine shl_step hinv.out (by omega) (fun j hj => by simp [List.getElem?_set_ne (Ne.symm hj)]) ?_
          simp [HL.out, show m - 1 < 4 by omega, shlLimb, show ¬ (m - 1 < wh) by omega, show wh < m - 1 by omega, EZ.out, EL.out, EX.out, EY.out]
        case measure => simp [intOf]; omega
      · go_wp2_with fail
        go_roundw
        case rel =>
          refine ⟨m - 1, bs.set (m - 1) l, by omega, by omega, by go_num, by simp [HL.out], hlim.set _ _ (by rw [EL.out]; unfold Lim; omega), ?_, hmem.put (m - 1) l⟩
          refine shl_step hinv.out (by omega) (fun j hj => by simp [List.getElem?_set_ne (Ne.symm hj)]) ?_
          simp [HL.out, show m - 1 < 4 by omega, shlLimb, show ¬ (m - 1 < wh) by omega, show ¬ (wh < m - 1) by omega, EL.out, EX.out]
        case measure => simp [intOf]; omega
    · obtain rfl : m = wh := by omega
      obtain ⟨c0, c1, c2, c3, rfl⟩ := list4 HL.out
      obtain ⟨z0, z1, z2, z3⟩ := hmem.2.2.1.cells4
      obtain ⟨y0, y1, y2, y3⟩ := hmem.2.1.cells4
      obtain ⟨f0, f1, f2, f3⟩ := hmem.2.1.free4
      have g := shl_done hinv.out (by omega)
      simp at g
      obtain ⟨g0, g1, g2, g3⟩ := g
      have hv := shl_val a0 a1 a2 a3 m s (by omega) (by omega) (by rw [← g0, ← g1, ← g2, ← g3]; exact hlim)
      rw [← g0, ← g1, ← g2, ← g3, ← HN.out, ← ha.vals] at hv
      have HV := Lib.hid hv
      have hB := hmem.2.2.2
      clear g0 g1 g2 g3 hv
      go_wp2_with fail
      refine bodyPost_ret (v := W4 c0 c1 c2 c3) (by simp [results, Try.results53, go_sem, y0, y1, y2, y3]) rfl ⟨c0, c1, c2, c3, rfl, (isW_val hlim).eq HV.out, ?_⟩
      exact below_put4 hB (by omega) _ _ _ _
end Go.Proofs.Ytgmpoefgcimaiaa
