/- The contract of package word's divideByLimbs: Knuth's algorithm D. -/
import Derived.Test.YtihffojljbgpcaaKnuthMath
import Derived.Test.YtihffojljbgpcaaGuess
import Derived.Test.YtihffojljbgpcaaDivide
import Derived.Test.YtihffojljbgpcaaEqArr
import Derived.Deep.RegionWith
import Derived.BigQuiet
namespace Go.Proofs.Ytihffojljbgpcaa
open Go.RowKit

/-- What stands in memory while divideByLimbs runs: the dividend, the divisor shifted, the quotient, the rest, what is left of the dividend shifted. -/
def KMem (w wr : World) (g : Nat) (xs es qs rs zs : List Nat) : Prop := w.heap.size + 1 + 1 + 1 < g ∧ Arr wr w.heap.size 94 xs ∧ Arr wr (w.heap.size + 1) 24 es ∧ Arr wr (w.heap.size + 1 + 1) 94 qs ∧
  Arr wr (w.heap.size + 1 + 1 + 1) 24 rs ∧ Arr wr g 129 zs ∧ Below w.heap.size w wr
section
variable {w wr : World} {g : Nat} {xs es qs rs zs : List Nat}
theorem KMem.drewN (h : KMem w wr g xs es qs rs zs) (n : Nat) : KMem w (wr.drewN n) g xs es qs rs zs := ⟨h.1, h.2.1, h.2.2.1, h.2.2.2.1, h.2.2.2.2.1, h.2.2.2.2.2.1, h.2.2.2.2.2.2.trans (below_drewN _ _ n)⟩
theorem KMem.drew (h : KMem w wr g xs es qs rs zs) : KMem w wr.drew g xs es qs rs zs := ⟨h.1, h.2.1, h.2.2.1, h.2.2.2.1, h.2.2.2.2.1, h.2.2.2.2.2.1, h.2.2.2.2.2.2.drew⟩
theorem KMem.putZ (h : KMem w wr g xs es qs rs zs) (j l : Nat) : KMem w (wr.setCell ⟨g, j, none⟩ (.int .u64 (l : Int))) g xs es qs rs (zs.set j l) := by
  obtain ⟨h0, h1, h2, h3, h4, h5, h6⟩ := h
  exact ⟨h0, h1.far (p := ⟨g, j, none⟩) (by simp; omega) _, h2.far (p := ⟨g, j, none⟩) (by simp; omega) _, h3.far (p := ⟨g, j, none⟩) (by simp; omega) _, h4.far (p := ⟨g, j, none⟩) (by simp; omega) _, h5.set j l, h6.setCell (p := ⟨g, j, none⟩) (by simp; omega) _⟩
theorem KMem.putQ (h : KMem w wr g xs es qs rs zs) (j l : Nat) : KMem w (wr.setCell ⟨w.heap.size + 1 + 1, j, none⟩ (.int .u64 (l : Int))) g xs es (qs.set j l) rs zs := by
  obtain ⟨h0, h1, h2, h3, h4, h5, h6⟩ := h
  exact ⟨h0, h1.far (p := ⟨w.heap.size + 1 + 1, j, none⟩) (by simp; try omega) _, h2.far (p := ⟨w.heap.size + 1 + 1, j, none⟩) (by simp; try omega) _, h3.set j l, h4.far (p := ⟨w.heap.size + 1 + 1, j, none⟩) (by simp; try omega) _, h5.far (p := ⟨w.heap.size + 1 + 1, j, none⟩) (by simp; try omega) _, h6.setCell (p := ⟨w.heap.size + 1 + 1, j, none⟩) (by simp; try omega) _⟩
theorem KMem.putR (h : KMem w wr g xs es qs rs zs) (j l : Nat) : KMem w (wr.setCell ⟨w.heap.size + 1 + 1 + 1, j, none⟩ (.int .u64 (l : Int))) g xs es qs (rs.set j l) zs := by
  obtain ⟨h0, h1, h2, h3, h4, h5, h6⟩ := h
  exact ⟨h0, h1.far (p := ⟨w.heap.size + 1 + 1 + 1, j, none⟩) (by simp; try omega) _, h2.far (p := ⟨w.heap.size + 1 + 1 + 1, j, none⟩) (by simp; try omega) _, h3.far (p := ⟨w.heap.size + 1 + 1 + 1, j, none⟩) (by simp; try omega) _, h4.set j l, h5.far (p := ⟨w.heap.size + 1 + 1 + 1, j, none⟩) (by simp; try omega) _, h6.setCell (p := ⟨w.heap.size + 1 + 1 + 1, j, none⟩) (by simp; try omega) _⟩
theorem KMem.touch {w' : World} {zs' : List Nat} (h : KMem w wr g xs es qs rs zs) (t : Touch g wr w') (a : Arr w' g 129 zs') : KMem w w' g xs es qs rs zs' := by
  obtain ⟨h0, h1, h2, h3, h4, h5, h6⟩ := h
  exact ⟨h0, t.arr h1 (by omega), t.arr h2 (by omega), t.arr h3 (by omega), t.arr h4 (by omega), a, t.below h6 (by omega)⟩
end

/-- Limbs from m on are shifted, those below are still 0. -/
def Shl9Inv (xs : List Nat) (s m : Nat) (zs : List Nat) : Prop := (∀ j, j < m → zs.getD j 0 = 0) ∧ ∀ j, m ≤ j → j < 9 → zs.getD j 0 = shlLimb xs 0 s j

theorem shl9_step {xs zs cs : List Nat} {s m : Nat} (h : Shl9Inv xs s m zs) (hm : 1 ≤ m) (hne : ∀ j, j ≠ m - 1 → cs.getD j 0 = zs.getD j 0) (he : cs.getD (m - 1) 0 = shlLimb xs 0 s (m - 1)) : Shl9Inv xs s (m - 1) cs := by
  refine ⟨fun j hj => ?_, fun j h1 h2 => ?_⟩
  · rw [hne j (by omega)]; exact h.1 j (by omega)
  · by_cases hj : j = m - 1
    · subst hj; exact he
    · rw [hne j hj]; exact h.2 j (by omega) h2
theorem shl9_done {x0 x1 x2 x3 x4 x5 x6 x7 s : Nat} {zs : List Nat} (hs : s ≤ 63) (hl : zs.length = 9) (h : Shl9Inv [x0, x1, x2, x3, x4, x5, x6, x7] s (1 - 1) zs) : vl zs = vl [x0, x1, x2, x3, x4, x5, x6, x7] * 2 ^ s := by
  match zs, hl with
  | [c0, c1, c2, c3, c4, c5, c6, c7, c8], _ =>
    have k := fun j (hj : j < 9) => h.2 j (by omega) hj
    have k0 := k 0 (by omega); have k1 := k 1 (by omega); have k2 := k 2 (by omega); have k3 := k 3 (by omega); have k4 := k 4 (by omega)
    have k5 := k 5 (by omega); have k6 := k 6 (by omega); have k7 := k 7 (by omega); have k8 := k 8 (by omega)
    simp at k0 k1 k2 k3 k4 k5 k6 k7 k8
    rw [k0, k1, k2, k3, k4, k5, k6, k7, k8]
    exact shl9 x0 x1 x2 x3 x4 x5 x6 x7 s hs

theorem guess_lt {n2 n1 n0 d1 d0 : Nat} (h1 : Lim n1) : Lim (guessF n2 n1 n0 d1 d0) := by
  unfold Lim guessF at *
  by_cases hc : d1 ≤ n2
  · rw [if_pos hc]; omega
  · rw [if_neg hc]
    have hlt : (n2 * 18446744073709551616 + n1) / d1 < 18446744073709551616 := Nat.div_lt_of_lt_mul (by omega)
    split <;> omega
theorem or_parts2 (x y s : Nat) (hs : s ≤ 63) (hx : Lim x) : bits .or .u64 ((x / 2 ^ s : Nat) : Int) ((y * 2 ^ (64 - s) % 18446744073709551616 : Nat) : Int) = ((x / 2 ^ s + y * 2 ^ (64 - s) % 18446744073709551616 : Nat) : Int) ∧
    x / 2 ^ s + y * 2 ^ (64 - s) % 18446744073709551616 < 18446744073709551616 := by
  unfold Lim at hx
  have hq : x / 2 ^ s < 2 ^ (64 - s) := by
    apply Nat.div_lt_of_lt_mul
    rw [← Nat.pow_add, show s + (64 - s) = 64 by omega]
    exact hx
  have hs2 : (2 : Nat) ^ (64 - s) ≤ 2 ^ 64 := Nat.pow_le_pow_right (by omega) (by omega)
  have e : y * 2 ^ (64 - s) % 18446744073709551616 = 2 ^ (64 - s) * (y % 2 ^ s) := by
    rw [show (18446744073709551616 : Nat) = 2 ^ (64 - s) * 2 ^ s by rw [← Nat.pow_add, show 64 - s + s = 64 by omega], Nat.mul_comm y, Nat.mul_mod_mul_left]
  have hlt : y * 2 ^ (64 - s) % 18446744073709551616 < 18446744073709551616 := Nat.mod_lt _ (by omega)
  have hsum : x / 2 ^ s + y * 2 ^ (64 - s) % 18446744073709551616 < 18446744073709551616 := by
    rw [e]
    have h1 : y % 2 ^ s + 1 ≤ 2 ^ s := Nat.mod_lt _ (Nat.two_pow_pos _)
    have h2 := Nat.mul_le_mul_left (2 ^ (64 - s)) h1
    rw [← Nat.pow_add, show 64 - s + s = 64 by omega, Nat.mul_add] at h2
    omega
  refine ⟨?_, hsum⟩
  rw [bits_or_u64_nat _ _ (by omega) hlt, e, Nat.or_comm, ← Nat.two_pow_add_eq_or_of_lt hq, Nat.add_comm]
theorem list9 {cs : List Nat} (h : cs.length = 9) : ∃ c0 c1 c2 c3 c4 c5 c6 c7 c8, cs = [c0, c1, c2, c3, c4, c5, c6, c7, c8] := by
  match cs, h with
  | [c0, c1, c2, c3, c4, c5, c6, c7, c8], _ => exact ⟨c0, c1, c2, c3, c4, c5, c6, c7, c8, rfl⟩
theorem knuth_end {xs ds es qs zs : List Nat} {w s r0 r1 r2 r3 : Nat} (hs : s ≤ 63) (hw : w ≤ 4) (h2 : 2 ≤ w) (hz : Lims zs) (hzl : zs.length = 9) (hD : vl es = vl ds * 2 ^ s) (hn : vl es < 18446744073709551616 ^ w) (hk : KnuthInv (vl xs * 2 ^ s) (vl es) 0 qs zs)
    (hr : (∀ m, m < w → [r0, r1, r2, r3].getD m 0 = shrLimb zs s m) ∧ ∀ m, w ≤ m → [r0, r1, r2, r3].getD m 0 = 0) : vl qs = vl xs / vl ds ∧ vl [r0, r1, r2, r3] = vl xs % vl ds := by
  obtain ⟨k1, k2, _⟩ := hk
  rw [Nat.pow_zero, Nat.mul_one] at k2
  have hP := Nat.two_pow_pos s
  have hdp : 0 < vl ds := by
    rcases Nat.eq_zero_or_pos (vl ds) with h | h
    · rw [hD, h, Nat.zero_mul] at k2; omega
    · exact h
  have hlt : vl zs < 18446744073709551616 ^ w := Nat.lt_trans k2 hn
  rw [hD] at k1 k2
  obtain ⟨u1, u2⟩ := unshift hdp hP (by rw [k1, Nat.mul_comm]) k2
  refine ⟨u1, ?_⟩
  have hZ : vl zs = (vl xs % vl ds) * 2 ^ s := by
    have d := Nat.div_add_mod' (vl xs) (vl ds)
    rw [← u1] at d
    have e : vl xs * 2 ^ s = (vl qs * vl ds + vl xs % vl ds) * 2 ^ s := by rw [d]
    rw [k1, Nat.add_mul, Nat.mul_comm (vl qs), Nat.mul_right_comm] at e
    omega
  have tz : ∀ m, w ≤ m → zs.getD m 0 = 0 := fun m hm => tail_zero hlt hm
  have all : ∀ m, m < 4 → [r0, r1, r2, r3].getD m 0 = shrLimb zs s m := fun m hm => by
    by_cases h : m < w
    · exact hr.1 m h
    · rw [hr.2 m (by omega)]; unfold shrLimb; rw [tz m (by omega), tz (m + 1) (by omega)]; simp
  have a0 := all 0 (by omega); have a1 := all 1 (by omega); have a2 := all 2 (by omega); have a3 := all 3 (by omega)
  have z4 : zs.getD 4 0 = 0 := tz 4 hw
  have hz4 : vl zs = vl (zs.take 4) := vl_take_eq (by omega) fun j hj => tz j (by omega)
  obtain ⟨c0, c1, c2, c3, c4, c5, c6, c7, c8, rfl⟩ := list9 hzl
  have b0 : r0 = shrLimb [c0, c1, c2, c3, c4] s 0 := a0
  have b1 : r1 = shrLimb [c0, c1, c2, c3, c4] s 1 := a1
  have b2 : r2 = shrLimb [c0, c1, c2, c3, c4] s 2 := a2
  have b3 : r3 = shrLimb [c0, c1, c2, c3, c4] s 3 := a3
  have hz5 : vl [c0, c1, c2, c3] = vl xs % vl ds * 2 ^ s := by rw [← hZ, hz4]; rfl
  have z5 : c4 = 0 := z4
  rw [b0, b1, b2, b3]
  exact shr4 c0 c1 c2 c3 c4 s (vl xs % vl ds) hs z5 hz5
theorem norm_lt {ds : List Nat} {w s : Nat} (hds : Lims ds) (hw : 1 ≤ w) (htop : IsTop ds w) (hz : IsLz (ds.getD (w - 1) 0) s) : vl ds * 2 ^ s < 18446744073709551616 ^ w := by
  obtain ⟨v, rfl⟩ : ∃ v, w = v + 1 := ⟨w - 1, by omega⟩
  rw [Nat.add_sub_cancel] at *
  obtain ⟨z1, z2, z3⟩ := hz
  have hd := vl_top htop
  rw [val_take_succ ds v htop.1] at hd
  have hlow := vl_take_lt hds v (Nat.le_of_succ_le htop.1)
  have h64 : (2 : Nat) ^ (64 - s) * 2 ^ s = 18446744073709551616 := by rw [← Nat.pow_add, show 64 - s + s = 64 by omega]
  generalize ds.getD v 0 = y at *
  have hy : (y + 1) * 2 ^ s ≤ 18446744073709551616 := by
    rw [← h64] at z2 ⊢
    exact Nat.mul_le_mul_right _ (Nat.lt_of_mul_lt_mul_right z2)
  rw [Nat.pow_succ]
  generalize 18446744073709551616 ^ v = P at *
  have h1 : vl ds + 1 ≤ P * (y + 1) := by rw [hd, Nat.mul_add]; omega
  have h2 := Nat.mul_le_mul_right (2 ^ s) h1
  have h3 := Nat.mul_le_mul_left P hy
  rw [Nat.mul_assoc] at h2
  rw [Nat.add_mul] at h2
  have := Nat.two_pow_pos s
  omega
theorem knuth_start {xs es zs : List Nat} {top w s : Nat} (hx : Lims xs) (ht : IsTop xs top) (hs : s ≤ 63) (hw : 1 ≤ w) (hle : w ≤ top) (hl : w ≤ es.length) (hn : 9223372036854775808 ≤ es.getD (w - 1) 0) (he : vl es = vl (es.take w)) (hz : vl zs = vl xs * 2 ^ s) :
    KnuthInv (vl xs * 2 ^ s) (vl es) (top - w + 1) [0, 0, 0, 0, 0, 0, 0, 0] zs := by
  obtain ⟨v, rfl⟩ : ∃ v, w = v + 1 := ⟨w - 1, by omega⟩
  rw [Nat.add_sub_cancel] at *
  refine ⟨by simp [vl, hz], ?_, fun j _ => ?_⟩
  · rw [hz]
    have h1 : vl xs < 18446744073709551616 ^ top := by rw [vl_top ht]; exact vl_take_lt hx top ht.1
    rw [val_take_succ es v (by omega)] at he
    have h2 : (2 : Nat) ^ s ≤ 2 ^ 63 := Nat.pow_le_pow_right (by omega) hs
    have h3 : 18446744073709551616 ^ v * 9223372036854775808 ≤ vl es := by
      rw [he]
      have := Nat.mul_le_mul_left (18446744073709551616 ^ v) hn
      omega
    have h4 := Nat.mul_le_mul_right (18446744073709551616 ^ (top - (v + 1) + 1)) h3
    have e : (18446744073709551616 : Nat) ^ v * 9223372036854775808 * 18446744073709551616 ^ (top - (v + 1) + 1) = 18446744073709551616 ^ top * 9223372036854775808 := by
      rw [Nat.mul_right_comm, ← Nat.pow_add]; congr 2; omega
    rw [e] at h4
    have h5 : vl xs * 2 ^ s < 18446744073709551616 ^ top * 2 ^ s := Nat.mul_lt_mul_of_pos_right h1 (Nat.two_pow_pos s)
    have h6 : 18446744073709551616 ^ top * 2 ^ s ≤ 18446744073709551616 ^ top * 2 ^ 63 := Nat.mul_le_mul_left _ h2
    generalize 18446744073709551616 ^ top = P at *
    omega
  · by_cases h8 : j < 8
    · rcases (show j = 0 ∨ j = 1 ∨ j = 2 ∨ j = 3 ∨ j = 4 ∨ j = 5 ∨ j = 6 ∨ j = 7 by omega) with rfl | rfl | rfl | rfl | rfl | rfl | rfl | rfl <;> rfl
    · rw [List.getD_eq_getElem?_getD, List.getElem?_eq_none (by simp; omega)]; rfl
theorem shl9_start {xs : List Nat} {s top v : Nat} (ht : IsTop xs top) (h8 : top ≤ 8) (h1 : 1 ≤ top) (hv : v = xs.getD (top - 1) 0 / 2 ^ (64 - s)) : Shl9Inv xs s top ([0, 0, 0, 0, 0, 0, 0, 0, 0].set top v) := by
  have hz : ∀ j, [0, 0, 0, 0, 0, 0, 0, 0, 0].getD j 0 = 0 := by
    intro j
    by_cases h9 : j < 9
    · rcases (show j = 0 ∨ j = 1 ∨ j = 2 ∨ j = 3 ∨ j = 4 ∨ j = 5 ∨ j = 6 ∨ j = 7 ∨ j = 8 by omega) with rfl | rfl | rfl | rfl | rfl | rfl | rfl | rfl | rfl <;> rfl
    · rw [List.getD_eq_getElem?_getD, List.getElem?_eq_none (by simp; omega)]; rfl
  have hn : ∀ j, j ≠ top → ([0, 0, 0, 0, 0, 0, 0, 0, 0].set top v).getD j 0 = 0 := fun j hj => by
    rw [List.getD_eq_getElem?_getD, List.getElem?_set_ne (by omega), ← List.getD_eq_getElem?_getD]; exact hz j
  refine ⟨fun j hj => hn j (by omega), fun j hj h9 => ?_⟩
  unfold shlLimb
  rw [if_neg (by omega), if_pos (by omega), Nat.sub_zero, ht.2.1 j hj, Nat.zero_mul, Nat.zero_mod, Nat.zero_add]
  by_cases hjt : j = top
  · subst hjt
    rw [← hv, List.getD_eq_getElem?_getD, List.getElem?_set_self (by simp; omega)]; rfl
  · rw [hn j hjt, ht.2.1 (j - 1) (by omega), Nat.zero_div]

set_option maxRecDepth 100000 in
set_option maxHeartbeats 8000000 in
theorem divLimbs_c {x0 x1 x2 x3 x4 x5 x6 x7 d0 d1 d2 d3 d top wide : Nat} (hx : Lims [x0, x1, x2, x3, x4, x5, x6, x7]) (ht : IsTop [x0, x1, x2, x3, x4, x5, x6, x7] top) (hd : IsW d0 d1 d2 d3 d) (hw : IsTop [d0, d1, d2, d3] wide) (h2 : 2 ≤ wide) (hle : wide ≤ top) (w : World) :
    Calls Try.prog 149 #[L8 x0 x1 x2 x3 x4 x5 x6 x7, .int .i64 top, W4 d0 d1 d2 d3, .int .i64 wide] w (RetDivide (vl [x0, x1, x2, x3, x4, x5, x6, x7]) d w) := by
  have hw4 : wide ≤ 4 := hw.1
  have ht8 : top ≤ 8 := ht.1
  obtain ⟨y, ey⟩ : ∃ y, y = [d0, d1, d2, d3].getD (wide - 1) 0 := ⟨_, rfl⟩
  have ly : Lim y := by rw [ey]; exact hd.limsList.get _
  have y0 : 0 < y := by have := hw.2.2 (by omega); rw [ey]; omega
  have hlz := isLz y ly y0
  have EY := Lib.hid ey
  go_enter Try.func149, Try.ntmps149
  go_upto_region 1 with (fail)
  obtain ⟨gx, gd, gq, gr, gB⟩ := startD w 94 24 x0 x1 x2 x3 x4 x5 x6 x7 d0 d1 d2 d3 _ rfl
  generalize (((w.alloc (.cells #[.int .u64 (x0 : Nat), .int .u64 (x1 : Nat), .int .u64 (x2 : Nat), .int .u64 (x3 : Nat), .int .u64 (x4 : Nat), .int .u64 (x5 : Nat), .int .u64 (x6 : Nat), .int .u64 (x7 : Nat)] 94)).alloc (.cells #[.int .u64 (d0 : Nat), .int .u64 (d1 : Nat), .int .u64 (d2 : Nat), .int .u64 (d3 : Nat)] 24)).alloc
      (.cells #[.int .u64 0, .int .u64 0, .int .u64 0, .int .u64 0, .int .u64 0, .int .u64 0, .int .u64 0, .int .u64 0] 94)).alloc (.cells #[.int .u64 0, .int .u64 0, .int .u64 0, .int .u64 0] 24) = X at *
  have cy := gd.cell (wide - 1) (by simp; omega)
  rw [← ey] at cy
  clear ey
  have i1 : (2 : Int) ≤ wide := by omega
  have i2 : (wide : Int) ≤ 4 := by omega
  have i3 : (wide : Int) ≤ top := by omega
  have i4 : (top : Int) ≤ 8 := by omega
  go_wp2_with fail
  refine (lz64_c y ly _).mono ?_
  rintro e w' ⟨rfl, rfl⟩
  clear cy
  generalize 64 - Lib.bitLen y = s at *
  have hs63 : (s : Int) ≤ 63 := by have := hlz.1; omega
  obtain ⟨z0, z1, z2, z3⟩ := gd.cells4
  go_wp2_with fail
  refine (shiftLeft_c hd s (by omega) _).mono ?_
  rintro e w1 ⟨e0, e1, e2, e3, rfl, he, hb1⟩
  clear z0 z1 z2 z3
  replace gx := gx.below hb1 gx.lt
  replace gd := gd.below hb1 gd.lt
  replace gq := gq.below hb1 gq.lt
  have gsz := gr.lt
  replace gr := gr.below hb1 gr.lt
  replace gB := gB.trans (hb1.mono (by omega))
  have hG : w.heap.size + 1 + 1 + 1 < w1.heap.size := Nat.lt_of_lt_of_le gsz hb1.size
  obtain ⟨z0, z1, z2, z3⟩ := gd.cells4
  obtain ⟨f0, f1, f2, f3⟩ := gd.free4
  have cx := gx.cell (top - 1) (by simp; omega)
  obtain ⟨xt, ext⟩ : ∃ xt, xt = [x0, x1, x2, x3, x4, x5, x6, x7].getD (top - 1) 0 := ⟨_, rfl⟩
  rw [← ext] at cx
  have EXT := Lib.hid ext
  clear ext
  go_upto_region 4 with (fail)
  have hK : KMem w (((((w1.setCell ⟨w.heap.size + 1, 0, none⟩ (.int .u64 (e0 : Int))).setCell ⟨w.heap.size + 1, 1, none⟩ (.int .u64 (e1 : Int))).setCell ⟨w.heap.size + 1, 2, none⟩ (.int .u64 (e2 : Int))).setCell ⟨w.heap.size + 1, 3, none⟩ (.int .u64 (e3 : Int))).alloc (.cells #[.int .u64 0, .int .u64 0, .int .u64 0, .int .u64 0, .int .u64 0, .int .u64 0, .int .u64 0, .int .u64 0, .int .u64 0] 129)) w1.heap.size [x0, x1, x2, x3, x4, x5, x6, x7] [e0, e1, e2, e3] [0, 0, 0, 0, 0, 0, 0, 0] [0, 0, 0, 0] [0, 0, 0, 0, 0, 0, 0, 0, 0] := by
    have hsz : ((((w1.setCell ⟨w.heap.size + 1, 0, none⟩ (.int .u64 (e0 : Int))).setCell ⟨w.heap.size + 1, 1, none⟩ (.int .u64 (e1 : Int))).setCell ⟨w.heap.size + 1, 2, none⟩ (.int .u64 (e2 : Int))).setCell ⟨w.heap.size + 1, 3, none⟩ (.int .u64 (e3 : Int))).heap.size = w1.heap.size := by simp [World.setCell]
    refine ⟨hG, (gx.far4 (by omega) _ _ _ _).alloc _, (gd.put4 e0 e1 e2 e3).alloc _, (gq.far4 (by omega) _ _ _ _).alloc _, (gr.far4 (by omega) _ _ _ _).alloc _, ?_, (below_put4 gB (by omega) _ _ _ _).alloc (by rw [hsz]; omega) _⟩
    rw [← hsz]
    exact heap_alloc_new _ _
  clear gx gd gq gr gB z0 z1 z2 z3 f0 f1 f2 f3 hb1 cx
  generalize ((((w1.setCell ⟨w.heap.size + 1, 0, none⟩ (.int .u64 (e0 : Int))).setCell ⟨w.heap.size + 1, 1, none⟩ (.int .u64 (e1 : Int))).setCell ⟨w.heap.size + 1, 2, none⟩ (.int .u64 (e2 : Int))).setCell ⟨w.heap.size + 1, 3, none⟩ (.int .u64 (e3 : Int))).alloc (.cells #[.int .u64 0, .int .u64 0, .int .u64 0, .int .u64 0, .int .u64 0, .int .u64 0, .int .u64 0, .int .u64 0, .int .u64 0] 129) = Y at *
  generalize w1.heap.size = G at *
  have cx := hK.2.1.cell (top - 1) (by simp; omega)
  rw [← EXT.out] at cx
  have cz := hK.2.2.2.2.2.1.cell top (by simp; omega)
  have fz := hK.2.2.2.2.2.1.frozen top
  have hi3 : IntKind.i64.wrap (64 - (s : Int)) = ((64 - s : Nat) : Int) := by rw [IntWalk.i64_in _ (by omega)]; omega
  have hdv : ((xt : Int) / 2 ^ (64 - s)) = ((xt / 2 ^ (64 - s) : Nat) : Int) := by simp
  obtain ⟨v, ev⟩ : ∃ v, v = xt / 2 ^ (64 - s) := ⟨_, rfl⟩
  rw [← ev] at hdv
  have EV := Lib.hid ev
  clear ev
  go_wp2_with fail
  go_loopw [12] (fun i wr => ∃ (m : Nat) (zs : List Nat), 1 ≤ m ∧ m ≤ top ∧ i = .int .i64 ((m : Int) - 1) ∧ zs.length = 9 ∧ Lims zs ∧ Hid (Shl9Inv [x0, x1, x2, x3, x4, x5, x6, x7] s m zs) ∧ KMem w wr G [x0, x1, x2, x3, x4, x5, x6, x7] [e0, e1, e2, e3] [0, 0, 0, 0, 0, 0, 0, 0] [0, 0, 0, 0] zs)
    (fun i _ => (intOf i + 1).toNat)
  case atStart =>
    refine ⟨top, [0, 0, 0, 0, 0, 0, 0, 0, 0].set top v, by omega, Nat.le_refl _, rfl, by simp, Lims.set (by intro x hx; simp at hx; subst hx; unfold Lim; omega) _ _ ?_, shl9_start ht ht8 (by omega) (by rw [← EXT.out]; exact EV.out), hK.putZ top v⟩
    rw [EV.out, EXT.out]
    exact Nat.lt_of_le_of_lt (Nat.div_le_self _ _) (hx.get _)
  case round =>
    obtain ⟨m, zs, hm1, hmt, rfl, hlen, hlim, hinv, hmem⟩ := hrel
    clear cx cz fz hdv hK
    have HL := Lib.hid hlen
    clear hlen
    by_cases hlt : (0 : Int) < (m : Int) - 1
    · have ca := hmem.2.1.cell (m - 1) (by simp; omega)
      have cb := hmem.2.1.cell (m - 1 - 1) (by simp; omega)
      have cz := hmem.2.2.2.2.2.1.cell (m - 1) (by rw [HL.out]; omega)
      have fz := hmem.2.2.2.2.2.1.frozen (m - 1)
      obtain ⟨a, ea⟩ : ∃ a, a = [x0, x1, x2, x3, x4, x5, x6, x7].getD (m - 1) 0 := ⟨_, rfl⟩
      obtain ⟨b, eb⟩ : ∃ b, b = [x0, x1, x2, x3, x4, x5, x6, x7].getD (m - 1 - 1) 0 := ⟨_, rfl⟩
      rw [← ea] at ca
      rw [← eb] at cb
      have lb : Lim b := by rw [eb]; exact hx.get _
      have hsh : IntKind.u64.wrap ((a : Int) * 2 ^ s) = ((a * 2 ^ s % 18446744073709551616 : Nat) : Int) := by
        have e : ((a : Int) * 2 ^ s) = ((a * 2 ^ s : Nat) : Int) := by simp
        rw [e, wrapU]
      have hor := or_parts a b s (by omega) lb
      have hor1 : bits .or .u64 (IntKind.u64.wrap ((a : Int) * 2 ^ s)) ((b : Int) / 2 ^ (64 - s)) = ((a * 2 ^ s % 18446744073709551616 + b / 2 ^ (64 - s) : Nat) : Int) := by
        have e : ((b : Int) / 2 ^ (64 - s)) = ((b / 2 ^ (64 - s) : Nat) : Int) := by simp
        rw [hsh, e]; exact hor.1
      obtain ⟨z, ez⟩ : ∃ z, z = a * 2 ^ s % 18446744073709551616 + b / 2 ^ (64 - s) := ⟨_, rfl⟩
      rw [← ez] at hor1 hor
      have EA := Lib.hid ea
      have EB := Lib.hid eb
      have EZ := Lib.hid ez
      have HO := Lib.hid hor.2
      clear ea eb ez hor hsh
      go_wp2_with fail
      have hp : (m : Int) - 1 = ((m - 1 : Nat) : Int) := by omega
      have hi2 : IntKind.i64.wrap (((m - 1 : Nat) : Int) - 1) = ((m - 1 - 1 : Nat) : Int) := by rw [IntWalk.i64_in _ (by omega)]; omega
      go_region
      clear hp hi2 hor1 ca cb cz fz
      go_wp2_with fail
      go_roundw
      case rel =>
        refine ⟨m - 1, zs.set (m - 1) z, by omega, by omega, by go_num, by simp [HL.out], hlim.set _ _ (by unfold Lim; exact HO.out), ?_, (hmem.putZ (m - 1) z).drew⟩
        refine shl9_step hinv.out (by omega) (fun j hj => by simp [List.getElem?_set_ne (Ne.symm hj)]) ?_
        simp [HL.out, show m - 1 < 9 by omega, shlLimb, show 0 < m - 1 by omega, EZ.out, EA.out, EB.out]
      case measure => simp [intOf]; omega
    · obtain rfl : m = 1 := by omega
      have ca := hmem.2.1.cell 0 (by simp)
      have cz := hmem.2.2.2.2.2.1.cell 0 (by rw [HL.out]; omega)
      have fz := hmem.2.2.2.2.2.1.frozen 0
      simp only [List.getD_cons_zero] at ca
      have hsh : IntKind.u64.wrap ((x0 : Int) * 2 ^ s) = ((x0 * 2 ^ s % 18446744073709551616 : Nat) : Int) := by
        have e : ((x0 : Int) * 2 ^ s) = ((x0 * 2 ^ s : Nat) : Int) := by simp
        rw [e, wrapU]
      obtain ⟨l0, el0⟩ : ∃ l0, l0 = x0 * 2 ^ s % 18446744073709551616 := ⟨_, rfl⟩
      rw [← el0] at hsh
      have EL0 := Lib.hid el0
      have hmem2 := hmem.putZ 0 l0
      have hlim2 : Lims (zs.set 0 l0) := hlim.set _ _ (by rw [el0]; unfold Lim; omega)
      have hN : vl (zs.set 0 l0) = vl [x0, x1, x2, x3, x4, x5, x6, x7] * 2 ^ s := by
        refine shl9_done (by omega) (by simp [HL.out]) (shl9_step hinv.out (by omega) (fun j hj => by simp [List.getElem?_set_ne (Ne.symm hj)]) ?_)
        simp [HL.out, shlLimb, el0]
      have HNn := Lib.hid hN
      have hD : vl [e0, e1, e2, e3] = vl [d0, d1, d2, d3] * 2 ^ s := by
        rw [← he.vals, ← hd.vals]
        apply Nat.mod_eq_of_lt
        rw [hd.vals]
        have := norm_lt hd.limsList (by omega) hw (by rw [← EY.out]; exact hlz)
        have : (18446744073709551616 : Nat) ^ wide ≤ 18446744073709551616 ^ 4 := Nat.pow_le_pow_right (by omega) hw4
        omega
      obtain ⟨n1, n2, n3⟩ := norm_top hd.limsList he.limsList (by omega) hw (by simp; omega) (by rw [← EY.out]; exact hlz) hD
      have hK : KnuthInv (vl [x0, x1, x2, x3, x4, x5, x6, x7] * 2 ^ s) (vl [e0, e1, e2, e3]) (top - wide + 1) [0, 0, 0, 0, 0, 0, 0, 0] (zs.set 0 l0) :=
        knuth_start hx ht (by omega) (by omega) hle (by simp; omega) n2 n3 hN
      have HDd := Lib.hid hD
      have HN1 := Lib.hid n1
      have HN2 := Lib.hid n2
      have HN3 := Lib.hid n3
      have HKk := Lib.hid hK
      clear el0 hN hD n1 n2 n3 hK
      generalize hzz : zs.set 0 l0 = zz at *
      have HZl : Hid (zz.length = 9) := by show zz.length = 9; rw [← hzz]; simp [HL.out]
      clear hzz
      have hs0 : ((1 : Nat) : Int) - 1 = 0 := by omega
      go_wp2_with fail
      clear ca cz fz hsh hinv hmem hlim HL
      go_loopw [13] (fun i wr => ∃ (k : Nat) (qs zs : List Nat), k + wide ≤ top + 1 ∧ i = .int .i64 ((k : Int) - 1) ∧ qs.length = 8 ∧ Lims qs ∧ zs.length = 9 ∧ Lims zs ∧ Hid (KnuthInv (vl [x0, x1, x2, x3, x4, x5, x6, x7] * 2 ^ s) (vl [e0, e1, e2, e3]) k qs zs) ∧
          KMem w wr G [x0, x1, x2, x3, x4, x5, x6, x7] [e0, e1, e2, e3] qs [0, 0, 0, 0] zs)
        (fun i _ => (intOf i + 1).toNat)
      case atStart => exact ⟨top - wide + 1, [0, 0, 0, 0, 0, 0, 0, 0], zz, by omega, by go_num, rfl, by intro x hx; simp at hx; subst hx; unfold Lim; omega, HZl.out, hlim2, HKk.out, hmem2⟩
      case round =>
        obtain ⟨k, qs, zs, hkt, rfl, hql, hqlim, hzl, hzlim, hinv, hmem⟩ := hrel
        clear hmem2 hlim2
        have HQL := Lib.hid hql
        have HZL := Lib.hid hzl
        clear hql hzl
        by_cases hk0 : (0 : Int) ≤ (k : Int) - 1
        · have c2 := hmem.2.2.2.2.2.1.cell (k - 1 + wide) (by rw [HZL.out]; omega)
          have c1 := hmem.2.2.2.2.2.1.cell (k - 1 + wide - 1) (by rw [HZL.out]; omega)
          have c0 := hmem.2.2.2.2.2.1.cell (k - 1 + wide - 2) (by rw [HZL.out]; omega)
          have b1 := hmem.2.2.1.cell (wide - 1) (by simp; omega)
          have b0 := hmem.2.2.1.cell (wide - 2) (by simp; omega)
          obtain ⟨v2, ev2⟩ : ∃ v, v = zs.getD (k - 1 + wide) 0 := ⟨_, rfl⟩
          obtain ⟨v1, ev1⟩ : ∃ v, v = zs.getD (k - 1 + wide - 1) 0 := ⟨_, rfl⟩
          obtain ⟨v0, ev0⟩ : ∃ v, v = zs.getD (k - 1 + wide - 2) 0 := ⟨_, rfl⟩
          obtain ⟨t1, et1⟩ : ∃ v, v = [e0, e1, e2, e3].getD (wide - 1) 0 := ⟨_, rfl⟩
          obtain ⟨t0, et0⟩ : ∃ v, v = [e0, e1, e2, e3].getD (wide - 2) 0 := ⟨_, rfl⟩
          rw [← ev2] at c2
          rw [← ev1] at c1
          rw [← ev0] at c0
          rw [← et1] at b1
          rw [← et0] at b0
          have lv1 : Lim v1 := by rw [ev1]; exact hzlim.get _
          have lv0 : Lim v0 := by rw [ev0]; exact hzlim.get _
          have lt1 : Lim t1 := by rw [et1]; exact he.limsList.get _
          have lt0 : Lim t0 := by rw [et0]; exact he.limsList.get _
          have cG : ∀ n, Calls Try.prog 159 #[.int .u64 v2, .int .u64 v1, .int .u64 v0, .int .u64 t1, .int .u64 t0] (wr.drewN n) fun e w'' => e = .returned (.int .u64 (guessF v2 v1 v0 t1 t0 : Nat)) ∧ ∃ m, w'' = wr.drewN m := fun n => Calls.quiet_of (guess_c v2 v1 v0 t1 t0 lv1 lv0 lt1 lt0 _)
          obtain ⟨g, eg⟩ : ∃ g, g = guessF v2 v1 v0 t1 t0 := ⟨_, rfl⟩
          rw [← eg] at cG
          have HG : Hid (g = guessF (zs.getD (k - 1 + wide) 0) (zs.getD (k - 1 + wide - 1) 0) (zs.getD (k - 1 + wide - 2) 0) ([e0, e1, e2, e3].getD (wide - 1) 0) ([e0, e1, e2, e3].getD (wide - 2) 0)) := by
            show g = _; rw [eg, ev2, ev1, ev0, et1, et0]
          clear ev2 ev1 ev0 et1 et0 eg
          go_wp2_with fail
          have j1 : IntKind.i64.wrap ((k : Int) - 1 + wide) = ((k - 1 + wide : Nat) : Int) := by rw [IntWalk.i64_in _ (by omega)]; omega
          have j2 : IntKind.i64.wrap (((k - 1 + wide : Nat) : Int) - 1) = ((k - 1 + wide - 1 : Nat) : Int) := by rw [IntWalk.i64_in _ (by omega)]; omega
          have j3 : IntKind.i64.wrap (((k - 1 + wide : Nat) : Int) - 2) = ((k - 1 + wide - 2 : Nat) : Int) := by rw [IntWalk.i64_in _ (by omega)]; omega
          have j4 : IntKind.i64.wrap ((wide : Int) - 1) = ((wide - 1 : Nat) : Int) := by rw [IntWalk.i64_in _ (by omega)]; omega
          have j5 : IntKind.i64.wrap ((wide : Int) - 2) = ((wide - 2 : Nat) : Int) := by rw [IntWalk.i64_in _ (by omega)]; omega
          have u1 : ((k - 1 + wide : Nat) : Int) < 9 := by omega
          have u2 : ((k - 1 + wide - 1 : Nat) : Int) < 9 := by omega
          have u3 : ((k - 1 + wide - 2 : Nat) : Int) < 9 := by omega
          have u4 : ((wide - 1 : Nat) : Int) < 4 := by omega
          have u5 : ((wide - 2 : Nat) : Int) < 4 := by omega
          go_quiet (with_reducible exact cG _)
          clear cG j1 j2 j3 j4 j5 u1 u2 u3 u4 u5 c2 c1 c0 b1 b0
          replace hmem := hmem.drewN nq
          generalize wr.drewN nq = wk at *
          have lg : Lim g := by rw [HG.out]; exact guess_lt (hzlim.get _)
          go_wp2_with fail
          obtain ⟨o, eo⟩ : ∃ o, o = k - 1 := ⟨_, rfl⟩
          obtain ⟨mid, em⟩ : ∃ m, m = k - 1 + wide := ⟨_, rfl⟩
          obtain ⟨hi, eh⟩ : ∃ m, m = k - 1 + wide + 1 := ⟨_, rfl⟩
          have hp : (k : Int) - 1 = (o : Int) := by omega
          have j1 : IntKind.i64.wrap ((o : Int) + wide) = (mid : Int) := by rw [IntWalk.i64_in _ (by omega)]; omega
          have j6 : IntKind.i64.wrap ((mid : Int) + 1) = (hi : Int) := by rw [IntWalk.i64_in _ (by omega)]; omega
          have sl9 : ∀ W, (Instr.sliceAt 129 (.pointer (some ⟨G, 0, none⟩)) (some (.int .i64 (o : Nat))) (some (.int .i64 (hi : Nat))) none).run Try.prog W = .ok (.slice (some ⟨G, o, none⟩) (wide + 1) (9 - o)) W := fun W => by
            rw [slice9 G o hi (by omega) (by omega) (by omega)]; congr 2; omega
          have sl4 := slice4 (w.heap.size + 1) wide hw4
          have EO := Lib.hid eo
          have EM := Lib.hid em
          have EH := Lib.hid eh
          clear eo em eh
          go_region_with (go_at_call 160; refine (take_c _ hmem.drew.2.2.2.2.2.1 hmem.drew.2.2.1 (by have := hmem.1; omega) hzlim he.limsList lg (by simpa using hw4) (by simp) (by rw [EO.out, HZL.out]; omega) (by rw [HZL.out]; omega)).mono ?_
                          rintro e w2 ⟨b, z1, rfl, hb1, hl1, hlim1, hv1, ht1, harr1, htouch1⟩)
          have hmem2 := hmem.drew.touch htouch1 harr1
          have hko : k = o + 1 := by have := EO.out; omega
          have hdig := digit_of (zs := zs) (ds := [e0, e1, e2, e3]) (i := o) (w := wide) hzlim he.limsList h2 (by simpa using hw4) (by rw [HZL.out, EO.out]; omega) HN3.out HN2.out (by rw [← hko]; exact hinv.out.2.1)
          have hgeq : guessF (zs.getD (o + wide) 0) (zs.getD (o + wide - 1) 0) (zs.getD (o + wide - 2) 0) ([e0, e1, e2, e3].getD (wide - 1) 0) ([e0, e1, e2, e3].getD (wide - 2) 0) = g := by rw [HG.out, EO.out]
          rw [hgeq] at hdig
          have HDg := Lib.hid hdig
          have HV1 := Lib.hid hv1
          have HT1 := Lib.hid ht1
          have HL1 := Lib.hid hl1
          have HKO := Lib.hid hko
          have hDp : 0 < vl [e0, e1, e2, e3] := by
            have := HN2.out
            rcases Nat.eq_zero_or_pos (vl [e0, e1, e2, e3]) with h0 | hp
            · have := vl_zero_get _ h0 (wide - 1); omega
            · exact hp
          have cq := hmem2.2.2.2.1.cell o (by rw [HQL.out, EO.out]; omega)
          have fq := hmem2.2.2.2.1.frozen o
          have ob : (o : Int) < 8 := by have := EO.out; omega
          clear hgeq hdig hv1 ht1 hl1 hko
          rcases (show b = 0 ∨ b = 1 by omega) with rfl | rfl
          · have hbf : (((0 : Nat) : Int) == 1) = false := rfl
            go_wp2_with fail
            go_roundw
            case rel =>
              obtain ⟨r1, r2⟩ := round_right hzlim (by rw [HZL.out, EO.out]; omega) hDp HDg.out HN3.out HV1.out
              refine ⟨o, qs.set o g, z1, by have := EO.out; omega, by go_num, by rw [List.length_set]; exact HQL.out, hqlim.set _ _ lg, HL1.out.trans HZL.out, hlim1, ?_, hmem2.putQ o g⟩
              refine knuth_step ?_ (by rw [HQL.out, EO.out]; omega) r1 r2
              rw [← HKO.out]; exact hinv.out
            case measure => simp [intOf]; have := EO.out; omega
          · have hbt : (((1 : Nat) : Int) == 1) = true := rfl
            go_wp2_with fail
            clear cq fq
            go_region_with (go_at_call 161; refine (give_c _ hmem2.drew.2.2.2.2.2.1 hmem2.drew.2.2.1 (by have := hmem.1; omega) hlim1 he.limsList (by simpa using hw4) (by simp) (by rw [EO.out, HL1.out, HZL.out]; omega) (by rw [HL1.out, HZL.out]; omega)).mono ?_
                            rintro e w3 ⟨c, z2, rfl, hl2, hlim2, hv2, ht2, harr2, htouch2⟩)
            have hmem3 := hmem2.drew.touch htouch2 harr2
            obtain ⟨r0, r1, r2⟩ := round_wrong hlim1 hlim2 (by rw [HZL.out, EO.out]; omega) HL1.out (hl2.trans HL1.out) hDp he.limsList (by simpa using hw4) HDg.out HN3.out (by rw [← HKO.out]; exact hinv.out.2.1) HT1.out ht2 HV1.out hv2
            have R1 := Lib.hid r1
            have R2 := Lib.hid r2
            have HL2 := Lib.hid hl2
            have hgw := wrap_pred lg r0
            have cq := hmem3.2.2.2.1.cell o (by rw [HQL.out, EO.out]; omega)
            have fq := hmem3.2.2.2.1.frozen o
            clear r1 r2 hv2 ht2 hl2
            go_wp2_with fail
            go_roundw
            case rel =>
              refine ⟨o, qs.set o (g - 1), z2, by have := EO.out; omega, by go_num, by rw [List.length_set]; exact HQL.out, hqlim.set _ _ (by unfold Lim at *; omega), HL2.out.trans (HL1.out.trans HZL.out), hlim2, ?_, hmem3.putQ o (g - 1)⟩
              refine knuth_step ?_ (by rw [HQL.out, EO.out]; omega) R1.out R2.out
              rw [← HKO.out]; exact hinv.out
            case measure => simp [intOf]; have := EO.out; omega
        · obtain rfl : k = 0 := by omega
          have HKI := hinv
          have hz0' : ((0 : Nat) : Int) - 1 = -1 := by omega
          have l0 : Lim 0 := by unfold Lim; omega
          clear hkt hinv
          go_wp2_with fail
          go_loopw [117] (fun i wq => ∃ (j : Nat) (rs : List Nat), j ≤ wide ∧ i = .int .i64 j ∧ rs.length = 4 ∧ Lims rs ∧ Hid ((∀ m, m < j → rs.getD m 0 = shrLimb zs s m) ∧ ∀ m, j ≤ m → rs.getD m 0 = 0) ∧ KMem w wq G [x0, x1, x2, x3, x4, x5, x6, x7] [e0, e1, e2, e3] qs rs zs)
            (fun i _ => wide - (intOf i).toNat)
          case atStart =>
            refine ⟨0, [0, 0, 0, 0], by omega, rfl, rfl, Lims.four l0 l0 l0 l0, ⟨fun m hm => by omega, fun m _ => ?_⟩, hmem⟩
            by_cases h4 : m < 4
            · rcases (show m = 0 ∨ m = 1 ∨ m = 2 ∨ m = 3 by omega) with rfl | rfl | rfl | rfl <;> rfl
            · rw [List.getD_eq_getElem?_getD, List.getElem?_eq_none (by simp; omega)]; rfl
          case round =>
            obtain ⟨j, rs, hjw, rfl, hrl, hrlim, hrinv, hmem5⟩ := hrel
            clear hmem
            have HRL := Lib.hid hrl
            clear hrl
            by_cases hjl : (j : Int) < (wide : Int)
            · have ca := hmem5.2.2.2.2.2.1.cell j (by rw [HZL.out]; omega)
              have cb := hmem5.2.2.2.2.2.1.cell (j + 1) (by rw [HZL.out]; omega)
              have cr := hmem5.2.2.2.2.1.cell j (by rw [HRL.out]; omega)
              have fr := hmem5.2.2.2.2.1.frozen j
              obtain ⟨a, ea⟩ : ∃ a, a = zs.getD j 0 := ⟨_, rfl⟩
              obtain ⟨b, eb⟩ : ∃ b, b = zs.getD (j + 1) 0 := ⟨_, rfl⟩
              rw [← ea] at ca
              rw [← eb] at cb
              have la : Lim a := by rw [ea]; exact hzlim.get _
              have hor := or_parts2 a b s (by omega) la
              have hor1 : bits .or .u64 ((a : Int) / 2 ^ s) (IntKind.u64.wrap ((b : Int) * 2 ^ (64 - s))) = ((a / 2 ^ s + b * 2 ^ (64 - s) % 18446744073709551616 : Nat) : Int) := by
                have e : ((a : Int) / 2 ^ s) = ((a / 2 ^ s : Nat) : Int) := by simp
                have e2 : ((b : Int) * 2 ^ (64 - s)) = ((b * 2 ^ (64 - s) : Nat) : Int) := by simp
                rw [e, e2, wrapU]; exact hor.1
              obtain ⟨z, ez⟩ : ∃ z, z = a / 2 ^ s + b * 2 ^ (64 - s) % 18446744073709551616 := ⟨_, rfl⟩
              rw [← ez] at hor1 hor
              have lz : Lim z := hor.2
              have EZ : Hid (z = shrLimb zs s j) := by show z = _; rw [ez, ea, eb]; rfl
              clear ea eb ez hor
              go_wp2_with fail
              have hj1 : IntKind.i64.wrap ((j : Int) + 1) = ((j + 1 : Nat) : Int) := by rw [IntWalk.i64_in _ (by omega)]; omega
              go_region
              clear hj1 hor1 ca cb cr fr
              go_wp2_with fail
              go_roundw
              case rel =>
                refine ⟨j + 1, rs.set j z, by omega, by go_num, by rw [List.length_set]; exact HRL.out, hrlim.set _ _ lz, ⟨fun m hm => ?_, fun m hm => ?_⟩, (hmem5.putR j z).drew⟩
                · by_cases hmj : m = j
                  · subst hmj
                    rw [List.getD_eq_getElem?_getD, List.getElem?_set_self (by rw [HRL.out]; omega)]; exact EZ.out
                  · rw [List.getD_eq_getElem?_getD, List.getElem?_set_ne (by omega), ← List.getD_eq_getElem?_getD]; exact hrinv.out.1 m (by omega)
                · rw [List.getD_eq_getElem?_getD, List.getElem?_set_ne (by omega), ← List.getD_eq_getElem?_getD]; exact hrinv.out.2 m (by omega)
              case measure => simp [intOf]; omega
            · obtain rfl : j = wide := by omega
              obtain ⟨q0, q1, q2, q3, q4, q5, q6, q7, rfl⟩ := list8 HQL.out
              obtain ⟨r0, r1, r2, r3, rfl⟩ := list4 HRL.out
              have hfin := knuth_end (by omega) hw4 h2 hzlim HZL.out HDd.out HN1.out HKI.out hrinv.out
              have HF := Lib.hid hfin
              have k1 := hmem5.drew.2.2.2.1
              have k2 := hmem5.drew.2.2.2.2.1
              have kB := hmem5.drew.2.2.2.2.2.2
              obtain ⟨ya, yb, yc, yd, ye, yf, yg, yh⟩ := hmem5.2.2.2.1.cells8
              obtain ⟨fa, fb, fc, fd, fe, ff, fg, fh⟩ := hmem5.2.2.2.1.free8
              obtain ⟨za, zb, zc, zd⟩ := hmem5.2.2.2.2.1.cells4
              obtain ⟨ga, gb, gc, gd'⟩ := hmem5.2.2.2.2.1.free4
              clear hfin
              go_wp2_with fail
              go_region
              all_goals
                go_wp2_with fail
                obtain ⟨k3, k4, hB2⟩ := put12 hmem5.2.2.2.1 hmem5.2.2.2.2.1 (by omega) hmem5.2.2.2.2.2.2 (by omega) (by omega) q0 q1 q2 q3 q4 q5 q6 q7 r0 r1 r2 r3 _ rfl
                clear ya yb yc yd ye yf yg yh fa fb fc fd fe ff fg fh za zb zc zd ga gb gc gd' k1 k2 kB
                generalize ((((((((((((wr.setCell ⟨w.heap.size + 1 + 1, 0, none⟩ (.int .u64 (q0 : Int))).setCell ⟨w.heap.size + 1 + 1, 1, none⟩ (.int .u64 (q1 : Int))).setCell ⟨w.heap.size + 1 + 1, 2, none⟩ (.int .u64 (q2 : Int))).setCell ⟨w.heap.size + 1 + 1, 3, none⟩ (.int .u64 (q3 : Int))).setCell ⟨w.heap.size + 1 + 1, 4, none⟩ (.int .u64 (q4 : Int))).setCell ⟨w.heap.size + 1 + 1, 5, none⟩ (.int .u64 (q5 : Int))).setCell ⟨w.heap.size + 1 + 1, 6, none⟩ (.int .u64 (q6 : Int))).setCell ⟨w.heap.size + 1 + 1, 7, none⟩ (.int .u64 (q7 : Int))).setCell ⟨w.heap.size + 1 + 1 + 1, 0, none⟩ (.int .u64 (r0 : Int))).setCell ⟨w.heap.size + 1 + 1 + 1, 1, none⟩ (.int .u64 (r1 : Int))).setCell ⟨w.heap.size + 1 + 1 + 1, 2, none⟩ (.int .u64 (r2 : Int))).setCell ⟨w.heap.size + 1 + 1 + 1, 3, none⟩ (.int .u64 (r3 : Int))) = Y at *
                obtain ⟨ya, yb, yc, yd, ye, yf, yg, yh⟩ := k3.cells8
                obtain ⟨za, zb, zc, zd⟩ := k4.cells4
                have hq8 := HF.out.1
                have hr4 := HF.out.2
                exact bodyPost_ret (v := .tuple #[L8 q0 q1 q2 q3 q4 q5 q6 q7, W4 r0 r1 r2 r3]) (by simp [results, Try.results149, go_sem, ya, yb, yc, yd, ye, yf, yg, yh, za, zb, zc, zd]) rfl
                  ⟨q0, q1, q2, q3, q4, q5, q6, q7, r0, r1, r2, r3, rfl, hqlim, by rw [hq8, hd.vals], (isW_val hrlim).eq (by rw [hr4, hd.vals]), hB2.drew⟩
end Go.Proofs.Ytihffojljbgpcaa
