/- The contract of package word's product: the whole product of two words, in eight limbs. -/
import Derived.Test.YtihffojljbgpcaaWordLeaf
import Derived.Test.YtihffojljbgpcaaWordMath
namespace Go.Proofs.Ytihffojljbgpcaa
open Go.RowKit

/-- What stands in memory while product runs. -/
def PMem (w wr : World) (ys cs : List Nat) : Prop := Arr wr (w.heap.size + 1 + 1 + 1) 94 cs ∧ Arr wr (w.heap.size + 1) 24 ys ∧ Arr wr (w.heap.size + 1 + 1) 94 [0, 0, 0, 0, 0, 0, 0, 0] ∧ Below w.heap.size w wr
theorem PMem.step {w wr : World} {ys cs : List Nat} (h : PMem w wr ys cs) (j l : Nat) : PMem w (wr.setCell ⟨w.heap.size + 1 + 1 + 1, j, none⟩ (.int .u64 (l : Int))) ys (cs.set j l) :=
  ⟨h.1.set j l, h.2.1.far (p := ⟨w.heap.size + 1 + 1 + 1, j, none⟩) (by simp) _, h.2.2.1.far (p := ⟨w.heap.size + 1 + 1 + 1, j, none⟩) (by simp) _,
    h.2.2.2.setCell (p := ⟨w.heap.size + 1 + 1 + 1, j, none⟩) (by simp; omega) _⟩
def Tail0 (m : Nat) (cs : List Nat) : Prop := ∀ j, m ≤ j → cs.getD j 0 = 0
theorem Tail0.set {m j v : Nat} {cs : List Nat} (h : Tail0 m cs) (hj : j < m) : Tail0 m (cs.set j v) := fun i hi => by
  rw [List.getD_eq_getElem?_getD, List.getElem?_set_ne (by omega), ← List.getD_eq_getElem?_getD]; exact h i hi
theorem prod_end {xs ys cs : List Nat} {i carry : Nat} (H : MulIn 8 xs ys i (i + 4) carry cs) (hx : i < xs.length) (hy : ys.length = 4) (hc : i + 4 < cs.length) (h0 : Tail0 (i + 4) cs) : MulOut 8 xs ys (i + 1) (cs.set (i + 4) carry) := by
  obtain ⟨q, H⟩ := H
  refine ⟨q, ?_⟩
  have e := val_set cs (i + 4) carry hc
  rw [h0 (i + 4) (Nat.le_refl _), Nat.mul_zero, Nat.add_zero] at e
  rw [e, val_take_succ xs i hx, Nat.add_mul, H, show i + 4 - i = ys.length by omega, List.take_length, Nat.mul_assoc]

/-- Eight limbs, the number n. -/
def RetL (n : Nat) (w : World) (e : Ending) (w' : World) : Prop := ∃ c0 c1 c2 c3 c4 c5 c6 c7 : Nat, e = .returned (L8 c0 c1 c2 c3 c4 c5 c6 c7) ∧ Lims [c0, c1, c2, c3, c4, c5, c6, c7] ∧ vl [c0, c1, c2, c3, c4, c5, c6, c7] = n ∧ Below w.heap.size w w'

set_option maxRecDepth 100000 in
set_option maxHeartbeats 2000000 in
theorem product_c {a0 a1 a2 a3 b0 b1 b2 b3 a b : Nat} (ha : IsW a0 a1 a2 a3 a) (hb : IsW b0 b1 b2 b3 b) (w : World) :
    Calls Try.prog 107 #[W4 a0 a1 a2 a3, W4 b0 b1 b2 b3] w (RetL (a * b) w) := by
  have l0 : Lim 0 := by unfold Lim; omega
  go_enter Try.func107, Try.ntmps107
  go_wp2_with fail
  go_loopw [12] (fun i wr => ∃ (k : Nat) (cs : List Nat), k ≤ 4 ∧ i = .int .i64 k ∧ cs.length = 8 ∧ Lims cs ∧ MulOut 8 [a0, a1, a2, a3] [b0, b1, b2, b3] k cs ∧ Hid (Tail0 (k + 4) cs) ∧ PMem w wr [b0, b1, b2, b3] cs)
    (fun i _ => 4 - (intOf i).toNat)
  case atStart =>
    refine ⟨0, [0, 0, 0, 0, 0, 0, 0, 0], by omega, rfl, rfl, ?_, mulOut_start _ _ _ _ (by simp [vl]), fun j hj => ?_, ?_, ?_, ?_, ?_⟩
    · intro x hx; simp at hx; subst hx; exact l0
    · by_cases h8 : j < 8
      · rcases (show j = 4 ∨ j = 5 ∨ j = 6 ∨ j = 7 by omega) with rfl | rfl | rfl | rfl <;> rfl
      · rw [List.getD_eq_getElem?_getD, List.getElem?_eq_none (by simp; omega)]; rfl
    · have h := Arr.new8z (((w.alloc (.cells #[.int .u64 a0, .int .u64 a1, .int .u64 a2, .int .u64 a3] 24)).alloc (.cells #[.int .u64 b0, .int .u64 b1, .int .u64 b2, .int .u64 b3] 24)).alloc (.cells #[.int .u64 0, .int .u64 0, .int .u64 0, .int .u64 0, .int .u64 0, .int .u64 0, .int .u64 0, .int .u64 0] 94)) 94
      simpa using h
    · have h := ((Arr.new4 (w.alloc (.cells #[.int .u64 a0, .int .u64 a1, .int .u64 a2, .int .u64 a3] 24)) 24 b0 b1 b2 b3).alloc (.cells #[.int .u64 0, .int .u64 0, .int .u64 0, .int .u64 0, .int .u64 0, .int .u64 0, .int .u64 0, .int .u64 0] 94)).alloc (.cells #[.int .u64 0, .int .u64 0, .int .u64 0, .int .u64 0, .int .u64 0, .int .u64 0, .int .u64 0, .int .u64 0] 94)
      simpa using h
    · have h := (Arr.new8z ((w.alloc (.cells #[.int .u64 a0, .int .u64 a1, .int .u64 a2, .int .u64 a3] 24)).alloc (.cells #[.int .u64 b0, .int .u64 b1, .int .u64 b2, .int .u64 b3] 24)) 94).alloc (.cells #[.int .u64 0, .int .u64 0, .int .u64 0, .int .u64 0, .int .u64 0, .int .u64 0, .int .u64 0, .int .u64 0] 94)
      simpa using h
    · exact ((((Below.refl _ _).alloc (Nat.le_refl _) _).alloc (by simp) _).alloc (by simp; omega) _).alloc (by simp; omega) _
  case round =>
    obtain ⟨i, cs, hi4, rfl, hlen, hlim, hout, htail, hmem⟩ := hrel
    have HL := Lib.hid hlen
    clear hlen
    by_cases hlt : i < 4
    · have hix := index4 a0 a1 a2 a3 i hlt
      obtain ⟨x, hx⟩ : ∃ x, x = [a0, a1, a2, a3].getD i 0 := ⟨_, rfl⟩
      rw [← hx] at hix
      have lx : Lim x := by rw [hx]; exact ha.limsList.get i
      have HX := Lib.hid hx
      clear hx
      have hd : decide ((i : Int) < 4) = true := by simp; omega
      obtain ⟨y0, y1, y2, y3⟩ := hmem.2.1.cells4
      go_wp2_with fail
      clear hix hd y0 y1 y2 y3
      obtain ⟨wo, HW⟩ : ∃ wo : World, Hid (wo = wr) := ⟨_, rfl⟩
      go_loopw [8, 17] (fun c k wq => ∃ (carry j : Nat) (ds : List Nat), j ≤ 4 ∧ c = .int .u64 carry ∧ k = .int .i64 j ∧ Lim carry ∧ ds.length = 8 ∧ Lims ds ∧ MulIn 8 [a0, a1, a2, a3] [b0, b1, b2, b3] i (i + j) carry ds ∧ Hid (Tail0 (i + 4) ds) ∧ PMem w wq [b0, b1, b2, b3] ds)
        (fun _ k _ => 4 - (intOf k).toNat)
      case atStart => exact ⟨0, 0, cs, by omega, rfl, rfl, l0, HL.out, hlim, mulIn_start hout, htail, hmem⟩
      case round =>
        obtain ⟨carry, j, ds, hj4, rfl, rfl, lc, hlen2, hlim2, hin, htail2, hmem2⟩ := hrel
        have HL2 := Lib.hid hlen2
        clear hlen2
        by_cases hjl : j < 4
        · have hiy := index4 b0 b1 b2 b3 j hjl
          have cj := hmem2.1.cell (i + j) (by rw [HL2.out]; omega)
          have fj := hmem2.1.frozen (i + j)
          obtain ⟨y, hy⟩ : ∃ y, y = ds.getD (i + j) 0 := ⟨_, rfl⟩
          obtain ⟨z, hz⟩ : ∃ z, z = [b0, b1, b2, b3].getD j 0 := ⟨_, rfl⟩
          rw [← hy] at cj
          rw [← hz] at hiy
          have ly : Lim y := by rw [hy]; exact hlim2.get _
          have lz : Lim z := by rw [hz]; exact hb.limsList.get _
          have HY := Lib.hid hy
          have HZ2 := Lib.hid hz
          clear hy hz
          go_wp2_with fail
          refine (mulAdd_c x z y carry lx lz ly lc _).mono ?_
          rintro e w1 ⟨h, l, rfl, hM, rfl⟩
          go_wp2_with fail
          go_roundw
          case rel =>
            rw [HX.out, HZ2.out, HY.out] at hM
            refine ⟨h, j + 1, ds.set (i + j) l, by omega, rfl, by go_num, hM.2.2, by rw [List.length_set]; exact HL2.out, hlim2.set _ l hM.2.1, ?_, htail2.out.set (by omega), hmem2.step _ l⟩
            have hs := mulIn_step (k := i + j) (h := h) (l := l) hin (by omega) (by rw [HL2.out]; omega) (by simp only [List.length_cons, List.length_nil]; omega) (by rw [show i + j - i = j by omega]; exact hM)
            exact hs
          case measure => simp [intOf]; omega
        · obtain rfl : j = 4 := by omega
          have cj := hmem2.1.cell (i + 4) (by rw [HL2.out]; omega)
          have fj := hmem2.1.frozen (i + 4)
          go_wp2_with fail
          go_roundw
          case rel => exact ⟨i + 1, ds.set (i + 4) carry, by omega, by go_num, by rw [List.length_set]; exact HL2.out, hlim2.set _ _ lc, prod_end hin (by simp; omega) rfl (by rw [HL2.out]; omega) htail2.out, (fun m hm => (show Tail0 (i + 5) ds from fun q hq => htail2.out q (by omega)).set (by omega) m (by omega)), hmem2.step _ carry⟩
          case measure => simp [intOf]; omega
    · obtain ⟨c0, c1, c2, c3, c4, c5, c6, c7, rfl⟩ := list8 HL.out
      obtain ⟨za, zb, zc, zd, ze, zf, zg, zh⟩ := hmem.1.cells8
      obtain ⟨ya, yb, yc, yd, ye, yf, yg, yh⟩ := hmem.2.2.1.cells8
      obtain ⟨fa, fb, fc, fd, fe, ff, fg, fh⟩ := hmem.2.2.1.free8
      go_wp2_with fail
      obtain rfl : i = 4 := by omega
      have hv := mulOut_end hout hlim rfl
      have hB := hmem.2.2.2
      have hlt8 : a * b < 18446744073709551616 ^ 8 := by
        have h1 := ha.big; have h2 := hb.big
        unfold Big at h1 h2
        have := Nat.mul_lt_mul'' h1 h2
        simpa using this
      refine bodyPost_ret (v := L8 c0 c1 c2 c3 c4 c5 c6 c7) (by simp [results, Try.results107, go_sem, ya, yb, yc, yd, ye, yf, yg, yh]) rfl ⟨c0, c1, c2, c3, c4, c5, c6, c7, rfl, hlim, by rw [hv, ← ha.vals, ← hb.vals]; exact Nat.mod_eq_of_lt hlt8, ?_⟩
      exact below_put8 hB (by omega) _ _ _ _ _ _ _ _
end Go.Proofs.Ytihffojljbgpcaa
