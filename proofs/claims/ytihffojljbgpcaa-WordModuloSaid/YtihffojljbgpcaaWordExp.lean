/- The contract of package word's Exp: the power modulo 2^256, for any two words. -/
import Derived.Test.YtihffojljbgpcaaWordLeaf
import Derived.Test.YtihffojljbgpcaaWordBits
namespace Go.Proofs.Ytihffojljbgpcaa
open Go.RowKit

/-- What stands in memory while Exp runs. -/
def ExpMem (w wr : World) (g : Nat) (xs ys ps : List Nat) : Prop := w.heap.size + 1 + 1 < g ∧ Arr wr w.heap.size 24 xs ∧ Arr wr (w.heap.size + 1) 24 ys ∧ Arr wr (w.heap.size + 1 + 1) 24 [0, 0, 0, 0] ∧ Arr wr g 24 ps ∧ Below w.heap.size w wr
theorem ExpMem.below {w wr w3 : World} {g : Nat} {xs ys ps : List Nat} (h : ExpMem w wr g xs ys ps) (hb : Below wr.heap.size wr w3) : ExpMem w w3 g xs ys ps :=
  ⟨h.1, h.2.1.below hb h.2.1.lt, h.2.2.1.below hb h.2.2.1.lt, h.2.2.2.1.below hb h.2.2.2.1.lt, h.2.2.2.2.1.below hb h.2.2.2.2.1.lt, h.2.2.2.2.2.trans (hb.mono (Nat.le_trans (by have := h.2.1.lt; omega) (Nat.le_refl _)))⟩
theorem ExpMem.put {w wr : World} {g : Nat} {xs ys : List Nat} {c0 c1 c2 c3 : Nat} (h : ExpMem w wr g xs ys [c0, c1, c2, c3]) (a b c d : Nat) :
    ExpMem w ((((wr.setCell ⟨g, 0, none⟩ (.int .u64 (a : Int))).setCell ⟨g, 1, none⟩ (.int .u64 (b : Int))).setCell ⟨g, 2, none⟩ (.int .u64 (c : Int))).setCell ⟨g, 3, none⟩ (.int .u64 (d : Int))) g xs ys [a, b, c, d] := by
  obtain ⟨h1, h2, h3, h4, h5, h6⟩ := h
  exact ⟨h1, h2.far4 (by omega) _ _ _ _, h3.far4 (by omega) _ _ _ _, h4.far4 (by omega) _ _ _ _, h5.put4 _ _ _ _, below_put4 h6 (by omega) _ _ _ _⟩

theorem bit_test (y j : Nat) (hy : Lim y) : bits .and .u64 ((y : Int) / 2 ^ j) 1 = ((y / 2 ^ j % 2 : Nat) : Int) := by
  unfold Lim at hy
  have hle : y / 2 ^ j ≤ y := Nat.div_le_self _ _
  have h := bits_and_u64_nat (y / 2 ^ j) 1 (by omega) (by omega)
  have e : y / 2 ^ j &&& 1 = y / 2 ^ j % 2 := Nat.and_one_is_mod _
  rw [e] at h
  have c : ((y : Int) / 2 ^ j) = ((y / 2 ^ j : Nat) : Int) := by simp
  rw [c]
  exact h

set_option maxRecDepth 100000 in
set_option maxHeartbeats 1600000 in
theorem exp_c {a0 a1 a2 a3 b0 b1 b2 b3 a b : Nat} (ha : IsW a0 a1 a2 a3 a) (hb : IsW b0 b1 b2 b3 b) (w : World) :
    Calls Try.prog 56 #[W4 a0 a1 a2 a3, W4 b0 b1 b2 b3] w (RetW ((a ^ b) % 115792089237316195423570985008687907853269984665640564039457584007913129639936) w) := by
  go_enter Try.func56, Try.ntmps56
  go_wp2_with fail
  obtain ⟨gA, gB, gR, gS, gW⟩ := start3 w 24 a0 a1 a2 a3 b0 b1 b2 b3 _ rfl
  generalize ((w.alloc (.cells #[.int .u64 (a0 : Nat), .int .u64 (a1 : Nat), .int .u64 (a2 : Nat), .int .u64 (a3 : Nat)] 24)).alloc (.cells #[.int .u64 (b0 : Nat), .int .u64 (b1 : Nat), .int .u64 (b2 : Nat), .int .u64 (b3 : Nat)] 24)).alloc (.cells #[.int .u64 0, .int .u64 0, .int .u64 0, .int .u64 0] 24) = X at *
  refine (of_c 1 (by unfold Lim; omega) _).mono ?_
  rintro e w1 ⟨p0, p1, p2, p3, rfl, hp, hb1⟩
  have hz := hb1.size
  have hz2 : w.heap.size + 1 + 1 < w1.heap.size := by omega
  have hz1 : w.heap.size + 1 < w1.heap.size := by omega
  replace gA := gA.below hb1 gA.lt
  replace gB := gB.below hb1 gB.lt
  replace gR := gR.below hb1 gR.lt
  replace gW := gW.trans (hb1.mono (by omega))
  clear gS hz hb1
  obtain ⟨y0, y1, y2, y3⟩ := gB.cells4
  go_wp2_with fail
  refine (bits_c hb _).mono ?_
  rintro e w2 ⟨n, rfl, hn, hb2⟩
  clear y0 y1 y2 y3
  have hn256 : n ≤ 256 := hn.2.1
  have hm0 : ExpMem w w2 w1.heap.size [a0, a1, a2, a3] [b0, b1, b2, b3] [p0, p1, p2, p3] := 
    ExpMem.below ⟨hz2, gA.alloc _, gB.alloc _, gR.alloc _, Arr.new4 w1 24 p0 p1 p2 p3, gW.alloc (by omega) _⟩ hb2
  generalize w1.heap.size = G at *
  clear gA gB gR gW hb2
  go_wp2_with fail
  go_loopw [6] (fun s wr => ∃ (k p0 p1 p2 p3 : Nat), k ≤ n ∧ s = .int .i64 ((k : Int) - 1) ∧ IsW p0 p1 p2 p3 ((a ^ (b / 2 ^ k)) % 115792089237316195423570985008687907853269984665640564039457584007913129639936) ∧ ExpMem w wr G [a0, a1, a2, a3] [b0, b1, b2, b3] [p0, p1, p2, p3])
    (fun s _ => (intOf s + 1).toNat)
  case atStart => exact ⟨n, p0, p1, p2, p3, Nat.le_refl _, rfl, hp.eq (by rw [Nat.div_eq_of_lt hn.1, Nat.pow_zero]), hm0⟩
  case round =>
    obtain ⟨k, q0, q1, q2, q3, hk, rfl, hq, hmem⟩ := hrel
    clear hm0
    by_cases h0 : 0 < k
    · have hge : decide (0 ≤ (k : Int) - 1) = true := by simp; omega
      obtain ⟨x0, x1, x2, x3⟩ := hmem.2.2.2.2.1.cells4
      go_wp2_with fail
      refine (mul_c hq hq _).mono ?_
      rintro e w3 ⟨s0, s1, s2, s3, rfl, hs, hb3⟩
      clear x0 x1 x2 x3
      replace hmem := hmem.below hb3
      clear hb3
      have cb := hmem.2.2.1.cell ((k - 1) / 64) (by simp; omega)
      obtain ⟨y, hy⟩ : ∃ y, y = [b0, b1, b2, b3].getD ((k - 1) / 64) 0 := ⟨_, rfl⟩
      rw [← hy] at cb
      have ly : Lim y := by rw [hy]; exact hb.limsList.get _
      have hbit : b / 2 ^ (k - 1) % 2 = y / 2 ^ ((k - 1) % 64) % 2 := by
        rw [hy, ← vl_bit _ hb.limsList ((k - 1) / 64) ((k - 1) % 64) (by omega), ← hb.vals, Nat.div_add_mod]
      have HY := Lib.hid hy
      have HB := Lib.hid hbit
      have hS := sq_step rfl rfl (a := a) (e := b / 2 ^ k) (T := 115792089237316195423570985008687907853269984665640564039457584007913129639936)
      replace hs := hs.eq hS
      clear hy hbit hS
      obtain ⟨x0, x1, x2, x3⟩ := hmem.2.2.2.2.1.cells4
      obtain ⟨f0, f1, f2, f3⟩ := hmem.2.2.2.2.1.free4
      obtain ⟨z0, z1, z2, z3⟩ := hmem.2.1.cells4
      have hg0 : ¬ (w.heap.size = G) := by have := hmem.1; omega
      have hg1 : ¬ (w.heap.size + 1 = G) := by have := hmem.1; omega
      rcases (show y / 2 ^ ((k - 1) % 64) % 2 = 1 ∨ y / 2 ^ ((k - 1) % 64) % 2 = 0 by omega) with hbt | hbt
      · have ht : (bits .and .u64 ((y : Int) / 2 ^ ((k - 1) % 64)) 1 == 1) = true := by rw [bit_test y _ ly, hbt]; rfl
        have HT := Lib.hid hbt
        clear hbt
        go_wp2_with fail
        refine (mul_c hs ha _).mono ?_
        rintro e w4 ⟨r0, r1, r2, r3, rfl, hr, hb4⟩
        clear x0 x1 x2 x3 f0 f1 f2 f3 z0 z1 z2 z3 cb
        replace hmem := (hmem.put s0 s1 s2 s3).below hb4
        clear hb4
        obtain ⟨x0, x1, x2, x3⟩ := hmem.2.2.2.2.1.cells4
        obtain ⟨f0, f1, f2, f3⟩ := hmem.2.2.2.2.1.free4
        have hM := mul_step rfl rfl (a := a) (e := 2 * (b / 2 ^ k)) (T := 115792089237316195423570985008687907853269984665640564039457584007913129639936)
        replace hr := hr.eq hM
        clear hM
        go_wp2_with fail
        go_roundw
        case rel => exact ⟨k - 1, r0, r1, r2, r3, by omega, by go_num, hr.eq (by rw [exp_bit1 h0 (HB.out.trans HT.out)]), hmem.put r0 r1 r2 r3⟩
        case measure => simp [intOf]; omega
      · have ht : (bits .and .u64 ((y : Int) / 2 ^ ((k - 1) % 64)) 1 == 1) = false := by rw [bit_test y _ ly, hbt]; rfl
        have HT := Lib.hid hbt
        clear hbt
        go_wp2_with fail
        go_roundw
        case rel => exact ⟨k - 1, s0, s1, s2, s3, by omega, by go_num, hs.eq (by rw [exp_bit0 h0 (HB.out.trans HT.out)]), hmem.put s0 s1 s2 s3⟩
        case measure => simp [intOf]; omega
    · obtain rfl : k = 0 := by omega
      obtain ⟨hG, mA, mB, mR, mP, hB⟩ := hmem
      obtain ⟨x0, x1, x2, x3⟩ := mP.cells4
      obtain ⟨y0, y1, y2, y3⟩ := mR.cells4
      obtain ⟨f0, f1, f2, f3⟩ := mR.free4
      go_wp2_with fail
      refine bodyPost_ret (v := W4 q0 q1 q2 q3) (by simp [results, Try.results56, go_sem, y0, y1, y2, y3]) rfl ⟨q0, q1, q2, q3, rfl, hq.eq (by simp), ?_⟩
      exact below_put4 hB (by omega) _ _ _ _
end Go.Proofs.Ytihffojljbgpcaa
