/- The contracts of package word's shifts, bits and bytes. -/
import Derived.Test.YtgmpoefgcimaiaaSmall
import Derived.Test.YtgmpoefgcimaiaaShr
namespace Go.Proofs.Ytgmpoefgcimaiaa
open Go.RowKit

theorem isW0 : IsW 0 0 0 0 0 := by refine ⟨?_, ?_, ?_, ?_, ?_⟩ <;> (first | rfl | decide)
theorem div_big {a n : Nat} (h : Big a) : Big (a / n) := Nat.lt_of_le_of_lt (Nat.div_le_self _ _) h
set_option maxRecDepth 100000 in
set_option maxHeartbeats 3200000 in
theorem shl_c {n a : Nat} (hn : Big n) (ha : Big a) (w : World) : Calls Try.prog 31 #[W n, W a] w (RetW (if n < 256 then a * 2 ^ n % 115792089237316195423570985008687907853269984665640564039457584007913129639936 else 0) w) := by
  by_cases h : n < 256
  · rw [if_pos h]
    obtain ⟨R, hR⟩ : ∃ R, R = a * 2 ^ n % 115792089237316195423570985008687907853269984665640564039457584007913129639936 := ⟨_, rfl⟩
    rw [← hR]
    have bR : Big R := by rw [hR]; exact big_mod _
    have k1 : ∀ w, Calls Try.prog 52 #[.agg #[.int .u64 (lim 0 n : Nat), .int .u64 (lim 1 n : Nat), .int .u64 (lim 2 n : Nat), .int .u64 (lim 3 n : Nat)], .int .u64 256] w (RetV (.tuple #[.int .i64 (n : Nat), .bool true]) w) := fun w => below_t (e := 256) h (by omega) w
    have k2 : ∀ w, Calls Try.prog 53 #[.agg #[.int .u64 (lim 0 a : Nat), .int .u64 (lim 1 a : Nat), .int .u64 (lim 2 a : Nat), .int .u64 (lim 3 a : Nat)], .int .i64 (n : Nat)] w (RetW R w) := fun w => by rw [hR]; exact shiftLeft_c (isW_lim ha) n h w
    have K1 := Lib.hid k1
    have K2 := Lib.hid k2
    have BR := Lib.hid bR
    clear k1 k2 bR hR h hn ha
    go_enter Try.func31, Try.ntmps31
    go_upto_region 1 with (fail)
    obtain ⟨gA, gB, gR, gS, gW⟩ := start3 w 30 (lim 0 n) (lim 1 n) (lim 2 n) (lim 3 n) (lim 0 a) (lim 1 a) (lim 2 a) (lim 3 a) _ rfl
    generalize ((w.alloc (.cells #[.int .u64 (lim 0 n : Nat), .int .u64 (lim 1 n : Nat), .int .u64 (lim 2 n : Nat), .int .u64 (lim 3 n : Nat)] 30)).alloc (.cells #[.int .u64 (lim 0 a : Nat), .int .u64 (lim 1 a : Nat), .int .u64 (lim 2 a : Nat), .int .u64 (lim 3 a : Nat)] 30)).alloc (.cells #[.int .u64 0, .int .u64 0, .int .u64 0, .int .u64 0] 30) = X at *
    clear gS
    obtain ⟨x0, x1, x2, x3⟩ := gA.cells4
    go_wp2_with fail
    (with_reducible refine (K1.out _).mono ?_)
    rintro e w1 ⟨rfl, hb1⟩
    have gA := gA.below hb1 gA.lt
    have gB := gB.below hb1 gB.lt
    have gR := gR.below hb1 gR.lt
    have gW := gW.trans (hb1.mono gW.size)
    clear hb1
    clear x0 x1 x2 x3
    obtain ⟨x0, x1, x2, x3⟩ := gB.cells4
    go_wp2_with fail
    (with_reducible refine (K2.out _).mono ?_)
    rintro e w2 hw
    obtain ⟨rfl, hb1⟩ := hw.val
    have gR := gR.below hb1 gR.lt
    have gW := gW.trans (hb1.mono gW.size)
    clear hb1 hw
    clear x0 x1 x2 x3
    obtain ⟨y0, y1, y2, y3⟩ := gR.cells4
    obtain ⟨f0, f1, f2, f3⟩ := gR.free4
    go_wp2_with fail
    refine bodyPost_ret (v := W (R)) (by simp [results, Try.results31, go_sem, y0, y1, y2, y3]) rfl ⟨_, _, _, _, rfl, isW_lim (BR.out), ?_⟩
    repeat (first | exact gW | refine Below.setCell ?_ (by simp; try omega) _)
  · rw [if_neg h]
    have k1 : ∀ w, Calls Try.prog 52 #[.agg #[.int .u64 (lim 0 n : Nat), .int .u64 (lim 1 n : Nat), .int .u64 (lim 2 n : Nat), .int .u64 (lim 3 n : Nat)], .int .u64 256] w (RetV (.tuple #[.int .i64 0, .bool false]) w) := fun w => below_f (e := 256) hn (by omega) w
    have K1 := Lib.hid k1
    clear k1 h hn ha
    go_enter Try.func31, Try.ntmps31
    go_upto_region 1 with (fail)
    obtain ⟨gA, gB, gR, gS, gW⟩ := start3 w 30 (lim 0 n) (lim 1 n) (lim 2 n) (lim 3 n) (lim 0 a) (lim 1 a) (lim 2 a) (lim 3 a) _ rfl
    generalize ((w.alloc (.cells #[.int .u64 (lim 0 n : Nat), .int .u64 (lim 1 n : Nat), .int .u64 (lim 2 n : Nat), .int .u64 (lim 3 n : Nat)] 30)).alloc (.cells #[.int .u64 (lim 0 a : Nat), .int .u64 (lim 1 a : Nat), .int .u64 (lim 2 a : Nat), .int .u64 (lim 3 a : Nat)] 30)).alloc (.cells #[.int .u64 0, .int .u64 0, .int .u64 0, .int .u64 0] 30) = X at *
    clear gS
    obtain ⟨x0, x1, x2, x3⟩ := gA.cells4
    go_wp2_with fail
    (with_reducible refine (K1.out _).mono ?_)
    rintro e w1 ⟨rfl, hb1⟩
    have gA := gA.below hb1 gA.lt
    have gB := gB.below hb1 gB.lt
    have gR := gR.below hb1 gR.lt
    have gW := gW.trans (hb1.mono gW.size)
    clear hb1
    clear x0 x1 x2 x3
    obtain ⟨y0, y1, y2, y3⟩ := gR.cells4
    obtain ⟨f0, f1, f2, f3⟩ := gR.free4
    go_wp2_with fail
    refine bodyPost_ret (v := W4 0 0 0 0) (by simp [results, Try.results31, go_sem, y0, y1, y2, y3]) rfl ⟨0, 0, 0, 0, rfl, isW0, ?_⟩
    repeat (first | exact gW | refine Below.setCell ?_ (by simp; try omega) _)
/-- Shifts, and not, by numbers. -/
def shlv (n a : Nat) : Nat := if n < 256 then a * 2 ^ n % 115792089237316195423570985008687907853269984665640564039457584007913129639936 else 0
def shrv (n a : Nat) : Nat := if n < 256 then a / 2 ^ n else 0
def notv (a : Nat) : Nat := 115792089237316195423570985008687907853269984665640564039457584007913129639935 - a
theorem shlv_big (n a : Nat) : Big (shlv n a) := by unfold shlv; split; exact big_mod _; (unfold Big; omega)
theorem shrv_big (n : Nat) {a : Nat} (h : Big a) : Big (shrv n a) := by unfold shrv; split; exact div_big h; (unfold Big; omega)
theorem notv_big (a : Nat) : Big (notv a) := by unfold Big notv; omega
/-- Limb by limb. -/
def lw (g : Nat → Nat → Nat) (a b : Nat) : Nat := vl [g (lim 0 a) (lim 0 b), g (lim 1 a) (lim 1 b), g (lim 2 a) (lim 2 b), g (lim 3 a) (lim 3 b)]
theorem lw_isW {g : Nat → Nat → Nat} (h : ∀ x y, Lim x → Lim y → Lim (g x y)) (a b : Nat) : IsW (g (lim 0 a) (lim 0 b)) (g (lim 1 a) (lim 1 b)) (g (lim 2 a) (lim 2 b)) (g (lim 3 a) (lim 3 b)) (lw g a b) :=
  isW_val (Lims.four (h _ _ (lim_lt _ _) (lim_lt _ _)) (h _ _ (lim_lt _ _) (lim_lt _ _)) (h _ _ (lim_lt _ _) (lim_lt _ _)) (h _ _ (lim_lt _ _) (lim_lt _ _)))
theorem and_lim (x y : Nat) (_hx : Lim x) (hy : Lim y) : Lim (x &&& y) := Nat.and_lt_two_pow (n := 64) x hy
theorem and_bits {x y : Nat} (hx : Lim x) (hy : Lim y) : ∃ z : Nat, z = x &&& y ∧ bits .and .u64 (x : Int) (y : Int) = (z : Int) := ⟨_, rfl, bits_and_u64_nat _ _ hx hy⟩
theorem or_lim (x y : Nat) (_hx : Lim x) (hy : Lim y) : Lim (x ||| y) := Nat.or_lt_two_pow (n := 64) _hx hy
theorem or_bits {x y : Nat} (hx : Lim x) (hy : Lim y) : ∃ z : Nat, z = x ||| y ∧ bits .or .u64 (x : Int) (y : Int) = (z : Int) := ⟨_, rfl, bits_or_u64_nat _ _ hx hy⟩
set_option maxRecDepth 100000 in
set_option maxHeartbeats 3200000 in
theorem or_c {a b : Nat} (w : World) : Calls Try.prog 30 #[W a, W b] w (RetW (lw (fun x y => x ||| y) a b) w) := by
  have iR := lw_isW or_lim a b
  obtain ⟨z0, e0, q0⟩ := or_bits (lim_lt 0 a) (lim_lt 0 b)
  obtain ⟨z1, e1, q1⟩ := or_bits (lim_lt 1 a) (lim_lt 1 b)
  obtain ⟨z2, e2, q2⟩ := or_bits (lim_lt 2 a) (lim_lt 2 b)
  obtain ⟨z3, e3, q3⟩ := or_bits (lim_lt 3 a) (lim_lt 3 b)
  rw [← e0, ← e1, ← e2, ← e3] at iR
  have IR := Lib.hid iR
  clear iR e0 e1 e2 e3
  go_enter Try.func30, Try.ntmps30
  go_upto_region 1 with (fail)
  obtain ⟨gA, gB, gR, gS, gW⟩ := start3 w 30 (lim 0 a) (lim 1 a) (lim 2 a) (lim 3 a) (lim 0 b) (lim 1 b) (lim 2 b) (lim 3 b) _ rfl
  generalize ((w.alloc (.cells #[.int .u64 (lim 0 a : Nat), .int .u64 (lim 1 a : Nat), .int .u64 (lim 2 a : Nat), .int .u64 (lim 3 a : Nat)] 30)).alloc (.cells #[.int .u64 (lim 0 b : Nat), .int .u64 (lim 1 b : Nat), .int .u64 (lim 2 b : Nat), .int .u64 (lim 3 b : Nat)] 30)).alloc (.cells #[.int .u64 0, .int .u64 0, .int .u64 0, .int .u64 0] 30) = X at *
  clear gS
  obtain ⟨x0, x1, x2, x3⟩ := gA.cells4
  obtain ⟨v0, v1, v2, v3⟩ := gB.cells4
  obtain ⟨y0, y1, y2, y3⟩ := gR.cells4
  obtain ⟨f0, f1, f2, f3⟩ := gR.free4
  clear gA gB gR
  go_wp2_with fail
  refine bodyPost_ret (v := W4 z0 z1 z2 z3) (by simp [results, Try.results30, go_sem, y0, y1, y2, y3]) rfl ⟨z0, z1, z2, z3, rfl, IR.out, ?_⟩
  repeat (first | exact gW | refine Below.setCell ?_ (by simp; try omega) _)
theorem xor_lim (x y : Nat) (_hx : Lim x) (hy : Lim y) : Lim (x ^^^ y) := Nat.xor_lt_two_pow (n := 64) _hx hy
theorem xor_bits {x y : Nat} (hx : Lim x) (hy : Lim y) : ∃ z : Nat, z = x ^^^ y ∧ bits .xor .u64 (x : Int) (y : Int) = (z : Int) := ⟨_, rfl, bits_xor_u64_nat _ _ hx hy⟩
end Go.Proofs.Ytgmpoefgcimaiaa
