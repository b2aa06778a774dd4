/- The contracts of Byte in package word and in the reference. -/
import Derived.Test.YtihffojljbgpcaaArr32
import Derived.Test.YtihffojljbgpcaaRef7
import Derived.Deep.WholeRow
namespace Go.Proofs.Ytihffojljbgpcaa
open Go.RowKit

set_option maxRecDepth 100000 in
set_option maxHeartbeats 3200000 in
theorem byte_c {i a : Nat} (hi : Big i) (ha : Big a) (w : World) : Calls Try.prog 66 #[W i, W a] w (RetW (if i < 32 then a / 256 ^ (31 - i) % 256 else 0) w) := by
  by_cases h : i < 32
  · rw [if_pos h]
    obtain ⟨R, hR⟩ : ∃ R, R = a / 256 ^ (31 - i) % 256 := ⟨_, rfl⟩
    rw [← hR]
    have k1 : ∀ w, Calls Try.prog 121 #[.agg #[.int .u64 (lim 0 i : Nat), .int .u64 (lim 1 i : Nat), .int .u64 (lim 2 i : Nat), .int .u64 (lim 3 i : Nat)], .int .u64 32] w (RetV (.tuple #[.int .i64 (i : Nat), .bool true]) w) := fun w => below_t (e := 32) h (by omega) w
    obtain ⟨p, hp⟩ : ∃ p : Nat, 31 - (i : Int) = (p : Int) := ⟨31 - i, by omega⟩
    have hwp : IntKind.i64.wrap (31 - (i : Int)) = (p : Int) := by rw [IntWalk.i64_in _ (by omega)]; exact hp
    obtain ⟨q, hq⟩ : ∃ q, q = p / 8 := ⟨_, rfl⟩
    obtain ⟨r, hr⟩ : ∃ r, r = p % 8 := ⟨_, rfl⟩
    obtain ⟨s, hs⟩ : ∃ s, s = 8 * r := ⟨_, rfl⟩
    have e1 : (p : Int) / 8 = (q : Int) := by omega
    have e2 : (p : Int) % 8 = (r : Int) := by omega
    have e3 : (p : Int).tmod 8 = (r : Int) := by rw [Int.tmod_eq_emod_of_nonneg (by omega)]; omega
    have e3' : (p : Int).tdiv 8 = (q : Int) := by rw [Int.tdiv_eq_ediv_of_nonneg (by omega)]; omega
    have e4 : IntKind.i64.wrap ((r : Int) * 8) = (s : Int) := by rw [IntWalk.i64_in _ (by omega)]; omega
    have hq3 : (q : Int) ≤ 3 := by omega
    have hs63 : (s : Int) ≤ 63 := by omega
    have iW := isW_lim ha
    obtain ⟨x, ex⟩ : ∃ x, x = [lim 0 a, lim 1 a, lim 2 a, lim 3 a].getD q 0 := ⟨_, rfl⟩
    have lx : Lim x := by rw [ex]; exact iW.limsList.get q
    obtain ⟨y, ey⟩ : ∃ y, y = x / 2 ^ s := ⟨_, rfl⟩
    have ly : Lim y := by rw [ey]; exact Nat.lt_of_le_of_lt (Nat.div_le_self _ _) lx
    have hbyte : y % 256 = R := by
      rw [hR, ey, ex, hs, byte_of_limb iW.limsList q r (by omega), ← iW.vals, show 8 * q + r = 31 - i by omega]
    have vy : (x : Int) / 2 ^ s = (y : Int) := by rw [ey]; simp
    have vb : bits .and .u64 (y : Int) 255 = (R : Int) := by
      have h1 := bits_and_u64_nat y 255 ly (by omega)
      rw [show y &&& 255 = y % 256 from Nat.and_two_pow_sub_one_eq_mod y 8, hbyte] at h1
      exact h1
    have lR : R < 256 := by rw [← hbyte]; exact Nat.mod_lt _ (by omega)
    have k2 : ∀ w, Calls Try.prog 29 #[.int .u64 (R : Nat)] w (RetW R w) := fun w => of_c R (by unfold Lim; omega) w
    have bR : Big R := by unfold Big; omega
    have K1 := Lib.hid k1
    have K2 := Lib.hid k2
    have BR := Lib.hid bR
    have EX := Lib.hid ex
    clear k1 k2 bR hR h hi ha iW hbyte lx ly ey hs hq hr hp ex lR
    go_enter Try.func66, Try.ntmps66
    go_upto_region 1 with (fail)
    obtain ⟨gA, gB, gR, gS, gW⟩ := start3 w 24 (lim 0 i) (lim 1 i) (lim 2 i) (lim 3 i) (lim 0 a) (lim 1 a) (lim 2 a) (lim 3 a) _ rfl
    generalize ((w.alloc (.cells #[.int .u64 (lim 0 i : Nat), .int .u64 (lim 1 i : Nat), .int .u64 (lim 2 i : Nat), .int .u64 (lim 3 i : Nat)] 24)).alloc (.cells #[.int .u64 (lim 0 a : Nat), .int .u64 (lim 1 a : Nat), .int .u64 (lim 2 a : Nat), .int .u64 (lim 3 a : Nat)] 24)).alloc (.cells #[.int .u64 0, .int .u64 0, .int .u64 0, .int .u64 0] 24) = X at *
    clear gS
    obtain ⟨x0, x1, x2, x3⟩ := gA.cells4
    go_wp2_with fail
    (with_reducible refine (K1.out _).mono ?_)
    rintro e w1 ⟨rfl, hb1⟩
    have gA := gA.below hb1 gA.lt
    have gB := gB.below hb1 gB.lt
    have gR := gR.below hb1 gR.lt
    have gW := gW.trans (hb1.mono gW.size)
    clear hb1
    clear x0 x1 x2 x3
    have cx := gB.cell q (by simp; omega)
    rw [← EX.out] at cx
    go_wp2_with fail
    (with_reducible refine (K2.out _).mono ?_)
    rintro e w2 hw
    obtain ⟨rfl, hb1⟩ := hw.val
    have gR := gR.below hb1 gR.lt
    have gW := gW.trans (hb1.mono gW.size)
    clear hb1 hw
    clear cx
    obtain ⟨y0, y1, y2, y3⟩ := gR.cells4
    obtain ⟨f0, f1, f2, f3⟩ := gR.free4
    go_wp2_with fail
    refine bodyPost_ret (v := W (R)) (by simp [results, Try.results66, go_sem, y0, y1, y2, y3]) rfl ⟨_, _, _, _, rfl, isW_lim (BR.out), ?_⟩
    repeat (first | exact gW | refine Below.setCell ?_ (by simp; try omega) _)
  · rw [if_neg h]
    have k1 : ∀ w, Calls Try.prog 121 #[.agg #[.int .u64 (lim 0 i : Nat), .int .u64 (lim 1 i : Nat), .int .u64 (lim 2 i : Nat), .int .u64 (lim 3 i : Nat)], .int .u64 32] w (RetV (.tuple #[.int .i64 0, .bool false]) w) := fun w => below_f (e := 32) hi (by omega) w
    have K1 := Lib.hid k1
    clear k1 h hi ha
    go_enter Try.func66, Try.ntmps66
    go_upto_region 1 with (fail)
    obtain ⟨gA, gB, gR, gS, gW⟩ := start3 w 24 (lim 0 i) (lim 1 i) (lim 2 i) (lim 3 i) (lim 0 a) (lim 1 a) (lim 2 a) (lim 3 a) _ rfl
    generalize ((w.alloc (.cells #[.int .u64 (lim 0 i : Nat), .int .u64 (lim 1 i : Nat), .int .u64 (lim 2 i : Nat), .int .u64 (lim 3 i : Nat)] 24)).alloc (.cells #[.int .u64 (lim 0 a : Nat), .int .u64 (lim 1 a : Nat), .int .u64 (lim 2 a : Nat), .int .u64 (lim 3 a : Nat)] 24)).alloc (.cells #[.int .u64 0, .int .u64 0, .int .u64 0, .int .u64 0] 24) = X at *
    clear gS
    obtain ⟨x0, x1, x2, x3⟩ := gA.cells4
    go_wp2_with fail
    (with_reducible refine (K1.out _).mono ?_)
    rintro e w1 ⟨rfl, hb1⟩
    have gA := gA.below hb1 gA.lt
    have gB := gB.below hb1 gB.lt
    have gR := gR.below hb1 gR.lt
    have gW := gW.trans (hb1.mono gW.size)
    clear hb1
    clear x0 x1 x2 x3
    obtain ⟨y0, y1, y2, y3⟩ := gR.cells4
    obtain ⟨f0, f1, f2, f3⟩ := gR.free4
    go_wp2_with fail
    refine bodyPost_ret (v := W4 0 0 0 0) (by simp [results, Try.results66, go_sem, y0, y1, y2, y3]) rfl ⟨0, 0, 0, 0, rfl, isW0, ?_⟩
    repeat (first | exact gW | refine Below.setCell ?_ (by simp; try omega) _)
set_option maxRecDepth 100000 in
set_option maxHeartbeats 3200000 in
theorem of1_c (n : Nat) (hn : Lim n) (w : World) : Calls Try.prog 30 #[.int .u64 n] w (RetW n w) := by
  go_enter Try.func30, Try.ntmps30
  go_wp2_with fail
  refine bodyPost_ret (v := W4 n 0 0 0) (by simp [results, Try.results30, go_sem]) rfl ⟨n, 0, 0, 0, rfl, isW_small hn, ?_⟩
  repeat (first | exact Below.refl _ _ | refine Below.setCell ?_ (by simp; try omega) _ | refine Below.alloc ?_ (by simp; try omega) _)
set_option maxRecDepth 100000 in
set_option maxHeartbeats 3200000 in
theorem byte1_c {i a : Nat} (hi : Big i) (ha : Big a) (w : World) : Calls Try.prog 67 #[W i, W a] w (RetW (if i < 32 then a / 256 ^ (31 - i) % 256 else 0) w) := by
  by_cases h : i < 32
  · rw [if_pos h]
    obtain ⟨R, hR⟩ : ∃ R, R = a / 256 ^ (31 - i) % 256 := ⟨_, rfl⟩
    rw [← hR]
    have k1 : ∀ w, Calls Try.prog 22 #[.agg #[.int .u64 (lim 0 i : Nat), .int .u64 (lim 1 i : Nat), .int .u64 (lim 2 i : Nat), .int .u64 (lim 3 i : Nat)]] w (RetV (.tuple #[.int .u64 (i : Nat), .bool true]) w) := fun w => small1_t (by omega) w
    have k2 : ∀ w, Calls Try.prog 24 #[.agg #[.int .u64 (lim 0 a : Nat), .int .u64 (lim 1 a : Nat), .int .u64 (lim 2 a : Nat), .int .u64 (lim 3 a : Nat)]] w (RetV (BV (bytes32 a)) w) := fun w => bytes1_c ha w
    have lR : R < 256 := by rw [hR]; exact Nat.mod_lt _ (by omega)
    have k3 : ∀ w, Calls Try.prog 30 #[.int .u64 (R : Nat)] w (RetW R w) := fun w => of1_c R (by unfold Lim; omega) w
    have gx : (bytes32 a).getD i 0 = R := by rw [bytes32_get a h, hR]
    have hg : ¬ (32 ≤ (i : Int)) := by omega
    have hlt : (i : Int) < 32 := by omega
    have vR : IntKind.u64.wrap (R : Int) = (R : Int) := by rw [wrapU, Nat.mod_eq_of_lt (by omega)]
    have bR : Big R := by unfold Big; omega
    have K1 := Lib.hid k1
    have K2 := Lib.hid k2
    have K3 := Lib.hid k3
    have BR := Lib.hid bR
    have GX := Lib.hid gx
    clear k1 k2 k3 bR hR h hi ha gx lR
    go_enter Try.func67, Try.ntmps67
    go_upto_region 1 with (fail)
    obtain ⟨gA, gB, gR, gS, gW⟩ := start3 w 24 (lim 0 i) (lim 1 i) (lim 2 i) (lim 3 i) (lim 0 a) (lim 1 a) (lim 2 a) (lim 3 a) _ rfl
    generalize ((w.alloc (.cells #[.int .u64 (lim 0 i : Nat), .int .u64 (lim 1 i : Nat), .int .u64 (lim 2 i : Nat), .int .u64 (lim 3 i : Nat)] 24)).alloc (.cells #[.int .u64 (lim 0 a : Nat), .int .u64 (lim 1 a : Nat), .int .u64 (lim 2 a : Nat), .int .u64 (lim 3 a : Nat)] 24)).alloc (.cells #[.int .u64 0, .int .u64 0, .int .u64 0, .int .u64 0] 24) = X at *
    clear gS
    obtain ⟨x0, x1, x2, x3⟩ := gA.cells4
    go_wp2_with fail
    (with_reducible refine (K1.out _).mono ?_)
    rintro e w1 ⟨rfl, hb1⟩
    have gA := gA.below hb1 gA.lt
    have gB := gB.below hb1 gB.lt
    have gR := gR.below hb1 gR.lt
    have gW := gW.trans (hb1.mono gW.size)
    clear hb1
    clear x0 x1 x2 x3
    obtain ⟨x0, x1, x2, x3⟩ := gB.cells4
    go_wp2_with fail
    rename_i KK hKK
    (with_reducible refine (K2.out _).mono ?_)
    rintro e w2 ⟨rfl, hb1⟩
    have gR := gR.below hb1 gR.lt
    have gB := gB.below hb1 gB.lt
    have gW := gW.trans (hb1.mono gW.size)
    clear hb1 x0 x1 x2 x3
    refine hKK _ _ ?_
    refine wpList_plain rfl fun K hK => ?_
    go_simp
    refine hK _ _ ?_
    have hn : Row .u8 (w2.alloc (.cells (Cs8 (List.replicate 32 0)) 33)) w2.heap.size 33 (List.replicate 32 0) := Row.new (k := .u8) w2 33 (List.replicate 32 0)
    have hlt2 := gR.lt
    have gR := gR.alloc (.cells (Cs8 (List.replicate 32 0)) 33)
    have gW := gW.alloc gW.size (.cells (Cs8 (List.replicate 32 0)) 33)
    refine wpList_store_row rfl 33 (.tmp 7) (.tmp 21) rfl w2.heap.size (Cs8 (bytes32 a)) rfl rfl 33 _ hn (info33' (bytes32_len a)) (by rw [cs8_size, cs8_size, bytes32_len]; simp) (cs8_one _) ?_
    refine wpList_nil ?_
    have hrow := hn.toSet (bytes32 a)
    have gR : Arr ((w2.alloc (.cells (Cs8 (List.replicate 32 0)) 33)).setRow w2.heap.size (Cs8 (bytes32 a))) (w.heap.size + 1 + 1) 24 [0, 0, 0, 0] := (setRow_other _ _ _ _ (by omega)).trans gR
    have gW := below_setRow gW (show w.heap.size ≤ w2.heap.size by omega) (Cs8 (bytes32 a))
    obtain ⟨Y, hY⟩ : ∃ Y, Y = (w2.alloc (.cells (Cs8 (List.replicate 32 0)) 33)).setRow w2.heap.size (Cs8 (bytes32 a)) := ⟨_, rfl⟩
    change Exit.then _ _ _ _ ((w2.alloc (.cells (Cs8 (List.replicate 32 0)) 33)).setRow w2.heap.size (Cs8 (bytes32 a)))
    rw [← hY] at hrow gR gW ⊢
    have cx := hrow.cell i (by rw [bytes32_len]; omega)
    rw [GX.out] at cx
    clear hY hn hrow hlt2 gA gB hKK KK
    go_wp2_with fail
    (with_reducible refine (K3.out _).mono ?_)
    rintro e w3 hw
    obtain ⟨rfl, hb1⟩ := hw.val
    have gR := gR.below hb1 gR.lt
    have gW := gW.trans (hb1.mono gW.size)
    clear hb1 hw
    clear cx
    obtain ⟨y0, y1, y2, y3⟩ := gR.cells4
    obtain ⟨f0, f1, f2, f3⟩ := gR.free4
    go_wp2_with fail
    refine bodyPost_ret (v := W (R)) (by simp [results, Try.results67, go_sem, y0, y1, y2, y3]) rfl ⟨_, _, _, _, rfl, isW_lim (BR.out), ?_⟩
    repeat (first | exact gW | refine Below.setCell ?_ (by simp; try omega) _)
  · rw [if_neg h]
    by_cases h6 : i < 18446744073709551616
    · have k1 : ∀ w, Calls Try.prog 22 #[.agg #[.int .u64 (lim 0 i : Nat), .int .u64 (lim 1 i : Nat), .int .u64 (lim 2 i : Nat), .int .u64 (lim 3 i : Nat)]] w (RetV (.tuple #[.int .u64 (i : Nat), .bool true]) w) := fun w => small1_t h6 w
      have hg : 32 ≤ (i : Int) := by omega
      have K1 := Lib.hid k1
      clear k1 h h6 hi ha
      go_enter Try.func67, Try.ntmps67
      go_upto_region 1 with (fail)
      obtain ⟨gA, gB, gR, gS, gW⟩ := start3 w 24 (lim 0 i) (lim 1 i) (lim 2 i) (lim 3 i) (lim 0 a) (lim 1 a) (lim 2 a) (lim 3 a) _ rfl
      generalize ((w.alloc (.cells #[.int .u64 (lim 0 i : Nat), .int .u64 (lim 1 i : Nat), .int .u64 (lim 2 i : Nat), .int .u64 (lim 3 i : Nat)] 24)).alloc (.cells #[.int .u64 (lim 0 a : Nat), .int .u64 (lim 1 a : Nat), .int .u64 (lim 2 a : Nat), .int .u64 (lim 3 a : Nat)] 24)).alloc (.cells #[.int .u64 0, .int .u64 0, .int .u64 0, .int .u64 0] 24) = X at *
      clear gS
      obtain ⟨x0, x1, x2, x3⟩ := gA.cells4
      go_wp2_with fail
      (with_reducible refine (K1.out _).mono ?_)
      rintro e w1 ⟨rfl, hb1⟩
      have gA := gA.below hb1 gA.lt
      have gB := gB.below hb1 gB.lt
      have gR := gR.below hb1 gR.lt
      have gW := gW.trans (hb1.mono gW.size)
      clear hb1
      clear x0 x1 x2 x3
      obtain ⟨y0, y1, y2, y3⟩ := gR.cells4
      obtain ⟨f0, f1, f2, f3⟩ := gR.free4
      go_wp2_with fail
      refine bodyPost_ret (v := W4 0 0 0 0) (by simp [results, Try.results67, go_sem, y0, y1, y2, y3]) rfl ⟨0, 0, 0, 0, rfl, isW0, ?_⟩
      repeat (first | exact gW | refine Below.setCell ?_ (by simp; try omega) _)
    · have k1 : ∀ w, Calls Try.prog 22 #[.agg #[.int .u64 (lim 0 i : Nat), .int .u64 (lim 1 i : Nat), .int .u64 (lim 2 i : Nat), .int .u64 (lim 3 i : Nat)]] w (RetV (.tuple #[.int .u64 0, .bool false]) w) := fun w => small1_f hi (by omega) w
      have K1 := Lib.hid k1
      clear k1 h h6 hi ha
      go_enter Try.func67, Try.ntmps67
      go_upto_region 1 with (fail)
      obtain ⟨gA, gB, gR, gS, gW⟩ := start3 w 24 (lim 0 i) (lim 1 i) (lim 2 i) (lim 3 i) (lim 0 a) (lim 1 a) (lim 2 a) (lim 3 a) _ rfl
      generalize ((w.alloc (.cells #[.int .u64 (lim 0 i : Nat), .int .u64 (lim 1 i : Nat), .int .u64 (lim 2 i : Nat), .int .u64 (lim 3 i : Nat)] 24)).alloc (.cells #[.int .u64 (lim 0 a : Nat), .int .u64 (lim 1 a : Nat), .int .u64 (lim 2 a : Nat), .int .u64 (lim 3 a : Nat)] 24)).alloc (.cells #[.int .u64 0, .int .u64 0, .int .u64 0, .int .u64 0] 24) = X at *
      clear gS
      obtain ⟨x0, x1, x2, x3⟩ := gA.cells4
      go_wp2_with fail
      (with_reducible refine (K1.out _).mono ?_)
      rintro e w1 ⟨rfl, hb1⟩
      have gA := gA.below hb1 gA.lt
      have gB := gB.below hb1 gB.lt
      have gR := gR.below hb1 gR.lt
      have gW := gW.trans (hb1.mono gW.size)
      clear hb1
      clear x0 x1 x2 x3
      obtain ⟨y0, y1, y2, y3⟩ := gR.cells4
      obtain ⟨f0, f1, f2, f3⟩ := gR.free4
      go_wp2_with fail
      refine bodyPost_ret (v := W4 0 0 0 0) (by simp [results, Try.results67, go_sem, y0, y1, y2, y3]) rfl ⟨0, 0, 0, 0, rfl, isW0, ?_⟩
      repeat (first | exact gW | refine Below.setCell ?_ (by simp; try omega) _)
end Go.Proofs.Ytihffojljbgpcaa
