/- The law WordBack, by the contracts of its callees. -/
import Derived.Test.YtihffojljbgpcaaShort
import Derived.Test.YtihffojljbgpcaaSext
import Derived.Test.YtihffojljbgpcaaWakes
import Derived.Test.YtihffojljbgpcaaFacts
import Derived.Test.YtihffojljbgpcaaOps3
namespace Go.Proofs.Ytihffojljbgpcaa
open Go.RowKit

/-- A pointer to a block of 32 zeros, from block B on. -/
def PRow (B : Nat) (v : Value) (w : World) : Prop := ∃ g, v = .pointer (some ⟨g, 0, none⟩) ∧ B ≤ g ∧ Row .u8 w g 33 (List.replicate 32 0)
def Fact.prow (B : Nat) : Fact := ⟨fun v w => PRow B v w, fun _ _ _ hb ⟨g, e, h, k⟩ => ⟨g, e, h, k.below hb k.lt⟩⟩
theorem shl_byte {a k i : Nat} (_ha : Big a) (hk : k < 32) (hi : i < 32) : (bytes32 (shlv (8 * k) a)).getD i 0 = if i + k < 32 then (bytes32 a).getD (i + k) 0 else 0 := by
  rw [bytes32_get _ hi]
  unfold shlv
  rw [if_pos (by omega)]
  have hM : (115792089237316195423570985008687907853269984665640564039457584007913129639936 : Nat) = 256 ^ 32 := by decide
  rw [show (2 : Nat) ^ (8 * k) = 256 ^ k from (p256 k).symm, hM]
  by_cases h : i + k < 32
  · rw [if_pos h, bytes32_get _ h]
    have e1 : a * 256 ^ k % 256 ^ 32 = 256 ^ k * (a % 256 ^ (32 - k)) := by
      rw [show (256 : Nat) ^ 32 = 256 ^ k * 256 ^ (32 - k) by rw [← Nat.pow_add, show k + (32 - k) = 32 by omega], Nat.mul_comm a, Nat.mul_mod_mul_left]
    rw [e1, show 31 - i = k + (31 - (i + k)) by omega, Nat.pow_add, Nat.mul_div_mul_left _ _ (Nat.pow_pos (by omega))]
    rw [show 32 - k = (31 - (i + k)) + (i + 1) by omega, Nat.pow_add, Nat.mod_mul_right_div_self]
    rw [Nat.pow_succ, Nat.mul_comm, Nat.mod_mul_right_mod]
  · rw [if_neg h]
    have e1 : a * 256 ^ k % 256 ^ 32 = 256 ^ k * (a % 256 ^ (32 - k)) := by
      rw [show (256 : Nat) ^ 32 = 256 ^ k * 256 ^ (32 - k) by rw [← Nat.pow_add, show k + (32 - k) = 32 by omega], Nat.mul_comm a, Nat.mul_mod_mul_left]
    rw [e1, show 256 ^ k = 256 ^ (31 - i) * 256 ^ (k - (31 - i)) by rw [← Nat.pow_add, show 31 - i + (k - (31 - i)) = k by omega], Nat.mul_assoc, Nat.mul_div_cancel_left _ (Nat.pow_pos (by omega))]
    rw [show k - (31 - i) = (k - (31 - i) - 1) + 1 by omega, Nat.pow_succ, Nat.mul_assoc, Nat.mul_left_comm, Nat.mul_mod_right]
theorem shr_byte {a k i : Nat} (ha : Big a) (hk : k < 32) (hi : i < 32) : (bytes32 (shrv (8 * k) a)).getD i 0 = if k ≤ i then (bytes32 a).getD (i - k) 0 else 0 := by
  rw [bytes32_get _ hi]
  unfold shrv
  rw [if_pos (by omega), show (2 : Nat) ^ (8 * k) = 256 ^ k from (p256 k).symm, Nat.div_div_eq_div_mul, ← Nat.pow_add]
  by_cases h : k ≤ i
  · rw [if_pos h, bytes32_get _ (by omega), show k + (31 - i) = 31 - (i - k) by omega]
  · rw [if_neg h, Nat.div_eq_of_lt]
    refine Nat.lt_of_lt_of_le (show a < 256 ^ 32 from ha) (Nat.pow_le_pow_right (by omega) (by omega))
theorem short_top {a : Nat} (h : Big a) (hl : 0 < (shortv a).length) : (shortv a).getD 0 0 ≠ 0 := by
  have hc := (shortv_can h).2.2
  rw [List.length_reverse] at hc
  have := hc hl
  rwa [rev_get _ _ (by omega), show (shortv a).length - 1 - ((shortv a).length - 1) = 0 by omega] at this
set_option maxRecDepth 100000 in
set_option maxHeartbeats 3200000 in
theorem back_c {a : Nat} (ha : Big a) (n : Int) (hn0 : -9223372036854775808 ≤ n) (hn1 : n < 9223372036854775808) (w : World) : Calls Try.prog 9 #[W a, .int .i64 n] w (RetV (.bool true) w) := by
  have gA := Arr.new4 w 24 (lim 0 a) (lim 1 a) (lim 2 a) (lim 3 a)
  have gW := (Below.refl w.heap.size w).alloc (Nat.le_refl _) (.cells #[.int .u64 (lim 0 a : Nat), .int .u64 (lim 1 a : Nat), .int .u64 (lim 2 a : Nat), .int .u64 (lim 3 a : Nat)] 24)
  have k1 : ∀ w, Calls Try.prog 23 #[.agg #[.int .u64 (lim 0 a : Nat), .int .u64 (lim 1 a : Nat), .int .u64 (lim 2 a : Nat), .int .u64 (lim 3 a : Nat)]] w (RetV (BV (bytes32 a)) w) := fun w => bytes_c ha w
  have k2 : ∀ w, Calls Try.prog 27 #[.agg #[.int .u64 (lim 0 a : Nat), .int .u64 (lim 1 a : Nat), .int .u64 (lim 2 a : Nat), .int .u64 (lim 3 a : Nat)]] w (RetBits a w) := fun w => bits_c (isW_lim ha) w
  have k3 : ∀ w, Calls Try.prog 25 #[.agg #[.int .u64 (lim 0 a : Nat), .int .u64 (lim 1 a : Nat), .int .u64 (lim 2 a : Nat), .int .u64 (lim 3 a : Nat)]] w (RetR (fun w' v => Byt w' v (shortv a)) w) := fun w => short_c ha w
  have K1 := Lib.hid k1
  have K2 := Lib.hid k2
  have K3 := Lib.hid k3
  have HA := Lib.hid ha
  clear k1 k2 k3 ha
  go_enter Try.func9, Try.ntmps9
  go_upto_region 1 with (fail)
  generalize w.alloc (.cells #[.int .u64 (lim 0 a : Nat), .int .u64 (lim 1 a : Nat), .int .u64 (lim 2 a : Nat), .int .u64 (lim 3 a : Nat)] 24) = X at *
  obtain ⟨x0, x1, x2, x3⟩ := gA.cells4
  go_wp2_with fail
  rename_i KK hKK
  (with_reducible refine (K1.out _).mono ?_)
  rintro e w2 ⟨rfl, hb1⟩
  have gA := gA.below hb1 gA.lt
  have gW := gW.trans (hb1.mono gW.size)
  clear hb1 x0 x1 x2 x3 K1
  refine hKK _ _ ?_
  refine wpList_plain rfl fun K hK => ?_
  go_simp
  refine hK _ _ ?_
  clear hK K
  have hn : Row .u8 (w2.alloc (.cells (Cs8 (List.replicate 32 0)) 33)) w2.heap.size 33 (List.replicate 32 0) := Row.new (k := .u8) w2 33 (List.replicate 32 0)
  have hlt2 := gA.lt
  have gA := gA.alloc (.cells (Cs8 (List.replicate 32 0)) 33)
  have gW := gW.alloc gW.size (.cells (Cs8 (List.replicate 32 0)) 33)
  refine wpList_store_row rfl 33 (.tmp 5) (.tmp 18) rfl w2.heap.size (Cs8 (bytes32 a)) rfl rfl 33 _ hn (info33' (bytes32_len a)) (by rw [cs8_size, cs8_size, bytes32_len]; simp) (cs8_one _) ?_
  refine wpList_nil ?_
  have hrow := hn.toSet (bytes32 a)
  have gA2 : Arr ((w2.alloc (.cells (Cs8 (List.replicate 32 0)) 33)).setRow w2.heap.size (Cs8 (bytes32 a))) w.heap.size 24 [lim 0 a, lim 1 a, lim 2 a, lim 3 a] := (setRow_other _ _ _ _ (by omega)).trans gA
  have gW2 := below_setRow gW (show w.heap.size ≤ w2.heap.size by omega) (Cs8 (bytes32 a))
  obtain ⟨Y, hY⟩ : ∃ Y, Y = (w2.alloc (.cells (Cs8 (List.replicate 32 0)) 33)).setRow w2.heap.size (Cs8 (bytes32 a)) := ⟨_, rfl⟩
  change Exit.then _ _ _ _ ((w2.alloc (.cells (Cs8 (List.replicate 32 0)) 33)).setRow w2.heap.size (Cs8 (bytes32 a)))
  rw [← hY] at hrow gA2 gW2 ⊢
  clear gA gW hn hY
  generalize w2.heap.size = G at *
  have H5 := Lib.hid hrow
  have gA := Lib.hid gA2
  have gW := Lib.hid gW2
  have g2lt : w.heap.size < G := hlt2
  clear hrow gA2 gW2 hKK KK hlt2
  have hsl := slice33 G
  have hF := from_t Y (A := some ⟨G, 0, none⟩) (c := 32) (by have h := H5.out.rd0; rwa [bytes32_len] at h) (bytes32_ds a) (by rw [bytes32_len]; omega)
  rw [bytes32_len, bytes32_dv HA.out] at hF
  have HF := Lib.hid hF
  clear hF
  go_wp2_with fail
  (with_reducible refine HF.out.mono ?_)
  rintro e w3 ⟨rfl, hb1⟩
  have H5 := Lib.hid (H5.out.below hb1 H5.out.lt)
  have gA := Lib.hid (gA.out.below hb1 gA.out.lt)
  have gW := Lib.hid (gW.out.trans (hb1.mono gW.out.size))
  clear hb1 HF hsl
  go_upto_region 3 with (fail)
  have H6 := Lib.hid (Arr.new4 w3 24 (lim 0 a) (lim 1 a) (lim 2 a) (lim 3 a))
  have H5 := Lib.hid (H5.out.alloc (.cells #[.int .u64 (lim 0 a : Nat), .int .u64 (lim 1 a : Nat), .int .u64 (lim 2 a : Nat), .int .u64 (lim 3 a : Nat)] 24))
  have gA := Lib.hid (gA.out.alloc (.cells #[.int .u64 (lim 0 a : Nat), .int .u64 (lim 1 a : Nat), .int .u64 (lim 2 a : Nat), .int .u64 (lim 3 a : Nat)] 24))
  have gW := Lib.hid (gW.out.alloc gW.out.size (.cells #[.int .u64 (lim 0 a : Nat), .int .u64 (lim 1 a : Nat), .int .u64 (lim 2 a : Nat), .int .u64 (lim 3 a : Nat)] 24))
  generalize w3.alloc (.cells #[.int .u64 (lim 0 a : Nat), .int .u64 (lim 1 a : Nat), .int .u64 (lim 2 a : Nat), .int .u64 (lim 3 a : Nat)] 24) = V at *
  generalize w3.heap.size = G6 at *
  obtain ⟨x0, x1, x2, x3⟩ := gA.out.cells4
  go_wp2_with fail
  (with_reducible refine (K3.out _).mono ?_)
  rintro e w4 ⟨v8, rfl, hby, hb1⟩
  have H5 := Lib.hid (H5.out.below hb1 H5.out.lt)
  have H6 := Lib.hid (H6.out.below hb1 H6.out.lt)
  have gA := Lib.hid (gA.out.below hb1 gA.out.lt)
  have gW := Lib.hid (gW.out.trans (hb1.mono gW.out.size))
  obtain ⟨A, c, rfl, hrd, hds⟩ := hby
  clear hb1 x0 x1 x2 x3 K3
  obtain ⟨sl, hsl⟩ : ∃ sl, sl = (shortv a).length := ⟨_, rfl⟩
  have hF := from_t w4 hrd hds (by rw [shortv_len HA.out]; exact short_k HA.out)
  rw [shortv_dv HA.out, ← hsl] at hF
  have HF := Lib.hid hF
  have HRD := Lib.hid hrd
  have HSL := Lib.hid hsl
  rw [← hsl]
  clear hF hrd hds hsl
  go_wp2_with fail
  (with_reducible refine HF.out.mono ?_)
  rintro e w5 ⟨rfl, hb1⟩
  have H5 := Lib.hid (H5.out.below hb1 H5.out.lt)
  have H6 := Lib.hid (H6.out.below hb1 H6.out.lt)
  have gA := Lib.hid (gA.out.below hb1 gA.out.lt)
  have gW := Lib.hid (gW.out.trans (hb1.mono gW.out.size))
  have HRD := Lib.hid (HRD.out.below hb1)
  clear hb1 HF
  go_upto_region 5 with (fail)
  have H9 := Lib.hid (Arr.new4 w5 24 (lim 0 a) (lim 1 a) (lim 2 a) (lim 3 a))
  have H5 := Lib.hid (H5.out.alloc (.cells #[.int .u64 (lim 0 a : Nat), .int .u64 (lim 1 a : Nat), .int .u64 (lim 2 a : Nat), .int .u64 (lim 3 a : Nat)] 24))
  have H6 := Lib.hid (H6.out.alloc (.cells #[.int .u64 (lim 0 a : Nat), .int .u64 (lim 1 a : Nat), .int .u64 (lim 2 a : Nat), .int .u64 (lim 3 a : Nat)] 24))
  have gA := Lib.hid (gA.out.alloc (.cells #[.int .u64 (lim 0 a : Nat), .int .u64 (lim 1 a : Nat), .int .u64 (lim 2 a : Nat), .int .u64 (lim 3 a : Nat)] 24))
  have gW := Lib.hid (gW.out.alloc gW.out.size (.cells #[.int .u64 (lim 0 a : Nat), .int .u64 (lim 1 a : Nat), .int .u64 (lim 2 a : Nat), .int .u64 (lim 3 a : Nat)] 24))
  have HRD := Lib.hid (HRD.out.alloc (.cells #[.int .u64 (lim 0 a : Nat), .int .u64 (lim 1 a : Nat), .int .u64 (lim 2 a : Nat), .int .u64 (lim 3 a : Nat)] 24))
  generalize w5.alloc (.cells #[.int .u64 (lim 0 a : Nat), .int .u64 (lim 1 a : Nat), .int .u64 (lim 2 a : Nat), .int .u64 (lim 3 a : Nat)] 24) = U at *
  generalize w5.heap.size = G9 at *
  obtain ⟨x0, x1, x2, x3⟩ := gA.out.cells4
  obtain ⟨y0, y1, y2, y3⟩ := H6.out.cells4
  obtain ⟨z0, z1, z2, z3⟩ := H9.out.cells4
  have q := eqIn_same (lim 0 a) (lim 1 a) (lim 2 a) (lim 3 a)
  have hs32 : ¬ (32 < (sl : Int)) := by have := HSL.out; rw [shortv_len HA.out] at this; have := short_k HA.out; omega
  rcases Nat.eq_zero_or_pos sl with h0 | h0
  · have hs0 : ¬ (0 < (sl : Int)) := by omega
    have HS0 := Lib.hid h0
    clear h0
    go_wp2_with fail
    (with_reducible refine (K2.out _).mono ?_)
    rintro e w6 ⟨nb, rfl, hbits, hb1⟩
    have hnb := bits_blen hbits
    subst hnb
    have hk := short_k HA.out
    have hsl := HSL.out
    rw [shortv_len HA.out] at hsl
    obtain ⟨bl, hbl⟩ : ∃ bl, bl = blen a := ⟨_, rfl⟩
    have hb256 : bl ≤ 256 := by rw [hbl]; exact blen_big HA.out
    rw [← hbl] at hsl ⊢
    have e1 : ((bl : Int) + 7) / 8 = (sl : Int) := by omega
    have e2 : ((bl : Int) + 7).tdiv 8 = (sl : Int) := by rw [Int.tdiv_eq_ediv_of_nonneg (by omega)]; omega
    have H5 := Lib.hid (H5.out.below hb1 H5.out.lt)
    have gA := Lib.hid (gA.out.below hb1 gA.out.lt)
    have gW := Lib.hid (gW.out.trans (hb1.mono gW.out.size))
    clear hbits hb1 hk hbl hsl x0 x1 x2 x3 y0 y1 y2 y3 z0 z1 z2 z3 K2
    go_upto_region 7 with (fail)
    obtain ⟨r, hr⟩ : ∃ r : Int, n.tmod 32 = r := ⟨_, rfl⟩
    have hr1 : -32 < r ∧ r < 32 := by
      rw [← hr]
      rcases Int.le_total 0 n with h | h
      · rw [Int.tmod_eq_emod_of_nonneg h]; omega
      · have e : n = -(-n) := by omega
        rw [e, Int.neg_tmod, Int.tmod_eq_emod_of_nonneg (by omega)]; omega
    obtain ⟨hr2, hr3⟩ := hr1
    obtain ⟨t, ht⟩ : ∃ t : Nat, r + 32 = (t : Int) := ⟨(r + 32).toNat, by omega⟩
    have e3 : IntKind.i64.wrap (r + 32) = (t : Int) := by rw [IntWalk.i64_in _ (by omega)]; exact ht
    obtain ⟨k, hk⟩ : ∃ k, k = t % 32 := ⟨_, rfl⟩
    have e4 : (t : Int) % 32 = (k : Int) := by omega
    have e5 : (t : Int).tmod 32 = (k : Int) := by rw [Int.tmod_eq_emod_of_nonneg (by omega)]; omega
    have hk32 : k < 32 := by omega
    have HK32 := Lib.hid hk32
    clear hk
    go_upto_region 8 with (fail)
    clear e3 e4 e5 ht hr2 hr3 hr e1 e2 hs32
    obtain ⟨s, hs⟩ : ∃ s, s = 8 * k := ⟨_, rfl⟩
    have hsb : s < 256 := by omega
    obtain ⟨l, hl⟩ : ∃ l, l = shlv s a := ⟨_, rfl⟩
    obtain ⟨rr, hrr⟩ : ∃ rr, rr = shrv s a := ⟨_, rfl⟩
    have bl1 : Big l := by rw [hl]; exact shlv_big _ _
    have br1 : Big rr := by rw [hrr]; exact shrv_big _ HA.out
    have bs1 : Big s := by unfold Big; omega
    have k1 : ∀ w, Calls Try.prog 29 #[.int .u64 (s : Nat)] w (RetW s w) := fun w => of_c s (by unfold Lim; omega) w
    have k2 : ∀ w, Calls Try.prog 68 #[W s, W a] w (RetW l w) := fun w => by have h := shl_c bs1 HA.out w; rw [show (if s < 256 then a * 2 ^ s % 115792089237316195423570985008687907853269984665640564039457584007913129639936 else 0) = l from hl.symm] at h; exact h
    have k3 : ∀ w, Calls Try.prog 70 #[W s, W a] w (RetW rr w) := fun w => by have h := shr_c bs1 HA.out w; rw [show (if s < 256 then a / 2 ^ s else 0) = rr from hrr.symm] at h; exact h
    have k4 : ∀ w, Calls Try.prog 23 #[W l] w (RetV (BV (bytes32 l)) w) := fun w => bytes_c bl1 w
    have k5 : ∀ w, Calls Try.prog 23 #[W rr] w (RetV (BV (bytes32 rr)) w) := fun w => bytes_c br1 w
    have lbyte : ∀ i, i < 32 → (bytes32 l).getD i 0 = if i + k < 32 then (bytes32 a).getD (i + k) 0 else 0 := fun i hi => by rw [hl, hs]; exact shl_byte HA.out HK32.out hi
    have rbyte : ∀ i, i < 32 → (bytes32 rr).getD i 0 = if k ≤ i then (bytes32 a).getD (i - k) 0 else 0 := fun i hi => by rw [hrr, hs]; exact shr_byte HA.out HK32.out hi
    have e5 : IntKind.i64.wrap (8 * (k : Int)) = (s : Int) := by rw [show 8 * (k : Int) = (s : Int) by omega]; exact IntWalk.i64_in _ (by omega)
    have e5' : 8 * (k : Int) = (s : Int) := by omega
    have e6 : IntKind.u64.wrap (s : Int) = (s : Int) := by rw [wrapU, Nat.mod_eq_of_lt (by omega)]
    have K1 := Lib.hid k1
    have K2 := Lib.hid k2
    have K3 := Lib.hid k3
    have K4 := Lib.hid k4
    have K5 := Lib.hid k5
    have LB := Lib.hid lbyte
    have RB := Lib.hid rbyte
    have E5 := Lib.hid e5
    have E5' := Lib.hid e5'
    have E6 := Lib.hid e6
    clear k1 k2 k3 k4 k5 lbyte rbyte e5 e5' e6 bl1 br1 bs1 hl hrr hs hsb hk32
    have gl := gA.out.lt
    refine wp_region_rel 8 [(76, (.is (.int .i64 (k : Nat)))), (77, (.is (.int .i64 (s : Nat)))), (78, (.is (.int .u64 (s : Nat)))), (79, (.is (W s))), (80, (.is (W a))), (81, (.is (W l))), (82, (.is (BV (bytes32 l)))), (12, .prow w6.heap.size)] (by kernel_rfl) (by kernel_rfl) ?_ ?_
    · refine relOps_cons ?_ (relOps_cons ?_ (relOps_cons ?_ (relOps_cons ?_ (relOps_cons ?_ (relOps_cons ?_ (relOps_cons ?_ (relOps_cons ?_ relOps_nil)))))))
      · intro w' hb'
        refine relAsk_out (by rfl) ?_
        refine relAsk_nil ?_
        refine relStep_go (by rfl) ?_
        go_simp
        exact rel_val rfl
      · intro w' hb'
        refine relAsk_in (by rfl) ?_
        intro v76 h76
        obtain rfl : v76 = (.int .i64 (k : Nat)) := h76
        refine relAsk_nil ?_
        refine relStep_go (by rfl) ?_
        have e5 := E5.out
        have hk' : (k : Int) < 32 := by have := HK32.out; omega
        have e6 := E5'.out
        have e7 : IntKind.i64.wrap (s : Int) = (s : Int) := IntWalk.i64_in _ (by omega)
        go_simp
        exact rel_val rfl
      · intro w' hb'
        refine relAsk_in (by rfl) ?_
        intro v77 h77
        obtain rfl : v77 = (.int .i64 (s : Nat)) := h77
        refine relAsk_nil ?_
        refine relStep_go (by rfl) ?_
        have e6 := E6.out
        go_simp
        exact rel_val rfl
      · intro w' hb'
        refine relAsk_in (by rfl) ?_
        intro v78 h78
        obtain rfl : v78 = (.int .u64 (s : Nat)) := h78
        refine relAsk_nil ?_
        refine relStep_go (by rfl) ?_
        go_simp
        exact rel_callW (K1.out _) (fun _ => rfl)
      · intro w' hb'
        refine relAsk_out (by rfl) ?_
        refine relAsk_nil ?_
        refine relStep_go (by rfl) ?_
        obtain ⟨x0, x1, x2, x3⟩ := (gA.out.below hb' gA.out.lt).cells4
        go_simp
        exact rel_val rfl
      · intro w' hb'
        refine relAsk_in (by rfl) ?_
        intro v79 h79
        obtain rfl : v79 = (W s) := h79
        refine relAsk_in (by rfl) ?_
        intro v80 h80
        obtain rfl : v80 = (W a) := h80
        refine relAsk_nil ?_
        refine relStep_go (by rfl) ?_
        go_simp
        exact rel_callW (K2.out _) (fun _ => rfl)
      · intro w' hb'
        refine relAsk_in (by rfl) ?_
        intro v81 h81
        obtain rfl : v81 = (W l) := h81
        refine relAsk_nil ?_
        refine relStep_go (by rfl) ?_
        go_simp
        exact rel_callV (K4.out _) (fun _ => rfl)
      · intro w' hb'
        refine relAsk_nil ?_
        refine relStep_go (by rfl) ?_
        go_simp
        exact ⟨(Below.refl _ _).alloc (Nat.le_refl _) _, _, rfl, hb'.size, Row.new (k := .u8) w' 33 (List.replicate 32 0)⟩
    · intro w' hb'
      refine relAsk_in (by rfl) ?_
      intro v76 h76
      obtain rfl : v76 = (.int .i64 (k : Nat)) := h76
      refine relAsk_in (by rfl) ?_
      intro v77 h77
      obtain rfl : v77 = (.int .i64 (s : Nat)) := h77
      refine relAsk_in (by rfl) ?_
      intro v78 h78
      obtain rfl : v78 = (.int .u64 (s : Nat)) := h78
      refine relAsk_in (by rfl) ?_
      intro v79 h79
      obtain rfl : v79 = (W s) := h79
      refine relAsk_in (by rfl) ?_
      intro v80 h80
      obtain rfl : v80 = (W a) := h80
      refine relAsk_in (by rfl) ?_
      intro v81 h81
      obtain rfl : v81 = (W l) := h81
      refine relAsk_in (by rfl) ?_
      intro v82 h82
      obtain rfl : v82 = (BV (bytes32 l)) := h82
      refine relAsk_in (by rfl) ?_
      intro v12 h12
      refine relAsk_nil ?_
      obtain ⟨g12, rfl, hg12, n12⟩ := h12
      refine wpList_store_row rfl 33 (.tmp 12) (.tmp 82) rfl g12 (Cs8 (bytes32 l)) (by go_simp) (by first | (go_simp; done) | (go_simp; rfl)) 33 _ n12 (info33' (bytes32_len l)) (by rw [cs8_size, cs8_size, bytes32_len]; simp) (cs8_one _) ?_
      refine wpList_nil ?_
      have H12 := Lib.hid (n12.toSet (bytes32 l))
      have h5 : Row .u8 (w'.setRow g12 (Cs8 (bytes32 l))) G 33 (bytes32 a) := (setRow_other _ _ _ _ (by have := H5.out.lt; omega)).trans (H5.out.below hb' H5.out.lt)
      have hA : Arr (w'.setRow g12 (Cs8 (bytes32 l))) w.heap.size 24 [lim 0 a, lim 1 a, lim 2 a, lim 3 a] := (setRow_other _ _ _ _ (by have := gA.out.lt; omega)).trans (gA.out.below hb' gA.out.lt)
      have hW := below_setRow (gW.out.trans (hb'.mono gW.out.size)) (show w.heap.size ≤ g12 by have := gW.out.size; omega) (Cs8 (bytes32 l))
      clear n12 hb' H5 gA gW
      generalize w'.setRow g12 (Cs8 (bytes32 l)) = Y8 at *
      have H5 := Lib.hid h5
      have gA := Lib.hid hA
      have gW := Lib.hid hW
      have gl := gA.out.lt
      clear h5 hA hW
      go_simp
      go_wp2_with fail
      refine wp_region_rel 8 [(83, (.is (.int .i64 (k : Nat)))), (84, (.is (.int .i64 (s : Nat)))), (85, (.is (.int .u64 (s : Nat)))), (86, (.is (W s))), (87, (.is (W a))), (88, (.is (W rr))), (89, (.is (BV (bytes32 rr)))), (13, .prow Y8.heap.size)] (by kernel_rfl) (by kernel_rfl) ?_ ?_
      · refine relOps_cons ?_ (relOps_cons ?_ (relOps_cons ?_ (relOps_cons ?_ (relOps_cons ?_ (relOps_cons ?_ (relOps_cons ?_ (relOps_cons ?_ relOps_nil)))))))
        · intro w' hb'
          refine relAsk_out (by rfl) ?_
          refine relAsk_nil ?_
          refine relStep_go (by rfl) ?_
          go_simp
          exact rel_val rfl
        · intro w' hb'
          refine relAsk_in (by rfl) ?_
          intro v83 h83
          obtain rfl : v83 = (.int .i64 (k : Nat)) := h83
          refine relAsk_nil ?_
          refine relStep_go (by rfl) ?_
          have e5 := E5.out
          have hk' : (k : Int) < 32 := by have := HK32.out; omega
          have e6 := E5'.out
          have e7 : IntKind.i64.wrap (s : Int) = (s : Int) := IntWalk.i64_in _ (by omega)
          go_simp
          exact rel_val rfl
        · intro w' hb'
          refine relAsk_in (by rfl) ?_
          intro v84 h84
          obtain rfl : v84 = (.int .i64 (s : Nat)) := h84
          refine relAsk_nil ?_
          refine relStep_go (by rfl) ?_
          have e6 := E6.out
          go_simp
          exact rel_val rfl
        · intro w' hb'
          refine relAsk_in (by rfl) ?_
          intro v85 h85
          obtain rfl : v85 = (.int .u64 (s : Nat)) := h85
          refine relAsk_nil ?_
          refine relStep_go (by rfl) ?_
          go_simp
          exact rel_callW (K1.out _) (fun _ => rfl)
        · intro w' hb'
          refine relAsk_out (by rfl) ?_
          refine relAsk_nil ?_
          refine relStep_go (by rfl) ?_
          obtain ⟨x0, x1, x2, x3⟩ := (gA.out.below hb' gA.out.lt).cells4
          go_simp
          exact rel_val rfl
        · intro w' hb'
          refine relAsk_in (by rfl) ?_
          intro v86 h86
          obtain rfl : v86 = (W s) := h86
          refine relAsk_in (by rfl) ?_
          intro v87 h87
          obtain rfl : v87 = (W a) := h87
          refine relAsk_nil ?_
          refine relStep_go (by rfl) ?_
          go_simp
          exact rel_callW (K3.out _) (fun _ => rfl)
        · intro w' hb'
          refine relAsk_in (by rfl) ?_
          intro v88 h88
          obtain rfl : v88 = (W rr) := h88
          refine relAsk_nil ?_
          refine relStep_go (by rfl) ?_
          go_simp
          exact rel_callV (K5.out _) (fun _ => rfl)
        · intro w' hb'
          refine relAsk_nil ?_
          refine relStep_go (by rfl) ?_
          go_simp
          exact ⟨(Below.refl _ _).alloc (Nat.le_refl _) _, _, rfl, hb'.size, Row.new (k := .u8) w' 33 (List.replicate 32 0)⟩
      · intro w' hb'
        refine relAsk_in (by rfl) ?_
        intro v83 h83
        obtain rfl : v83 = (.int .i64 (k : Nat)) := h83
        refine relAsk_in (by rfl) ?_
        intro v84 h84
        obtain rfl : v84 = (.int .i64 (s : Nat)) := h84
        refine relAsk_in (by rfl) ?_
        intro v85 h85
        obtain rfl : v85 = (.int .u64 (s : Nat)) := h85
        refine relAsk_in (by rfl) ?_
        intro v86 h86
        obtain rfl : v86 = (W s) := h86
        refine relAsk_in (by rfl) ?_
        intro v87 h87
        obtain rfl : v87 = (W a) := h87
        refine relAsk_in (by rfl) ?_
        intro v88 h88
        obtain rfl : v88 = (W rr) := h88
        refine relAsk_in (by rfl) ?_
        intro v89 h89
        obtain rfl : v89 = (BV (bytes32 rr)) := h89
        refine relAsk_in (by rfl) ?_
        intro v13 h13
        refine relAsk_nil ?_
        obtain ⟨g13, rfl, hg13, n13⟩ := h13
        refine wpList_store_row rfl 33 (.tmp 13) (.tmp 89) rfl g13 (Cs8 (bytes32 rr)) (by go_simp) (by first | (go_simp; done) | (go_simp; rfl)) 33 _ n13 (info33' (bytes32_len rr)) (by rw [cs8_size, cs8_size, bytes32_len]; simp) (cs8_one _) ?_
        refine wpList_nil ?_
        have H13 := Lib.hid (n13.toSet (bytes32 rr))
        have h5 : Row .u8 (w'.setRow g13 (Cs8 (bytes32 rr))) G 33 (bytes32 a) := (setRow_other _ _ _ _ (by have := H5.out.lt; omega)).trans (H5.out.below hb' H5.out.lt)
        have hA : Arr (w'.setRow g13 (Cs8 (bytes32 rr))) w.heap.size 24 [lim 0 a, lim 1 a, lim 2 a, lim 3 a] := (setRow_other _ _ _ _ (by have := gA.out.lt; omega)).trans (gA.out.below hb' gA.out.lt)
        have h12 : Row .u8 (w'.setRow g13 (Cs8 (bytes32 rr))) g12 33 (bytes32 l) := (setRow_other _ _ _ _ (by have := H12.out.lt; omega)).trans (H12.out.below hb' H12.out.lt)
        have hW := below_setRow (gW.out.trans (hb'.mono gW.out.size)) (show w.heap.size ≤ g13 by have := gW.out.size; omega) (Cs8 (bytes32 rr))
        clear n13 hb' H5 gA gW H12
        generalize w'.setRow g13 (Cs8 (bytes32 rr)) = Y9 at *
        have H5 := Lib.hid h5
        have gA := Lib.hid hA
        have gW := Lib.hid hW
        have H12 := Lib.hid h12
        clear h5 hA hW h12
        go_simp
        go_wp2_with fail
        have hk32 := HK32.out
        go_loopw [14] (fun i wr => ∃ m : Nat, m ≤ 32 ∧ i = .int .i64 (m : Int) ∧ Hid (Row .u8 wr G 33 (bytes32 a)) ∧ Hid (Arr wr w.heap.size 24 [lim 0 a, lim 1 a, lim 2 a, lim 3 a]) ∧ Hid (Row .u8 wr g12 33 (bytes32 l)) ∧ Hid (Row .u8 wr g13 33 (bytes32 rr)) ∧ Hid (Below w.heap.size w wr))
          (fun i _ => (32 - intOf i).toNat)
        case atStart => exact ⟨0, by omega, rfl, H5, gA, H12, H13, gW⟩
        case round =>
          clear H5 gA H12 H13 gW
          obtain ⟨m, hm, rfl, H5, gA, H12, H13, gW⟩ := hrel
          by_cases hlt : (m : Int) < 32
          · obtain ⟨x, ex⟩ : ∃ x, x = (bytes32 l).getD m 0 := ⟨_, rfl⟩
            obtain ⟨y, ey⟩ : ∃ y, y = (bytes32 rr).getD m 0 := ⟨_, rfl⟩
            obtain ⟨z, ez⟩ : ∃ z, z = (bytes32 a).getD m 0 := ⟨_, rfl⟩
            have hz : z < 256 := by rw [ez]; exact (bytes32_ds a).get (by omega) m
            have cz : ∀ W', Below wr.heap.size wr W' → W'.cell? ⟨G, m, none⟩ = some (.int .u8 (z : Nat)) := fun W' hb => by
              have h := (H5.out.below hb H5.out.lt).cell m (by rw [bytes32_len]; omega)
              rwa [← ez] at h
            have km : ∀ w, Calls Try.prog 29 #[.int .u64 (m : Nat)] w (RetW m w) := fun w => of_c m (by unfold Lim; omega) w
            have kz : ∀ w, Calls Try.prog 29 #[.int .u64 (z : Nat)] w (RetW z w) := fun w => of_c z (by unfold Lim; omega) w
            have kb : ∀ w, Calls Try.prog 66 #[W m, W a] w (RetW z w) := fun w => by
              have h := byte_c (show Big m by unfold Big; omega) HA.out w
              rw [if_pos (by omega), ← bytes32_get a (by omega), ← ez] at h
              exact h
            have CZ := Lib.hid cz
            have KM := Lib.hid km
            have KZ := Lib.hid kz
            have KB := Lib.hid kb
            clear cz km kz kb ez
            have hmk : IntKind.i64.wrap ((m : Int) + (k : Int)) = ((m + k : Nat) : Int) := by rw [IntWalk.i64_in _ (by omega)]; omega
            by_cases h1 : m + k < 32
            · by_cases h2 : k ≤ m
              · have cb := H5.out.cell (m + k) (by rw [bytes32_len]; omega)
                have gx : (bytes32 a).getD (m + k) 0 = x := by rw [ex, LB.out m (by omega), if_pos h1]
                rw [gx] at cb
                have ht1 : decide (((m + k : Nat) : Int) < 32) = true := decide_eq_true (by omega)
                have cl : ∀ W', Below wr.heap.size wr W' → W'.cell? ⟨g12, m, none⟩ = some (.int .u8 (x : Nat)) := fun W' hb => by
                  have h := (H12.out.below hb H12.out.lt).cell m (by rw [bytes32_len]; omega)
                  rwa [← ex] at h
                have cb2 := H5.out.cell (m - k) (by rw [bytes32_len]; omega)
                have gy : (bytes32 a).getD (m - k) 0 = y := by rw [ey, RB.out m (by omega), if_pos h2]
                rw [gy] at cb2
                have hmk2 : IntKind.i64.wrap ((m : Int) - (k : Int)) = ((m - k : Nat) : Int) := by rw [IntWalk.i64_in _ (by omega)]; omega
                have hmk3 : (m : Int) - (k : Int) = ((m - k : Nat) : Int) := by omega
                have ht2 : decide ((k : Int) ≤ (m : Int)) = true := decide_eq_true (by omega)
                have cr : ∀ W', Below wr.heap.size wr W' → W'.cell? ⟨g13, m, none⟩ = some (.int .u8 (y : Nat)) := fun W' hb => by
                  have h := (H13.out.below hb H13.out.lt).cell m (by rw [bytes32_len]; omega)
                  rwa [← ey] at h
                have h1i : (m : Int) + (k : Int) < 32 := by omega
                have h2i : (k : Int) ≤ (m : Int) := by omega
                have CL := Lib.hid cl
                have CR := Lib.hid cr
                clear cl cr ex ey h1 h2 gx gy
                go_wp2_with fail
                clear ht1 ht2 hmk h1i h2i cb cb2 hmk2 hmk3
                refine wp_region_see 25 [111, 112, 113, 114, 115, 116, 117, 118, 119, 120, 121, 122, 123, 124, 125, 126, 127, 128, 129, 130, 131, 132, 133, 134, 135] [(111, .is (.int .i64 (m : Nat))), (112, .is (.pointer (some ⟨g12, m, none⟩))), (113, .is (.int .u8 (x : Nat))), (114, .is (.int .u8 (x : Nat))), (115, .is (.bool false)), (116, .is (.bool false)), (117, .is (.int .i64 (m : Nat))), (118, .is (.pointer (some ⟨g13, m, none⟩))), (119, .is (.int .u8 (y : Nat))), (120, .is (.int .u8 (y : Nat))), (121, .is (.bool false)), (122, .is (.bool false)), (123, .is (.bool false)), (124, .is (.int .i64 (m : Nat))), (125, .is (.int .u64 (m : Nat))), (126, .is (W m)), (127, .is (W a)), (128, .is (W z)), (129, .is (.int .i64 (m : Nat))), (130, .is (.pointer (some ⟨G, m, none⟩))), (131, .is (.int .u8 (z : Nat))), (132, .is (.int .u64 (z : Nat))), (133, .is (W z)), (134, .is (.bool false)), (135, .is (.bool false))] (by kernel_rfl) (by kernel_rfl) (by rfl) ?_ ?_
                · refine seeOps_cons ?_ (seeOps_cons ?_ (seeOps_cons ?_ (seeOps_cons ?_ (seeOps_cons ?_ (seeOps_cons ?_ (seeOps_cons ?_ (seeOps_cons ?_ (seeOps_cons ?_ (seeOps_cons ?_ (seeOps_cons ?_ (seeOps_cons ?_ (seeOps_cons ?_ (seeOps_cons ?_ (seeOps_cons ?_ (seeOps_cons ?_ (seeOps_cons ?_ (seeOps_cons ?_ (seeOps_cons ?_ (seeOps_cons ?_ (seeOps_cons ?_ (seeOps_cons ?_ (seeOps_cons ?_ (seeOps_cons ?_ (seeOps_cons ?_ seeOps_nil))))))))))))))))))))))))
                  · intro w' hb' fr hout hin
                    have e14 : fr.tmps.getD 14 undef = .int .i64 (m : Nat) := hout 14 (by decide)
                    clear hout hin
                    exact relStep_move (.tmp 14) rfl (wanted_none rfl) (by show fr.tmps.getD 14 undef = _; rw [e14])
                  · intro w' hb' fr hout hin
                    have e12 : fr.tmps.getD 12 undef = .pointer (some ⟨g12, 0, none⟩) := hout 12 (by decide)
                    have h111 : fr.tmps.getD 111 undef = .int .i64 (m : Nat) := hin 111 (by decide) (by decide)
                    clear hout hin
                    exact op_index33 (.tmp 12) (.tmp 111) rfl (by omega) e12 h111 (wanted_none rfl) rfl
                  · intro w' hb' fr hout hin
                    have h112 : fr.tmps.getD 112 undef = .pointer (some ⟨g12, m, none⟩) := hin 112 (by decide) (by decide)
                    clear hout hin
                    exact op_load8 (.tmp 112) rfl h112 (CL.out w' hb') (wanted_none rfl) rfl
                  · intro w' hb' fr hout hin
                    have e15 : fr.tmps.getD 15 undef = .int .u8 (x : Nat) := hout 15 (by decide)
                    clear hout hin
                    exact relStep_move (.tmp 15) rfl (wanted_none rfl) (by show fr.tmps.getD 15 undef = _; rw [e15])
                  · intro w' hb' fr hout hin
                    have h113 : fr.tmps.getD 113 undef = .int .u8 (x : Nat) := hin 113 (by decide) (by decide)
                    have h114 : fr.tmps.getD 114 undef = .int .u8 (x : Nat) := hin 114 (by decide) (by decide)
                    clear hout hin
                    exact op_neU8 (.tmp 113) (.tmp 114) _ rfl h113 h114 (wanted_none rfl) rfl
                  · intro w' hb' fr hout hin
                    have h115 : fr.tmps.getD 115 undef = .bool false := hin 115 (by decide) (by decide)
                    clear hout hin
                    exact relStep_move (.tmp 115) rfl (wanted_none rfl) (by show fr.tmps.getD 115 undef = _; rw [h115])
                  · intro w' hb' fr hout hin
                    have e14 : fr.tmps.getD 14 undef = .int .i64 (m : Nat) := hout 14 (by decide)
                    have h116 : fr.tmps.getD 116 undef = .bool false := hin 116 (by decide) (by decide)
                    clear hout hin
                    exact relStep_move (.tmp 14) rfl (wanted_some (g := 5) (t := 116) (b := false) rfl rfl h116) (by show fr.tmps.getD 14 undef = _; rw [e14])
                  · intro w' hb' fr hout hin
                    have e13 : fr.tmps.getD 13 undef = .pointer (some ⟨g13, 0, none⟩) := hout 13 (by decide)
                    have h117 : fr.tmps.getD 117 undef = .int .i64 (m : Nat) := hin 117 (by decide) (by decide)
                    have h116 : fr.tmps.getD 116 undef = .bool false := hin 116 (by decide) (by decide)
                    clear hout hin
                    exact op_index33 (.tmp 13) (.tmp 117) rfl (by omega) e13 h117 (wanted_some (g := 5) (t := 116) (b := false) rfl rfl h116) rfl
                  · intro w' hb' fr hout hin
                    have h118 : fr.tmps.getD 118 undef = .pointer (some ⟨g13, m, none⟩) := hin 118 (by decide) (by decide)
                    have h116 : fr.tmps.getD 116 undef = .bool false := hin 116 (by decide) (by decide)
                    clear hout hin
                    exact op_load8 (.tmp 118) rfl h118 (CR.out w' hb') (wanted_some (g := 5) (t := 116) (b := false) rfl rfl h116) rfl
                  · intro w' hb' fr hout hin
                    have e16 : fr.tmps.getD 16 undef = .int .u8 (y : Nat) := hout 16 (by decide)
                    have h116 : fr.tmps.getD 116 undef = .bool false := hin 116 (by decide) (by decide)
                    clear hout hin
                    exact relStep_move (.tmp 16) rfl (wanted_some (g := 5) (t := 116) (b := false) rfl rfl h116) (by show fr.tmps.getD 16 undef = _; rw [e16])
                  · intro w' hb' fr hout hin
                    have h119 : fr.tmps.getD 119 undef = .int .u8 (y : Nat) := hin 119 (by decide) (by decide)
                    have h120 : fr.tmps.getD 120 undef = .int .u8 (y : Nat) := hin 120 (by decide) (by decide)
                    have h116 : fr.tmps.getD 116 undef = .bool false := hin 116 (by decide) (by decide)
                    clear hout hin
                    exact op_neU8 (.tmp 119) (.tmp 120) _ rfl h119 h120 (wanted_some (g := 5) (t := 116) (b := false) rfl rfl h116) rfl
                  · intro w' hb' fr hout hin
                    have h116 : fr.tmps.getD 116 undef = .bool false := hin 116 (by decide) (by decide)
                    have h121 : fr.tmps.getD 121 undef = .bool false := hin 121 (by decide) (by decide)
                    clear hout hin
                    exact relStep_pickF (.tmp 116) (.const (.bool true)) (.tmp 121) rfl h116 (wanted_none rfl) (by show fr.tmps.getD 121 undef = _; rw [h121])
                  · intro w' hb' fr hout hin
                    have h122 : fr.tmps.getD 122 undef = .bool false := hin 122 (by decide) (by decide)
                    clear hout hin
                    exact relStep_move (.tmp 122) rfl (wanted_none rfl) (by show fr.tmps.getD 122 undef = _; rw [h122])
                  · intro w' hb' fr hout hin
                    have e14 : fr.tmps.getD 14 undef = .int .i64 (m : Nat) := hout 14 (by decide)
                    have h123 : fr.tmps.getD 123 undef = .bool false := hin 123 (by decide) (by decide)
                    clear hout hin
                    exact relStep_move (.tmp 14) rfl (wanted_some (g := 12) (t := 123) (b := false) rfl rfl h123) (by show fr.tmps.getD 14 undef = _; rw [e14])
                  · intro w' hb' fr hout hin
                    have h124 : fr.tmps.getD 124 undef = .int .i64 (m : Nat) := hin 124 (by decide) (by decide)
                    have h123 : fr.tmps.getD 123 undef = .bool false := hin 123 (by decide) (by decide)
                    clear hout hin
                    exact op_conv64 (.tmp 124) rfl (by omega) h124 (wanted_some (g := 12) (t := 123) (b := false) rfl rfl h123) rfl
                  · intro w' hb' fr hout hin
                    have h125 : fr.tmps.getD 125 undef = .int .u64 (m : Nat) := hin 125 (by decide) (by decide)
                    have h123 : fr.tmps.getD 123 undef = .bool false := hin 123 (by decide) (by decide)
                    clear hout hin
                    exact relStep_callW 29 #[.int .u64 (m : Nat)] (wanted_some (g := 12) (t := 123) (b := false) rfl rfl h123) (KM.out _) (fun _ => rfl) (by have hh := h125; go_simp)
                  · intro w' hb' fr hout hin
                    have e2 : fr.tmps.getD 2 undef = .pointer (some ⟨w.heap.size, 0, none⟩) := hout 2 (by decide)
                    have h123 : fr.tmps.getD 123 undef = .bool false := hin 123 (by decide) (by decide)
                    clear hout hin
                    exact op_load (n := a) (.tmp 2) rfl e2 ((gA.out.below hb' gA.out.lt).cells4) (wanted_some (g := 12) (t := 123) (b := false) rfl rfl h123) rfl
                  · intro w' hb' fr hout hin
                    have h126 : fr.tmps.getD 126 undef = W m := hin 126 (by decide) (by decide)
                    have h127 : fr.tmps.getD 127 undef = W a := hin 127 (by decide) (by decide)
                    have h123 : fr.tmps.getD 123 undef = .bool false := hin 123 (by decide) (by decide)
                    clear hout hin
                    exact relStep_callW 66 #[W m, W a] (wanted_some (g := 12) (t := 123) (b := false) rfl rfl h123) (KB.out _) (fun _ => rfl) (by have hh := (And.intro h126 h127); go_simp)
                  · intro w' hb' fr hout hin
                    have e14 : fr.tmps.getD 14 undef = .int .i64 (m : Nat) := hout 14 (by decide)
                    have h123 : fr.tmps.getD 123 undef = .bool false := hin 123 (by decide) (by decide)
                    clear hout hin
                    exact relStep_move (.tmp 14) rfl (wanted_some (g := 12) (t := 123) (b := false) rfl rfl h123) (by show fr.tmps.getD 14 undef = _; rw [e14])
                  · intro w' hb' fr hout hin
                    have e5 : fr.tmps.getD 5 undef = .pointer (some ⟨G, 0, none⟩) := hout 5 (by decide)
                    have h129 : fr.tmps.getD 129 undef = .int .i64 (m : Nat) := hin 129 (by decide) (by decide)
                    have h123 : fr.tmps.getD 123 undef = .bool false := hin 123 (by decide) (by decide)
                    clear hout hin
                    exact op_index33 (.tmp 5) (.tmp 129) rfl (by omega) e5 h129 (wanted_some (g := 12) (t := 123) (b := false) rfl rfl h123) rfl
                  · intro w' hb' fr hout hin
                    have h130 : fr.tmps.getD 130 undef = .pointer (some ⟨G, m, none⟩) := hin 130 (by decide) (by decide)
                    have h123 : fr.tmps.getD 123 undef = .bool false := hin 123 (by decide) (by decide)
                    clear hout hin
                    exact op_load8 (.tmp 130) rfl h130 (CZ.out w' hb') (wanted_some (g := 12) (t := 123) (b := false) rfl rfl h123) rfl
                  · intro w' hb' fr hout hin
                    have h131 : fr.tmps.getD 131 undef = .int .u8 (z : Nat) := hin 131 (by decide) (by decide)
                    have h123 : fr.tmps.getD 123 undef = .bool false := hin 123 (by decide) (by decide)
                    clear hout hin
                    exact op_conv8 (.tmp 131) rfl (by omega) h131 (wanted_some (g := 12) (t := 123) (b := false) rfl rfl h123) rfl
                  · intro w' hb' fr hout hin
                    have h132 : fr.tmps.getD 132 undef = .int .u64 (z : Nat) := hin 132 (by decide) (by decide)
                    have h123 : fr.tmps.getD 123 undef = .bool false := hin 123 (by decide) (by decide)
                    clear hout hin
                    exact relStep_callW 29 #[.int .u64 (z : Nat)] (wanted_some (g := 12) (t := 123) (b := false) rfl rfl h123) (KZ.out _) (fun _ => rfl) (by have hh := h132; go_simp)
                  · intro w' hb' fr hout hin
                    have h128 : fr.tmps.getD 128 undef = W z := hin 128 (by decide) (by decide)
                    have h133 : fr.tmps.getD 133 undef = W z := hin 133 (by decide) (by decide)
                    have h123 : fr.tmps.getD 123 undef = .bool false := hin 123 (by decide) (by decide)
                    clear hout hin
                    exact op_neW (n := z) (.tmp 128) (.tmp 133) _ rfl h128 h133 (wanted_some (g := 12) (t := 123) (b := false) rfl rfl h123) rfl
                  · intro w' hb' fr hout hin
                    have h123 : fr.tmps.getD 123 undef = .bool false := hin 123 (by decide) (by decide)
                    have h134 : fr.tmps.getD 134 undef = .bool false := hin 134 (by decide) (by decide)
                    clear hout hin
                    exact relStep_pickF (.tmp 123) (.const (.bool true)) (.tmp 134) rfl h123 (wanted_none rfl) (by show fr.tmps.getD 134 undef = _; rw [h134])
                · intro w' hb'
                  refine relAsk_in (by rfl) ?_
                  intro v111 h111
                  obtain rfl : v111 = .int .i64 (m : Nat) := h111
                  refine relAsk_in (by rfl) ?_
                  intro v112 h112
                  obtain rfl : v112 = .pointer (some ⟨g12, m, none⟩) := h112
                  refine relAsk_in (by rfl) ?_
                  intro v113 h113
                  obtain rfl : v113 = .int .u8 (x : Nat) := h113
                  refine relAsk_in (by rfl) ?_
                  intro v114 h114
                  obtain rfl : v114 = .int .u8 (x : Nat) := h114
                  refine relAsk_in (by rfl) ?_
                  intro v115 h115
                  obtain rfl : v115 = .bool false := h115
                  refine relAsk_in (by rfl) ?_
                  intro v116 h116
                  obtain rfl : v116 = .bool false := h116
                  refine relAsk_in (by rfl) ?_
                  intro v117 h117
                  obtain rfl : v117 = .int .i64 (m : Nat) := h117
                  refine relAsk_in (by rfl) ?_
                  intro v118 h118
                  obtain rfl : v118 = .pointer (some ⟨g13, m, none⟩) := h118
                  refine relAsk_in (by rfl) ?_
                  intro v119 h119
                  obtain rfl : v119 = .int .u8 (y : Nat) := h119
                  refine relAsk_in (by rfl) ?_
                  intro v120 h120
                  obtain rfl : v120 = .int .u8 (y : Nat) := h120
                  refine relAsk_in (by rfl) ?_
                  intro v121 h121
                  obtain rfl : v121 = .bool false := h121
                  refine relAsk_in (by rfl) ?_
                  intro v122 h122
                  obtain rfl : v122 = .bool false := h122
                  refine relAsk_in (by rfl) ?_
                  intro v123 h123
                  obtain rfl : v123 = .bool false := h123
                  refine relAsk_in (by rfl) ?_
                  intro v124 h124
                  obtain rfl : v124 = .int .i64 (m : Nat) := h124
                  refine relAsk_in (by rfl) ?_
                  intro v125 h125
                  obtain rfl : v125 = .int .u64 (m : Nat) := h125
                  refine relAsk_in (by rfl) ?_
                  intro v126 h126
                  obtain rfl : v126 = W m := h126
                  refine relAsk_in (by rfl) ?_
                  intro v127 h127
                  obtain rfl : v127 = W a := h127
                  refine relAsk_in (by rfl) ?_
                  intro v128 h128
                  obtain rfl : v128 = W z := h128
                  refine relAsk_in (by rfl) ?_
                  intro v129 h129
                  obtain rfl : v129 = .int .i64 (m : Nat) := h129
                  refine relAsk_in (by rfl) ?_
                  intro v130 h130
                  obtain rfl : v130 = .pointer (some ⟨G, m, none⟩) := h130
                  refine relAsk_in (by rfl) ?_
                  intro v131 h131
                  obtain rfl : v131 = .int .u8 (z : Nat) := h131
                  refine relAsk_in (by rfl) ?_
                  intro v132 h132
                  obtain rfl : v132 = .int .u64 (z : Nat) := h132
                  refine relAsk_in (by rfl) ?_
                  intro v133 h133
                  obtain rfl : v133 = W z := h133
                  refine relAsk_in (by rfl) ?_
                  intro v134 h134
                  obtain rfl : v134 = .bool false := h134
                  refine relAsk_in (by rfl) ?_
                  intro v135 h135
                  obtain rfl : v135 = .bool false := h135
                  refine relAsk_nil ?_
                  refine wpList_nil ?_
                  go_simp
                  have H5 := H5.out.below hb' H5.out.lt
                  have gA := gA.out.below hb' gA.out.lt
                  have H12 := H12.out.below hb' H12.out.lt
                  have H13 := H13.out.below hb' H13.out.lt
                  have gW := gW.out.trans (hb'.mono gW.out.size)
                  have k5 := Lib.hid H5
                  have kA := Lib.hid gA
                  have k12 := Lib.hid H12
                  have k13 := Lib.hid H13
                  have kW := Lib.hid gW
                  clear hb' H5 gA H12 H13 gW
                  go_wp2_with fail
                  go_roundw
                  case rel => exact ⟨m + 1, by omega, by go_num, k5, kA, k12, k13, kW⟩
                  case measure => simp [intOf]; omega
              · have cb := H5.out.cell (m + k) (by rw [bytes32_len]; omega)
                have gx : (bytes32 a).getD (m + k) 0 = x := by rw [ex, LB.out m (by omega), if_pos h1]
                rw [gx] at cb
                have ht1 : decide (((m + k : Nat) : Int) < 32) = true := decide_eq_true (by omega)
                have cl : ∀ W', Below wr.heap.size wr W' → W'.cell? ⟨g12, m, none⟩ = some (.int .u8 (x : Nat)) := fun W' hb => by
                  have h := (H12.out.below hb H12.out.lt).cell m (by rw [bytes32_len]; omega)
                  rwa [← ex] at h
                have ht2 : decide ((k : Int) ≤ (m : Int)) = false := decide_eq_false (by omega)
                have cr : ∀ W', Below wr.heap.size wr W' → W'.cell? ⟨g13, m, none⟩ = some (.int .u8 0) := fun W' hb => by
                  have h := (H13.out.below hb H13.out.lt).cell m (by rw [bytes32_len]; omega)
                  rw [RB.out m (by omega), if_neg h2] at h
                  exact h
                have h1i : (m : Int) + (k : Int) < 32 := by omega
                have h2i : ¬ ((k : Int) ≤ (m : Int)) := by omega
                have CL := Lib.hid cl
                have CR := Lib.hid cr
                clear cl cr ex ey h1 h2 gx
                go_wp2_with fail
                clear ht1 ht2 hmk h1i h2i cb
                refine wp_region_see 25 [111, 112, 113, 114, 115, 116, 117, 118, 119, 120, 121, 122, 123, 124, 125, 126, 127, 128, 129, 130, 131, 132, 133, 134, 135] [(111, .is (.int .i64 (m : Nat))), (112, .is (.pointer (some ⟨g12, m, none⟩))), (113, .is (.int .u8 (x : Nat))), (114, .is (.int .u8 (x : Nat))), (115, .is (.bool false)), (116, .is (.bool false)), (117, .is (.int .i64 (m : Nat))), (118, .is (.pointer (some ⟨g13, m, none⟩))), (119, .is (.int .u8 0)), (120, .is (.int .u8 0)), (121, .is (.bool false)), (122, .is (.bool false)), (123, .is (.bool false)), (124, .is (.int .i64 (m : Nat))), (125, .is (.int .u64 (m : Nat))), (126, .is (W m)), (127, .is (W a)), (128, .is (W z)), (129, .is (.int .i64 (m : Nat))), (130, .is (.pointer (some ⟨G, m, none⟩))), (131, .is (.int .u8 (z : Nat))), (132, .is (.int .u64 (z : Nat))), (133, .is (W z)), (134, .is (.bool false)), (135, .is (.bool false))] (by kernel_rfl) (by kernel_rfl) (by rfl) ?_ ?_
                · refine seeOps_cons ?_ (seeOps_cons ?_ (seeOps_cons ?_ (seeOps_cons ?_ (seeOps_cons ?_ (seeOps_cons ?_ (seeOps_cons ?_ (seeOps_cons ?_ (seeOps_cons ?_ (seeOps_cons ?_ (seeOps_cons ?_ (seeOps_cons ?_ (seeOps_cons ?_ (seeOps_cons ?_ (seeOps_cons ?_ (seeOps_cons ?_ (seeOps_cons ?_ (seeOps_cons ?_ (seeOps_cons ?_ (seeOps_cons ?_ (seeOps_cons ?_ (seeOps_cons ?_ (seeOps_cons ?_ (seeOps_cons ?_ (seeOps_cons ?_ seeOps_nil))))))))))))))))))))))))
                  · intro w' hb' fr hout hin
                    have e14 : fr.tmps.getD 14 undef = .int .i64 (m : Nat) := hout 14 (by decide)
                    clear hout hin
                    exact relStep_move (.tmp 14) rfl (wanted_none rfl) (by show fr.tmps.getD 14 undef = _; rw [e14])
                  · intro w' hb' fr hout hin
                    have e12 : fr.tmps.getD 12 undef = .pointer (some ⟨g12, 0, none⟩) := hout 12 (by decide)
                    have h111 : fr.tmps.getD 111 undef = .int .i64 (m : Nat) := hin 111 (by decide) (by decide)
                    clear hout hin
                    exact op_index33 (.tmp 12) (.tmp 111) rfl (by omega) e12 h111 (wanted_none rfl) rfl
                  · intro w' hb' fr hout hin
                    have h112 : fr.tmps.getD 112 undef = .pointer (some ⟨g12, m, none⟩) := hin 112 (by decide) (by decide)
                    clear hout hin
                    exact op_load8 (.tmp 112) rfl h112 (CL.out w' hb') (wanted_none rfl) rfl
                  · intro w' hb' fr hout hin
                    have e15 : fr.tmps.getD 15 undef = .int .u8 (x : Nat) := hout 15 (by decide)
                    clear hout hin
                    exact relStep_move (.tmp 15) rfl (wanted_none rfl) (by show fr.tmps.getD 15 undef = _; rw [e15])
                  · intro w' hb' fr hout hin
                    have h113 : fr.tmps.getD 113 undef = .int .u8 (x : Nat) := hin 113 (by decide) (by decide)
                    have h114 : fr.tmps.getD 114 undef = .int .u8 (x : Nat) := hin 114 (by decide) (by decide)
                    clear hout hin
                    exact op_neU8 (.tmp 113) (.tmp 114) _ rfl h113 h114 (wanted_none rfl) rfl
                  · intro w' hb' fr hout hin
                    have h115 : fr.tmps.getD 115 undef = .bool false := hin 115 (by decide) (by decide)
                    clear hout hin
                    exact relStep_move (.tmp 115) rfl (wanted_none rfl) (by show fr.tmps.getD 115 undef = _; rw [h115])
                  · intro w' hb' fr hout hin
                    have e14 : fr.tmps.getD 14 undef = .int .i64 (m : Nat) := hout 14 (by decide)
                    have h116 : fr.tmps.getD 116 undef = .bool false := hin 116 (by decide) (by decide)
                    clear hout hin
                    exact relStep_move (.tmp 14) rfl (wanted_some (g := 5) (t := 116) (b := false) rfl rfl h116) (by show fr.tmps.getD 14 undef = _; rw [e14])
                  · intro w' hb' fr hout hin
                    have e13 : fr.tmps.getD 13 undef = .pointer (some ⟨g13, 0, none⟩) := hout 13 (by decide)
                    have h117 : fr.tmps.getD 117 undef = .int .i64 (m : Nat) := hin 117 (by decide) (by decide)
                    have h116 : fr.tmps.getD 116 undef = .bool false := hin 116 (by decide) (by decide)
                    clear hout hin
                    exact op_index33 (.tmp 13) (.tmp 117) rfl (by omega) e13 h117 (wanted_some (g := 5) (t := 116) (b := false) rfl rfl h116) rfl
                  · intro w' hb' fr hout hin
                    have h118 : fr.tmps.getD 118 undef = .pointer (some ⟨g13, m, none⟩) := hin 118 (by decide) (by decide)
                    have h116 : fr.tmps.getD 116 undef = .bool false := hin 116 (by decide) (by decide)
                    clear hout hin
                    exact op_load8 (.tmp 118) rfl h118 (CR.out w' hb') (wanted_some (g := 5) (t := 116) (b := false) rfl rfl h116) rfl
                  · intro w' hb' fr hout hin
                    have e16 : fr.tmps.getD 16 undef = .int .u8 0 := hout 16 (by decide)
                    have h116 : fr.tmps.getD 116 undef = .bool false := hin 116 (by decide) (by decide)
                    clear hout hin
                    exact relStep_move (.tmp 16) rfl (wanted_some (g := 5) (t := 116) (b := false) rfl rfl h116) (by show fr.tmps.getD 16 undef = _; rw [e16])
                  · intro w' hb' fr hout hin
                    have h119 : fr.tmps.getD 119 undef = .int .u8 0 := hin 119 (by decide) (by decide)
                    have h120 : fr.tmps.getD 120 undef = .int .u8 0 := hin 120 (by decide) (by decide)
                    have h116 : fr.tmps.getD 116 undef = .bool false := hin 116 (by decide) (by decide)
                    clear hout hin
                    exact op_neU8 (.tmp 119) (.tmp 120) _ rfl h119 h120 (wanted_some (g := 5) (t := 116) (b := false) rfl rfl h116) rfl
                  · intro w' hb' fr hout hin
                    have h116 : fr.tmps.getD 116 undef = .bool false := hin 116 (by decide) (by decide)
                    have h121 : fr.tmps.getD 121 undef = .bool false := hin 121 (by decide) (by decide)
                    clear hout hin
                    exact relStep_pickF (.tmp 116) (.const (.bool true)) (.tmp 121) rfl h116 (wanted_none rfl) (by show fr.tmps.getD 121 undef = _; rw [h121])
                  · intro w' hb' fr hout hin
                    have h122 : fr.tmps.getD 122 undef = .bool false := hin 122 (by decide) (by decide)
                    clear hout hin
                    exact relStep_move (.tmp 122) rfl (wanted_none rfl) (by show fr.tmps.getD 122 undef = _; rw [h122])
                  · intro w' hb' fr hout hin
                    have e14 : fr.tmps.getD 14 undef = .int .i64 (m : Nat) := hout 14 (by decide)
                    have h123 : fr.tmps.getD 123 undef = .bool false := hin 123 (by decide) (by decide)
                    clear hout hin
                    exact relStep_move (.tmp 14) rfl (wanted_some (g := 12) (t := 123) (b := false) rfl rfl h123) (by show fr.tmps.getD 14 undef = _; rw [e14])
                  · intro w' hb' fr hout hin
                    have h124 : fr.tmps.getD 124 undef = .int .i64 (m : Nat) := hin 124 (by decide) (by decide)
                    have h123 : fr.tmps.getD 123 undef = .bool false := hin 123 (by decide) (by decide)
                    clear hout hin
                    exact op_conv64 (.tmp 124) rfl (by omega) h124 (wanted_some (g := 12) (t := 123) (b := false) rfl rfl h123) rfl
                  · intro w' hb' fr hout hin
                    have h125 : fr.tmps.getD 125 undef = .int .u64 (m : Nat) := hin 125 (by decide) (by decide)
                    have h123 : fr.tmps.getD 123 undef = .bool false := hin 123 (by decide) (by decide)
                    clear hout hin
                    exact relStep_callW 29 #[.int .u64 (m : Nat)] (wanted_some (g := 12) (t := 123) (b := false) rfl rfl h123) (KM.out _) (fun _ => rfl) (by have hh := h125; go_simp)
                  · intro w' hb' fr hout hin
                    have e2 : fr.tmps.getD 2 undef = .pointer (some ⟨w.heap.size, 0, none⟩) := hout 2 (by decide)
                    have h123 : fr.tmps.getD 123 undef = .bool false := hin 123 (by decide) (by decide)
                    clear hout hin
                    exact op_load (n := a) (.tmp 2) rfl e2 ((gA.out.below hb' gA.out.lt).cells4) (wanted_some (g := 12) (t := 123) (b := false) rfl rfl h123) rfl
                  · intro w' hb' fr hout hin
                    have h126 : fr.tmps.getD 126 undef = W m := hin 126 (by decide) (by decide)
                    have h127 : fr.tmps.getD 127 undef = W a := hin 127 (by decide) (by decide)
                    have h123 : fr.tmps.getD 123 undef = .bool false := hin 123 (by decide) (by decide)
                    clear hout hin
                    exact relStep_callW 66 #[W m, W a] (wanted_some (g := 12) (t := 123) (b := false) rfl rfl h123) (KB.out _) (fun _ => rfl) (by have hh := (And.intro h126 h127); go_simp)
                  · intro w' hb' fr hout hin
                    have e14 : fr.tmps.getD 14 undef = .int .i64 (m : Nat) := hout 14 (by decide)
                    have h123 : fr.tmps.getD 123 undef = .bool false := hin 123 (by decide) (by decide)
                    clear hout hin
                    exact relStep_move (.tmp 14) rfl (wanted_some (g := 12) (t := 123) (b := false) rfl rfl h123) (by show fr.tmps.getD 14 undef = _; rw [e14])
                  · intro w' hb' fr hout hin
                    have e5 : fr.tmps.getD 5 undef = .pointer (some ⟨G, 0, none⟩) := hout 5 (by decide)
                    have h129 : fr.tmps.getD 129 undef = .int .i64 (m : Nat) := hin 129 (by decide) (by decide)
                    have h123 : fr.tmps.getD 123 undef = .bool false := hin 123 (by decide) (by decide)
                    clear hout hin
                    exact op_index33 (.tmp 5) (.tmp 129) rfl (by omega) e5 h129 (wanted_some (g := 12) (t := 123) (b := false) rfl rfl h123) rfl
                  · intro w' hb' fr hout hin
                    have h130 : fr.tmps.getD 130 undef = .pointer (some ⟨G, m, none⟩) := hin 130 (by decide) (by decide)
                    have h123 : fr.tmps.getD 123 undef = .bool false := hin 123 (by decide) (by decide)
                    clear hout hin
                    exact op_load8 (.tmp 130) rfl h130 (CZ.out w' hb') (wanted_some (g := 12) (t := 123) (b := false) rfl rfl h123) rfl
                  · intro w' hb' fr hout hin
                    have h131 : fr.tmps.getD 131 undef = .int .u8 (z : Nat) := hin 131 (by decide) (by decide)
                    have h123 : fr.tmps.getD 123 undef = .bool false := hin 123 (by decide) (by decide)
                    clear hout hin
                    exact op_conv8 (.tmp 131) rfl (by omega) h131 (wanted_some (g := 12) (t := 123) (b := false) rfl rfl h123) rfl
                  · intro w' hb' fr hout hin
                    have h132 : fr.tmps.getD 132 undef = .int .u64 (z : Nat) := hin 132 (by decide) (by decide)
                    have h123 : fr.tmps.getD 123 undef = .bool false := hin 123 (by decide) (by decide)
                    clear hout hin
                    exact relStep_callW 29 #[.int .u64 (z : Nat)] (wanted_some (g := 12) (t := 123) (b := false) rfl rfl h123) (KZ.out _) (fun _ => rfl) (by have hh := h132; go_simp)
                  · intro w' hb' fr hout hin
                    have h128 : fr.tmps.getD 128 undef = W z := hin 128 (by decide) (by decide)
                    have h133 : fr.tmps.getD 133 undef = W z := hin 133 (by decide) (by decide)
                    have h123 : fr.tmps.getD 123 undef = .bool false := hin 123 (by decide) (by decide)
                    clear hout hin
                    exact op_neW (n := z) (.tmp 128) (.tmp 133) _ rfl h128 h133 (wanted_some (g := 12) (t := 123) (b := false) rfl rfl h123) rfl
                  · intro w' hb' fr hout hin
                    have h123 : fr.tmps.getD 123 undef = .bool false := hin 123 (by decide) (by decide)
                    have h134 : fr.tmps.getD 134 undef = .bool false := hin 134 (by decide) (by decide)
                    clear hout hin
                    exact relStep_pickF (.tmp 123) (.const (.bool true)) (.tmp 134) rfl h123 (wanted_none rfl) (by show fr.tmps.getD 134 undef = _; rw [h134])
                · intro w' hb'
                  refine relAsk_in (by rfl) ?_
                  intro v111 h111
                  obtain rfl : v111 = .int .i64 (m : Nat) := h111
                  refine relAsk_in (by rfl) ?_
                  intro v112 h112
                  obtain rfl : v112 = .pointer (some ⟨g12, m, none⟩) := h112
                  refine relAsk_in (by rfl) ?_
                  intro v113 h113
                  obtain rfl : v113 = .int .u8 (x : Nat) := h113
                  refine relAsk_in (by rfl) ?_
                  intro v114 h114
                  obtain rfl : v114 = .int .u8 (x : Nat) := h114
                  refine relAsk_in (by rfl) ?_
                  intro v115 h115
                  obtain rfl : v115 = .bool false := h115
                  refine relAsk_in (by rfl) ?_
                  intro v116 h116
                  obtain rfl : v116 = .bool false := h116
                  refine relAsk_in (by rfl) ?_
                  intro v117 h117
                  obtain rfl : v117 = .int .i64 (m : Nat) := h117
                  refine relAsk_in (by rfl) ?_
                  intro v118 h118
                  obtain rfl : v118 = .pointer (some ⟨g13, m, none⟩) := h118
                  refine relAsk_in (by rfl) ?_
                  intro v119 h119
                  obtain rfl : v119 = .int .u8 0 := h119
                  refine relAsk_in (by rfl) ?_
                  intro v120 h120
                  obtain rfl : v120 = .int .u8 0 := h120
                  refine relAsk_in (by rfl) ?_
                  intro v121 h121
                  obtain rfl : v121 = .bool false := h121
                  refine relAsk_in (by rfl) ?_
                  intro v122 h122
                  obtain rfl : v122 = .bool false := h122
                  refine relAsk_in (by rfl) ?_
                  intro v123 h123
                  obtain rfl : v123 = .bool false := h123
                  refine relAsk_in (by rfl) ?_
                  intro v124 h124
                  obtain rfl : v124 = .int .i64 (m : Nat) := h124
                  refine relAsk_in (by rfl) ?_
                  intro v125 h125
                  obtain rfl : v125 = .int .u64 (m : Nat) := h125
                  refine relAsk_in (by rfl) ?_
                  intro v126 h126
                  obtain rfl : v126 = W m := h126
                  refine relAsk_in (by rfl) ?_
                  intro v127 h127
                  obtain rfl : v127 = W a := h127
                  refine relAsk_in (by rfl) ?_
                  intro v128 h128
                  obtain rfl : v128 = W z := h128
                  refine relAsk_in (by rfl) ?_
                  intro v129 h129
                  obtain rfl : v129 = .int .i64 (m : Nat) := h129
                  refine relAsk_in (by rfl) ?_
                  intro v130 h130
                  obtain rfl : v130 = .pointer (some ⟨G, m, none⟩) := h130
                  refine relAsk_in (by rfl) ?_
                  intro v131 h131
                  obtain rfl : v131 = .int .u8 (z : Nat) := h131
                  refine relAsk_in (by rfl) ?_
                  intro v132 h132
                  obtain rfl : v132 = .int .u64 (z : Nat) := h132
                  refine relAsk_in (by rfl) ?_
                  intro v133 h133
                  obtain rfl : v133 = W z := h133
                  refine relAsk_in (by rfl) ?_
                  intro v134 h134
                  obtain rfl : v134 = .bool false := h134
                  refine relAsk_in (by rfl) ?_
                  intro v135 h135
                  obtain rfl : v135 = .bool false := h135
                  refine relAsk_nil ?_
                  refine wpList_nil ?_
                  go_simp
                  have H5 := H5.out.below hb' H5.out.lt
                  have gA := gA.out.below hb' gA.out.lt
                  have H12 := H12.out.below hb' H12.out.lt
                  have H13 := H13.out.below hb' H13.out.lt
                  have gW := gW.out.trans (hb'.mono gW.out.size)
                  have k5 := Lib.hid H5
                  have kA := Lib.hid gA
                  have k12 := Lib.hid H12
                  have k13 := Lib.hid H13
                  have kW := Lib.hid gW
                  clear hb' H5 gA H12 H13 gW
                  go_wp2_with fail
                  go_roundw
                  case rel => exact ⟨m + 1, by omega, by go_num, k5, kA, k12, k13, kW⟩
                  case measure => simp [intOf]; omega
            · by_cases h2 : k ≤ m
              · have ht1 : decide (((m + k : Nat) : Int) < 32) = false := decide_eq_false (by omega)
                have cl : ∀ W', Below wr.heap.size wr W' → W'.cell? ⟨g12, m, none⟩ = some (.int .u8 0) := fun W' hb => by
                  have h := (H12.out.below hb H12.out.lt).cell m (by rw [bytes32_len]; omega)
                  rw [LB.out m (by omega), if_neg h1] at h
                  exact h
                have cb2 := H5.out.cell (m - k) (by rw [bytes32_len]; omega)
                have gy : (bytes32 a).getD (m - k) 0 = y := by rw [ey, RB.out m (by omega), if_pos h2]
                rw [gy] at cb2
                have hmk2 : IntKind.i64.wrap ((m : Int) - (k : Int)) = ((m - k : Nat) : Int) := by rw [IntWalk.i64_in _ (by omega)]; omega
                have hmk3 : (m : Int) - (k : Int) = ((m - k : Nat) : Int) := by omega
                have ht2 : decide ((k : Int) ≤ (m : Int)) = true := decide_eq_true (by omega)
                have cr : ∀ W', Below wr.heap.size wr W' → W'.cell? ⟨g13, m, none⟩ = some (.int .u8 (y : Nat)) := fun W' hb => by
                  have h := (H13.out.below hb H13.out.lt).cell m (by rw [bytes32_len]; omega)
                  rwa [← ey] at h
                have h1i : ¬ ((m : Int) + (k : Int) < 32) := by omega
                have h2i : (k : Int) ≤ (m : Int) := by omega
                have CL := Lib.hid cl
                have CR := Lib.hid cr
                clear cl cr ex ey h1 h2 gy
                go_wp2_with fail
                clear ht1 ht2 hmk h1i h2i cb2 hmk2 hmk3
                refine wp_region_see 25 [111, 112, 113, 114, 115, 116, 117, 118, 119, 120, 121, 122, 123, 124, 125, 126, 127, 128, 129, 130, 131, 132, 133, 134, 135] [(111, .is (.int .i64 (m : Nat))), (112, .is (.pointer (some ⟨g12, m, none⟩))), (113, .is (.int .u8 0)), (114, .is (.int .u8 0)), (115, .is (.bool false)), (116, .is (.bool false)), (117, .is (.int .i64 (m : Nat))), (118, .is (.pointer (some ⟨g13, m, none⟩))), (119, .is (.int .u8 (y : Nat))), (120, .is (.int .u8 (y : Nat))), (121, .is (.bool false)), (122, .is (.bool false)), (123, .is (.bool false)), (124, .is (.int .i64 (m : Nat))), (125, .is (.int .u64 (m : Nat))), (126, .is (W m)), (127, .is (W a)), (128, .is (W z)), (129, .is (.int .i64 (m : Nat))), (130, .is (.pointer (some ⟨G, m, none⟩))), (131, .is (.int .u8 (z : Nat))), (132, .is (.int .u64 (z : Nat))), (133, .is (W z)), (134, .is (.bool false)), (135, .is (.bool false))] (by kernel_rfl) (by kernel_rfl) (by rfl) ?_ ?_
                · refine seeOps_cons ?_ (seeOps_cons ?_ (seeOps_cons ?_ (seeOps_cons ?_ (seeOps_cons ?_ (seeOps_cons ?_ (seeOps_cons ?_ (seeOps_cons ?_ (seeOps_cons ?_ (seeOps_cons ?_ (seeOps_cons ?_ (seeOps_cons ?_ (seeOps_cons ?_ (seeOps_cons ?_ (seeOps_cons ?_ (seeOps_cons ?_ (seeOps_cons ?_ (seeOps_cons ?_ (seeOps_cons ?_ (seeOps_cons ?_ (seeOps_cons ?_ (seeOps_cons ?_ (seeOps_cons ?_ (seeOps_cons ?_ (seeOps_cons ?_ seeOps_nil))))))))))))))))))))))))
                  · intro w' hb' fr hout hin
                    have e14 : fr.tmps.getD 14 undef = .int .i64 (m : Nat) := hout 14 (by decide)
                    clear hout hin
                    exact relStep_move (.tmp 14) rfl (wanted_none rfl) (by show fr.tmps.getD 14 undef = _; rw [e14])
                  · intro w' hb' fr hout hin
                    have e12 : fr.tmps.getD 12 undef = .pointer (some ⟨g12, 0, none⟩) := hout 12 (by decide)
                    have h111 : fr.tmps.getD 111 undef = .int .i64 (m : Nat) := hin 111 (by decide) (by decide)
                    clear hout hin
                    exact op_index33 (.tmp 12) (.tmp 111) rfl (by omega) e12 h111 (wanted_none rfl) rfl
                  · intro w' hb' fr hout hin
                    have h112 : fr.tmps.getD 112 undef = .pointer (some ⟨g12, m, none⟩) := hin 112 (by decide) (by decide)
                    clear hout hin
                    exact op_load8 (.tmp 112) rfl h112 (CL.out w' hb') (wanted_none rfl) rfl
                  · intro w' hb' fr hout hin
                    have e15 : fr.tmps.getD 15 undef = .int .u8 0 := hout 15 (by decide)
                    clear hout hin
                    exact relStep_move (.tmp 15) rfl (wanted_none rfl) (by show fr.tmps.getD 15 undef = _; rw [e15])
                  · intro w' hb' fr hout hin
                    have h113 : fr.tmps.getD 113 undef = .int .u8 0 := hin 113 (by decide) (by decide)
                    have h114 : fr.tmps.getD 114 undef = .int .u8 0 := hin 114 (by decide) (by decide)
                    clear hout hin
                    exact op_neU8 (.tmp 113) (.tmp 114) _ rfl h113 h114 (wanted_none rfl) rfl
                  · intro w' hb' fr hout hin
                    have h115 : fr.tmps.getD 115 undef = .bool false := hin 115 (by decide) (by decide)
                    clear hout hin
                    exact relStep_move (.tmp 115) rfl (wanted_none rfl) (by show fr.tmps.getD 115 undef = _; rw [h115])
                  · intro w' hb' fr hout hin
                    have e14 : fr.tmps.getD 14 undef = .int .i64 (m : Nat) := hout 14 (by decide)
                    have h116 : fr.tmps.getD 116 undef = .bool false := hin 116 (by decide) (by decide)
                    clear hout hin
                    exact relStep_move (.tmp 14) rfl (wanted_some (g := 5) (t := 116) (b := false) rfl rfl h116) (by show fr.tmps.getD 14 undef = _; rw [e14])
                  · intro w' hb' fr hout hin
                    have e13 : fr.tmps.getD 13 undef = .pointer (some ⟨g13, 0, none⟩) := hout 13 (by decide)
                    have h117 : fr.tmps.getD 117 undef = .int .i64 (m : Nat) := hin 117 (by decide) (by decide)
                    have h116 : fr.tmps.getD 116 undef = .bool false := hin 116 (by decide) (by decide)
                    clear hout hin
                    exact op_index33 (.tmp 13) (.tmp 117) rfl (by omega) e13 h117 (wanted_some (g := 5) (t := 116) (b := false) rfl rfl h116) rfl
                  · intro w' hb' fr hout hin
                    have h118 : fr.tmps.getD 118 undef = .pointer (some ⟨g13, m, none⟩) := hin 118 (by decide) (by decide)
                    have h116 : fr.tmps.getD 116 undef = .bool false := hin 116 (by decide) (by decide)
                    clear hout hin
                    exact op_load8 (.tmp 118) rfl h118 (CR.out w' hb') (wanted_some (g := 5) (t := 116) (b := false) rfl rfl h116) rfl
                  · intro w' hb' fr hout hin
                    have e16 : fr.tmps.getD 16 undef = .int .u8 (y : Nat) := hout 16 (by decide)
                    have h116 : fr.tmps.getD 116 undef = .bool false := hin 116 (by decide) (by decide)
                    clear hout hin
                    exact relStep_move (.tmp 16) rfl (wanted_some (g := 5) (t := 116) (b := false) rfl rfl h116) (by show fr.tmps.getD 16 undef = _; rw [e16])
                  · intro w' hb' fr hout hin
                    have h119 : fr.tmps.getD 119 undef = .int .u8 (y : Nat) := hin 119 (by decide) (by decide)
                    have h120 : fr.tmps.getD 120 undef = .int .u8 (y : Nat) := hin 120 (by decide) (by decide)
                    have h116 : fr.tmps.getD 116 undef = .bool false := hin 116 (by decide) (by decide)
                    clear hout hin
                    exact op_neU8 (.tmp 119) (.tmp 120) _ rfl h119 h120 (wanted_some (g := 5) (t := 116) (b := false) rfl rfl h116) rfl
                  · intro w' hb' fr hout hin
                    have h116 : fr.tmps.getD 116 undef = .bool false := hin 116 (by decide) (by decide)
                    have h121 : fr.tmps.getD 121 undef = .bool false := hin 121 (by decide) (by decide)
                    clear hout hin
                    exact relStep_pickF (.tmp 116) (.const (.bool true)) (.tmp 121) rfl h116 (wanted_none rfl) (by show fr.tmps.getD 121 undef = _; rw [h121])
                  · intro w' hb' fr hout hin
                    have h122 : fr.tmps.getD 122 undef = .bool false := hin 122 (by decide) (by decide)
                    clear hout hin
                    exact relStep_move (.tmp 122) rfl (wanted_none rfl) (by show fr.tmps.getD 122 undef = _; rw [h122])
                  · intro w' hb' fr hout hin
                    have e14 : fr.tmps.getD 14 undef = .int .i64 (m : Nat) := hout 14 (by decide)
                    have h123 : fr.tmps.getD 123 undef = .bool false := hin 123 (by decide) (by decide)
                    clear hout hin
                    exact relStep_move (.tmp 14) rfl (wanted_some (g := 12) (t := 123) (b := false) rfl rfl h123) (by show fr.tmps.getD 14 undef = _; rw [e14])
                  · intro w' hb' fr hout hin
                    have h124 : fr.tmps.getD 124 undef = .int .i64 (m : Nat) := hin 124 (by decide) (by decide)
                    have h123 : fr.tmps.getD 123 undef = .bool false := hin 123 (by decide) (by decide)
                    clear hout hin
                    exact op_conv64 (.tmp 124) rfl (by omega) h124 (wanted_some (g := 12) (t := 123) (b := false) rfl rfl h123) rfl
                  · intro w' hb' fr hout hin
                    have h125 : fr.tmps.getD 125 undef = .int .u64 (m : Nat) := hin 125 (by decide) (by decide)
                    have h123 : fr.tmps.getD 123 undef = .bool false := hin 123 (by decide) (by decide)
                    clear hout hin
                    exact relStep_callW 29 #[.int .u64 (m : Nat)] (wanted_some (g := 12) (t := 123) (b := false) rfl rfl h123) (KM.out _) (fun _ => rfl) (by have hh := h125; go_simp)
                  · intro w' hb' fr hout hin
                    have e2 : fr.tmps.getD 2 undef = .pointer (some ⟨w.heap.size, 0, none⟩) := hout 2 (by decide)
                    have h123 : fr.tmps.getD 123 undef = .bool false := hin 123 (by decide) (by decide)
                    clear hout hin
                    exact op_load (n := a) (.tmp 2) rfl e2 ((gA.out.below hb' gA.out.lt).cells4) (wanted_some (g := 12) (t := 123) (b := false) rfl rfl h123) rfl
                  · intro w' hb' fr hout hin
                    have h126 : fr.tmps.getD 126 undef = W m := hin 126 (by decide) (by decide)
                    have h127 : fr.tmps.getD 127 undef = W a := hin 127 (by decide) (by decide)
                    have h123 : fr.tmps.getD 123 undef = .bool false := hin 123 (by decide) (by decide)
                    clear hout hin
                    exact relStep_callW 66 #[W m, W a] (wanted_some (g := 12) (t := 123) (b := false) rfl rfl h123) (KB.out _) (fun _ => rfl) (by have hh := (And.intro h126 h127); go_simp)
                  · intro w' hb' fr hout hin
                    have e14 : fr.tmps.getD 14 undef = .int .i64 (m : Nat) := hout 14 (by decide)
                    have h123 : fr.tmps.getD 123 undef = .bool false := hin 123 (by decide) (by decide)
                    clear hout hin
                    exact relStep_move (.tmp 14) rfl (wanted_some (g := 12) (t := 123) (b := false) rfl rfl h123) (by show fr.tmps.getD 14 undef = _; rw [e14])
                  · intro w' hb' fr hout hin
                    have e5 : fr.tmps.getD 5 undef = .pointer (some ⟨G, 0, none⟩) := hout 5 (by decide)
                    have h129 : fr.tmps.getD 129 undef = .int .i64 (m : Nat) := hin 129 (by decide) (by decide)
                    have h123 : fr.tmps.getD 123 undef = .bool false := hin 123 (by decide) (by decide)
                    clear hout hin
                    exact op_index33 (.tmp 5) (.tmp 129) rfl (by omega) e5 h129 (wanted_some (g := 12) (t := 123) (b := false) rfl rfl h123) rfl
                  · intro w' hb' fr hout hin
                    have h130 : fr.tmps.getD 130 undef = .pointer (some ⟨G, m, none⟩) := hin 130 (by decide) (by decide)
                    have h123 : fr.tmps.getD 123 undef = .bool false := hin 123 (by decide) (by decide)
                    clear hout hin
                    exact op_load8 (.tmp 130) rfl h130 (CZ.out w' hb') (wanted_some (g := 12) (t := 123) (b := false) rfl rfl h123) rfl
                  · intro w' hb' fr hout hin
                    have h131 : fr.tmps.getD 131 undef = .int .u8 (z : Nat) := hin 131 (by decide) (by decide)
                    have h123 : fr.tmps.getD 123 undef = .bool false := hin 123 (by decide) (by decide)
                    clear hout hin
                    exact op_conv8 (.tmp 131) rfl (by omega) h131 (wanted_some (g := 12) (t := 123) (b := false) rfl rfl h123) rfl
                  · intro w' hb' fr hout hin
                    have h132 : fr.tmps.getD 132 undef = .int .u64 (z : Nat) := hin 132 (by decide) (by decide)
                    have h123 : fr.tmps.getD 123 undef = .bool false := hin 123 (by decide) (by decide)
                    clear hout hin
                    exact relStep_callW 29 #[.int .u64 (z : Nat)] (wanted_some (g := 12) (t := 123) (b := false) rfl rfl h123) (KZ.out _) (fun _ => rfl) (by have hh := h132; go_simp)
                  · intro w' hb' fr hout hin
                    have h128 : fr.tmps.getD 128 undef = W z := hin 128 (by decide) (by decide)
                    have h133 : fr.tmps.getD 133 undef = W z := hin 133 (by decide) (by decide)
                    have h123 : fr.tmps.getD 123 undef = .bool false := hin 123 (by decide) (by decide)
                    clear hout hin
                    exact op_neW (n := z) (.tmp 128) (.tmp 133) _ rfl h128 h133 (wanted_some (g := 12) (t := 123) (b := false) rfl rfl h123) rfl
                  · intro w' hb' fr hout hin
                    have h123 : fr.tmps.getD 123 undef = .bool false := hin 123 (by decide) (by decide)
                    have h134 : fr.tmps.getD 134 undef = .bool false := hin 134 (by decide) (by decide)
                    clear hout hin
                    exact relStep_pickF (.tmp 123) (.const (.bool true)) (.tmp 134) rfl h123 (wanted_none rfl) (by show fr.tmps.getD 134 undef = _; rw [h134])
                · intro w' hb'
                  refine relAsk_in (by rfl) ?_
                  intro v111 h111
                  obtain rfl : v111 = .int .i64 (m : Nat) := h111
                  refine relAsk_in (by rfl) ?_
                  intro v112 h112
                  obtain rfl : v112 = .pointer (some ⟨g12, m, none⟩) := h112
                  refine relAsk_in (by rfl) ?_
                  intro v113 h113
                  obtain rfl : v113 = .int .u8 0 := h113
                  refine relAsk_in (by rfl) ?_
                  intro v114 h114
                  obtain rfl : v114 = .int .u8 0 := h114
                  refine relAsk_in (by rfl) ?_
                  intro v115 h115
                  obtain rfl : v115 = .bool false := h115
                  refine relAsk_in (by rfl) ?_
                  intro v116 h116
                  obtain rfl : v116 = .bool false := h116
                  refine relAsk_in (by rfl) ?_
                  intro v117 h117
                  obtain rfl : v117 = .int .i64 (m : Nat) := h117
                  refine relAsk_in (by rfl) ?_
                  intro v118 h118
                  obtain rfl : v118 = .pointer (some ⟨g13, m, none⟩) := h118
                  refine relAsk_in (by rfl) ?_
                  intro v119 h119
                  obtain rfl : v119 = .int .u8 (y : Nat) := h119
                  refine relAsk_in (by rfl) ?_
                  intro v120 h120
                  obtain rfl : v120 = .int .u8 (y : Nat) := h120
                  refine relAsk_in (by rfl) ?_
                  intro v121 h121
                  obtain rfl : v121 = .bool false := h121
                  refine relAsk_in (by rfl) ?_
                  intro v122 h122
                  obtain rfl : v122 = .bool false := h122
                  refine relAsk_in (by rfl) ?_
                  intro v123 h123
                  obtain rfl : v123 = .bool false := h123
                  refine relAsk_in (by rfl) ?_
                  intro v124 h124
                  obtain rfl : v124 = .int .i64 (m : Nat) := h124
                  refine relAsk_in (by rfl) ?_
                  intro v125 h125
                  obtain rfl : v125 = .int .u64 (m : Nat) := h125
                  refine relAsk_in (by rfl) ?_
                  intro v126 h126
                  obtain rfl : v126 = W m := h126
                  refine relAsk_in (by rfl) ?_
                  intro v127 h127
                  obtain rfl : v127 = W a := h127
                  refine relAsk_in (by rfl) ?_
                  intro v128 h128
                  obtain rfl : v128 = W z := h128
                  refine relAsk_in (by rfl) ?_
                  intro v129 h129
                  obtain rfl : v129 = .int .i64 (m : Nat) := h129
                  refine relAsk_in (by rfl) ?_
                  intro v130 h130
                  obtain rfl : v130 = .pointer (some ⟨G, m, none⟩) := h130
                  refine relAsk_in (by rfl) ?_
                  intro v131 h131
                  obtain rfl : v131 = .int .u8 (z : Nat) := h131
                  refine relAsk_in (by rfl) ?_
                  intro v132 h132
                  obtain rfl : v132 = .int .u64 (z : Nat) := h132
                  refine relAsk_in (by rfl) ?_
                  intro v133 h133
                  obtain rfl : v133 = W z := h133
                  refine relAsk_in (by rfl) ?_
                  intro v134 h134
                  obtain rfl : v134 = .bool false := h134
                  refine relAsk_in (by rfl) ?_
                  intro v135 h135
                  obtain rfl : v135 = .bool false := h135
                  refine relAsk_nil ?_
                  refine wpList_nil ?_
                  go_simp
                  have H5 := H5.out.below hb' H5.out.lt
                  have gA := gA.out.below hb' gA.out.lt
                  have H12 := H12.out.below hb' H12.out.lt
                  have H13 := H13.out.below hb' H13.out.lt
                  have gW := gW.out.trans (hb'.mono gW.out.size)
                  have k5 := Lib.hid H5
                  have kA := Lib.hid gA
                  have k12 := Lib.hid H12
                  have k13 := Lib.hid H13
                  have kW := Lib.hid gW
                  clear hb' H5 gA H12 H13 gW
                  go_wp2_with fail
                  go_roundw
                  case rel => exact ⟨m + 1, by omega, by go_num, k5, kA, k12, k13, kW⟩
                  case measure => simp [intOf]; omega
              · have ht1 : decide (((m + k : Nat) : Int) < 32) = false := decide_eq_false (by omega)
                have cl : ∀ W', Below wr.heap.size wr W' → W'.cell? ⟨g12, m, none⟩ = some (.int .u8 0) := fun W' hb => by
                  have h := (H12.out.below hb H12.out.lt).cell m (by rw [bytes32_len]; omega)
                  rw [LB.out m (by omega), if_neg h1] at h
                  exact h
                have ht2 : decide ((k : Int) ≤ (m : Int)) = false := decide_eq_false (by omega)
                have cr : ∀ W', Below wr.heap.size wr W' → W'.cell? ⟨g13, m, none⟩ = some (.int .u8 0) := fun W' hb => by
                  have h := (H13.out.below hb H13.out.lt).cell m (by rw [bytes32_len]; omega)
                  rw [RB.out m (by omega), if_neg h2] at h
                  exact h
                have h1i : ¬ ((m : Int) + (k : Int) < 32) := by omega
                have h2i : ¬ ((k : Int) ≤ (m : Int)) := by omega
                have CL := Lib.hid cl
                have CR := Lib.hid cr
                clear cl cr ex ey h1 h2
                go_wp2_with fail
                clear ht1 ht2 hmk h1i h2i
                refine wp_region_see 25 [111, 112, 113, 114, 115, 116, 117, 118, 119, 120, 121, 122, 123, 124, 125, 126, 127, 128, 129, 130, 131, 132, 133, 134, 135] [(111, .is (.int .i64 (m : Nat))), (112, .is (.pointer (some ⟨g12, m, none⟩))), (113, .is (.int .u8 0)), (114, .is (.int .u8 0)), (115, .is (.bool false)), (116, .is (.bool false)), (117, .is (.int .i64 (m : Nat))), (118, .is (.pointer (some ⟨g13, m, none⟩))), (119, .is (.int .u8 0)), (120, .is (.int .u8 0)), (121, .is (.bool false)), (122, .is (.bool false)), (123, .is (.bool false)), (124, .is (.int .i64 (m : Nat))), (125, .is (.int .u64 (m : Nat))), (126, .is (W m)), (127, .is (W a)), (128, .is (W z)), (129, .is (.int .i64 (m : Nat))), (130, .is (.pointer (some ⟨G, m, none⟩))), (131, .is (.int .u8 (z : Nat))), (132, .is (.int .u64 (z : Nat))), (133, .is (W z)), (134, .is (.bool false)), (135, .is (.bool false))] (by kernel_rfl) (by kernel_rfl) (by rfl) ?_ ?_
                · refine seeOps_cons ?_ (seeOps_cons ?_ (seeOps_cons ?_ (seeOps_cons ?_ (seeOps_cons ?_ (seeOps_cons ?_ (seeOps_cons ?_ (seeOps_cons ?_ (seeOps_cons ?_ (seeOps_cons ?_ (seeOps_cons ?_ (seeOps_cons ?_ (seeOps_cons ?_ (seeOps_cons ?_ (seeOps_cons ?_ (seeOps_cons ?_ (seeOps_cons ?_ (seeOps_cons ?_ (seeOps_cons ?_ (seeOps_cons ?_ (seeOps_cons ?_ (seeOps_cons ?_ (seeOps_cons ?_ (seeOps_cons ?_ (seeOps_cons ?_ seeOps_nil))))))))))))))))))))))))
                  · intro w' hb' fr hout hin
                    have e14 : fr.tmps.getD 14 undef = .int .i64 (m : Nat) := hout 14 (by decide)
                    clear hout hin
                    exact relStep_move (.tmp 14) rfl (wanted_none rfl) (by show fr.tmps.getD 14 undef = _; rw [e14])
                  · intro w' hb' fr hout hin
                    have e12 : fr.tmps.getD 12 undef = .pointer (some ⟨g12, 0, none⟩) := hout 12 (by decide)
                    have h111 : fr.tmps.getD 111 undef = .int .i64 (m : Nat) := hin 111 (by decide) (by decide)
                    clear hout hin
                    exact op_index33 (.tmp 12) (.tmp 111) rfl (by omega) e12 h111 (wanted_none rfl) rfl
                  · intro w' hb' fr hout hin
                    have h112 : fr.tmps.getD 112 undef = .pointer (some ⟨g12, m, none⟩) := hin 112 (by decide) (by decide)
                    clear hout hin
                    exact op_load8 (.tmp 112) rfl h112 (CL.out w' hb') (wanted_none rfl) rfl
                  · intro w' hb' fr hout hin
                    have e15 : fr.tmps.getD 15 undef = .int .u8 0 := hout 15 (by decide)
                    clear hout hin
                    exact relStep_move (.tmp 15) rfl (wanted_none rfl) (by show fr.tmps.getD 15 undef = _; rw [e15])
                  · intro w' hb' fr hout hin
                    have h113 : fr.tmps.getD 113 undef = .int .u8 0 := hin 113 (by decide) (by decide)
                    have h114 : fr.tmps.getD 114 undef = .int .u8 0 := hin 114 (by decide) (by decide)
                    clear hout hin
                    exact op_neU8 (.tmp 113) (.tmp 114) _ rfl h113 h114 (wanted_none rfl) rfl
                  · intro w' hb' fr hout hin
                    have h115 : fr.tmps.getD 115 undef = .bool false := hin 115 (by decide) (by decide)
                    clear hout hin
                    exact relStep_move (.tmp 115) rfl (wanted_none rfl) (by show fr.tmps.getD 115 undef = _; rw [h115])
                  · intro w' hb' fr hout hin
                    have e14 : fr.tmps.getD 14 undef = .int .i64 (m : Nat) := hout 14 (by decide)
                    have h116 : fr.tmps.getD 116 undef = .bool false := hin 116 (by decide) (by decide)
                    clear hout hin
                    exact relStep_move (.tmp 14) rfl (wanted_some (g := 5) (t := 116) (b := false) rfl rfl h116) (by show fr.tmps.getD 14 undef = _; rw [e14])
                  · intro w' hb' fr hout hin
                    have e13 : fr.tmps.getD 13 undef = .pointer (some ⟨g13, 0, none⟩) := hout 13 (by decide)
                    have h117 : fr.tmps.getD 117 undef = .int .i64 (m : Nat) := hin 117 (by decide) (by decide)
                    have h116 : fr.tmps.getD 116 undef = .bool false := hin 116 (by decide) (by decide)
                    clear hout hin
                    exact op_index33 (.tmp 13) (.tmp 117) rfl (by omega) e13 h117 (wanted_some (g := 5) (t := 116) (b := false) rfl rfl h116) rfl
                  · intro w' hb' fr hout hin
                    have h118 : fr.tmps.getD 118 undef = .pointer (some ⟨g13, m, none⟩) := hin 118 (by decide) (by decide)
                    have h116 : fr.tmps.getD 116 undef = .bool false := hin 116 (by decide) (by decide)
                    clear hout hin
                    exact op_load8 (.tmp 118) rfl h118 (CR.out w' hb') (wanted_some (g := 5) (t := 116) (b := false) rfl rfl h116) rfl
                  · intro w' hb' fr hout hin
                    have e16 : fr.tmps.getD 16 undef = .int .u8 0 := hout 16 (by decide)
                    have h116 : fr.tmps.getD 116 undef = .bool false := hin 116 (by decide) (by decide)
                    clear hout hin
                    exact relStep_move (.tmp 16) rfl (wanted_some (g := 5) (t := 116) (b := false) rfl rfl h116) (by show fr.tmps.getD 16 undef = _; rw [e16])
                  · intro w' hb' fr hout hin
                    have h119 : fr.tmps.getD 119 undef = .int .u8 0 := hin 119 (by decide) (by decide)
                    have h120 : fr.tmps.getD 120 undef = .int .u8 0 := hin 120 (by decide) (by decide)
                    have h116 : fr.tmps.getD 116 undef = .bool false := hin 116 (by decide) (by decide)
                    clear hout hin
                    exact op_neU8 (.tmp 119) (.tmp 120) _ rfl h119 h120 (wanted_some (g := 5) (t := 116) (b := false) rfl rfl h116) rfl
                  · intro w' hb' fr hout hin
                    have h116 : fr.tmps.getD 116 undef = .bool false := hin 116 (by decide) (by decide)
                    have h121 : fr.tmps.getD 121 undef = .bool false := hin 121 (by decide) (by decide)
                    clear hout hin
                    exact relStep_pickF (.tmp 116) (.const (.bool true)) (.tmp 121) rfl h116 (wanted_none rfl) (by show fr.tmps.getD 121 undef = _; rw [h121])
                  · intro w' hb' fr hout hin
                    have h122 : fr.tmps.getD 122 undef = .bool false := hin 122 (by decide) (by decide)
                    clear hout hin
                    exact relStep_move (.tmp 122) rfl (wanted_none rfl) (by show fr.tmps.getD 122 undef = _; rw [h122])
                  · intro w' hb' fr hout hin
                    have e14 : fr.tmps.getD 14 undef = .int .i64 (m : Nat) := hout 14 (by decide)
                    have h123 : fr.tmps.getD 123 undef = .bool false := hin 123 (by decide) (by decide)
                    clear hout hin
                    exact relStep_move (.tmp 14) rfl (wanted_some (g := 12) (t := 123) (b := false) rfl rfl h123) (by show fr.tmps.getD 14 undef = _; rw [e14])
                  · intro w' hb' fr hout hin
                    have h124 : fr.tmps.getD 124 undef = .int .i64 (m : Nat) := hin 124 (by decide) (by decide)
                    have h123 : fr.tmps.getD 123 undef = .bool false := hin 123 (by decide) (by decide)
                    clear hout hin
                    exact op_conv64 (.tmp 124) rfl (by omega) h124 (wanted_some (g := 12) (t := 123) (b := false) rfl rfl h123) rfl
                  · intro w' hb' fr hout hin
                    have h125 : fr.tmps.getD 125 undef = .int .u64 (m : Nat) := hin 125 (by decide) (by decide)
                    have h123 : fr.tmps.getD 123 undef = .bool false := hin 123 (by decide) (by decide)
                    clear hout hin
                    exact relStep_callW 29 #[.int .u64 (m : Nat)] (wanted_some (g := 12) (t := 123) (b := false) rfl rfl h123) (KM.out _) (fun _ => rfl) (by have hh := h125; go_simp)
                  · intro w' hb' fr hout hin
                    have e2 : fr.tmps.getD 2 undef = .pointer (some ⟨w.heap.size, 0, none⟩) := hout 2 (by decide)
                    have h123 : fr.tmps.getD 123 undef = .bool false := hin 123 (by decide) (by decide)
                    clear hout hin
                    exact op_load (n := a) (.tmp 2) rfl e2 ((gA.out.below hb' gA.out.lt).cells4) (wanted_some (g := 12) (t := 123) (b := false) rfl rfl h123) rfl
                  · intro w' hb' fr hout hin
                    have h126 : fr.tmps.getD 126 undef = W m := hin 126 (by decide) (by decide)
                    have h127 : fr.tmps.getD 127 undef = W a := hin 127 (by decide) (by decide)
                    have h123 : fr.tmps.getD 123 undef = .bool false := hin 123 (by decide) (by decide)
                    clear hout hin
                    exact relStep_callW 66 #[W m, W a] (wanted_some (g := 12) (t := 123) (b := false) rfl rfl h123) (KB.out _) (fun _ => rfl) (by have hh := (And.intro h126 h127); go_simp)
                  · intro w' hb' fr hout hin
                    have e14 : fr.tmps.getD 14 undef = .int .i64 (m : Nat) := hout 14 (by decide)
                    have h123 : fr.tmps.getD 123 undef = .bool false := hin 123 (by decide) (by decide)
                    clear hout hin
                    exact relStep_move (.tmp 14) rfl (wanted_some (g := 12) (t := 123) (b := false) rfl rfl h123) (by show fr.tmps.getD 14 undef = _; rw [e14])
                  · intro w' hb' fr hout hin
                    have e5 : fr.tmps.getD 5 undef = .pointer (some ⟨G, 0, none⟩) := hout 5 (by decide)
                    have h129 : fr.tmps.getD 129 undef = .int .i64 (m : Nat) := hin 129 (by decide) (by decide)
                    have h123 : fr.tmps.getD 123 undef = .bool false := hin 123 (by decide) (by decide)
                    clear hout hin
                    exact op_index33 (.tmp 5) (.tmp 129) rfl (by omega) e5 h129 (wanted_some (g := 12) (t := 123) (b := false) rfl rfl h123) rfl
                  · intro w' hb' fr hout hin
                    have h130 : fr.tmps.getD 130 undef = .pointer (some ⟨G, m, none⟩) := hin 130 (by decide) (by decide)
                    have h123 : fr.tmps.getD 123 undef = .bool false := hin 123 (by decide) (by decide)
                    clear hout hin
                    exact op_load8 (.tmp 130) rfl h130 (CZ.out w' hb') (wanted_some (g := 12) (t := 123) (b := false) rfl rfl h123) rfl
                  · intro w' hb' fr hout hin
                    have h131 : fr.tmps.getD 131 undef = .int .u8 (z : Nat) := hin 131 (by decide) (by decide)
                    have h123 : fr.tmps.getD 123 undef = .bool false := hin 123 (by decide) (by decide)
                    clear hout hin
                    exact op_conv8 (.tmp 131) rfl (by omega) h131 (wanted_some (g := 12) (t := 123) (b := false) rfl rfl h123) rfl
                  · intro w' hb' fr hout hin
                    have h132 : fr.tmps.getD 132 undef = .int .u64 (z : Nat) := hin 132 (by decide) (by decide)
                    have h123 : fr.tmps.getD 123 undef = .bool false := hin 123 (by decide) (by decide)
                    clear hout hin
                    exact relStep_callW 29 #[.int .u64 (z : Nat)] (wanted_some (g := 12) (t := 123) (b := false) rfl rfl h123) (KZ.out _) (fun _ => rfl) (by have hh := h132; go_simp)
                  · intro w' hb' fr hout hin
                    have h128 : fr.tmps.getD 128 undef = W z := hin 128 (by decide) (by decide)
                    have h133 : fr.tmps.getD 133 undef = W z := hin 133 (by decide) (by decide)
                    have h123 : fr.tmps.getD 123 undef = .bool false := hin 123 (by decide) (by decide)
                    clear hout hin
                    exact op_neW (n := z) (.tmp 128) (.tmp 133) _ rfl h128 h133 (wanted_some (g := 12) (t := 123) (b := false) rfl rfl h123) rfl
                  · intro w' hb' fr hout hin
                    have h123 : fr.tmps.getD 123 undef = .bool false := hin 123 (by decide) (by decide)
                    have h134 : fr.tmps.getD 134 undef = .bool false := hin 134 (by decide) (by decide)
                    clear hout hin
                    exact relStep_pickF (.tmp 123) (.const (.bool true)) (.tmp 134) rfl h123 (wanted_none rfl) (by show fr.tmps.getD 134 undef = _; rw [h134])
                · intro w' hb'
                  refine relAsk_in (by rfl) ?_
                  intro v111 h111
                  obtain rfl : v111 = .int .i64 (m : Nat) := h111
                  refine relAsk_in (by rfl) ?_
                  intro v112 h112
                  obtain rfl : v112 = .pointer (some ⟨g12, m, none⟩) := h112
                  refine relAsk_in (by rfl) ?_
                  intro v113 h113
                  obtain rfl : v113 = .int .u8 0 := h113
                  refine relAsk_in (by rfl) ?_
                  intro v114 h114
                  obtain rfl : v114 = .int .u8 0 := h114
                  refine relAsk_in (by rfl) ?_
                  intro v115 h115
                  obtain rfl : v115 = .bool false := h115
                  refine relAsk_in (by rfl) ?_
                  intro v116 h116
                  obtain rfl : v116 = .bool false := h116
                  refine relAsk_in (by rfl) ?_
                  intro v117 h117
                  obtain rfl : v117 = .int .i64 (m : Nat) := h117
                  refine relAsk_in (by rfl) ?_
                  intro v118 h118
                  obtain rfl : v118 = .pointer (some ⟨g13, m, none⟩) := h118
                  refine relAsk_in (by rfl) ?_
                  intro v119 h119
                  obtain rfl : v119 = .int .u8 0 := h119
                  refine relAsk_in (by rfl) ?_
                  intro v120 h120
                  obtain rfl : v120 = .int .u8 0 := h120
                  refine relAsk_in (by rfl) ?_
                  intro v121 h121
                  obtain rfl : v121 = .bool false := h121
                  refine relAsk_in (by rfl) ?_
                  intro v122 h122
                  obtain rfl : v122 = .bool false := h122
                  refine relAsk_in (by rfl) ?_
                  intro v123 h123
                  obtain rfl : v123 = .bool false := h123
                  refine relAsk_in (by rfl) ?_
                  intro v124 h124
                  obtain rfl : v124 = .int .i64 (m : Nat) := h124
                  refine relAsk_in (by rfl) ?_
                  intro v125 h125
                  obtain rfl : v125 = .int .u64 (m : Nat) := h125
                  refine relAsk_in (by rfl) ?_
                  intro v126 h126
                  obtain rfl : v126 = W m := h126
                  refine relAsk_in (by rfl) ?_
                  intro v127 h127
                  obtain rfl : v127 = W a := h127
                  refine relAsk_in (by rfl) ?_
                  intro v128 h128
                  obtain rfl : v128 = W z := h128
                  refine relAsk_in (by rfl) ?_
                  intro v129 h129
                  obtain rfl : v129 = .int .i64 (m : Nat) := h129
                  refine relAsk_in (by rfl) ?_
                  intro v130 h130
                  obtain rfl : v130 = .pointer (some ⟨G, m, none⟩) := h130
                  refine relAsk_in (by rfl) ?_
                  intro v131 h131
                  obtain rfl : v131 = .int .u8 (z : Nat) := h131
                  refine relAsk_in (by rfl) ?_
                  intro v132 h132
                  obtain rfl : v132 = .int .u64 (z : Nat) := h132
                  refine relAsk_in (by rfl) ?_
                  intro v133 h133
                  obtain rfl : v133 = W z := h133
                  refine relAsk_in (by rfl) ?_
                  intro v134 h134
                  obtain rfl : v134 = .bool false := h134
                  refine relAsk_in (by rfl) ?_
                  intro v135 h135
                  obtain rfl : v135 = .bool false := h135
                  refine relAsk_nil ?_
                  refine wpList_nil ?_
                  go_simp
                  have H5 := H5.out.below hb' H5.out.lt
                  have gA := gA.out.below hb' gA.out.lt
                  have H12 := H12.out.below hb' H12.out.lt
                  have H13 := H13.out.below hb' H13.out.lt
                  have gW := gW.out.trans (hb'.mono gW.out.size)
                  have k5 := Lib.hid H5
                  have kA := Lib.hid gA
                  have k12 := Lib.hid H12
                  have k13 := Lib.hid H13
                  have kW := Lib.hid gW
                  clear hb' H5 gA H12 H13 gW
                  go_wp2_with fail
                  go_roundw
                  case rel => exact ⟨m + 1, by omega, by go_num, k5, kA, k12, k13, kW⟩
                  case measure => simp [intOf]; omega
          · obtain rfl : m = 32 := by omega
            have kw := Lib.hid (wakes_c)
            go_wp2_with fail
            (with_reducible refine (kw.out _).mono ?_)
            rintro e w9 ⟨rfl, hb9⟩
            have kW := Lib.hid (gW.out.trans (hb9.mono gW.out.size))
            clear hb9
            go_wp2_with fail
            go_ret
            exact ⟨rfl, kW.out⟩
  · have hs0 : 0 < (sl : Int) := by omega
    have hnz := short_top HA.out (by rw [← HSL.out]; exact h0)
    obtain ⟨b0, o0, rfl, hbb, hcell⟩ := HRD.out.at_ (by rw [← HSL.out]; exact h0)
    have c0 := hcell 0 (by rw [← HSL.out]; exact h0)
    rw [Nat.add_zero] at c0
    obtain ⟨v0, hv0⟩ : ∃ v0, v0 = (shortv a).getD 0 0 := ⟨_, rfl⟩
    rw [← hv0] at c0 hnz
    have hvi : ¬ ((v0 : Int) = 0) := by omega
    clear hcell hbb hv0 hnz h0
    go_wp2_with fail
    (with_reducible refine (K2.out _).mono ?_)
    rintro e w6 ⟨nb, rfl, hbits, hb1⟩
    have hnb := bits_blen hbits
    subst hnb
    have hk := short_k HA.out
    have hsl := HSL.out
    rw [shortv_len HA.out] at hsl
    obtain ⟨bl, hbl⟩ : ∃ bl, bl = blen a := ⟨_, rfl⟩
    have hb256 : bl ≤ 256 := by rw [hbl]; exact blen_big HA.out
    rw [← hbl] at hsl ⊢
    have e1 : ((bl : Int) + 7) / 8 = (sl : Int) := by omega
    have e2 : ((bl : Int) + 7).tdiv 8 = (sl : Int) := by rw [Int.tdiv_eq_ediv_of_nonneg (by omega)]; omega
    have H5 := Lib.hid (H5.out.below hb1 H5.out.lt)
    have gA := Lib.hid (gA.out.below hb1 gA.out.lt)
    have gW := Lib.hid (gW.out.trans (hb1.mono gW.out.size))
    clear hbits hb1 hk hbl hsl x0 x1 x2 x3 y0 y1 y2 y3 z0 z1 z2 z3 K2
    go_upto_region 7 with (fail)
    obtain ⟨r, hr⟩ : ∃ r : Int, n.tmod 32 = r := ⟨_, rfl⟩
    have hr1 : -32 < r ∧ r < 32 := by
      rw [← hr]
      rcases Int.le_total 0 n with h | h
      · rw [Int.tmod_eq_emod_of_nonneg h]; omega
      · have e : n = -(-n) := by omega
        rw [e, Int.neg_tmod, Int.tmod_eq_emod_of_nonneg (by omega)]; omega
    obtain ⟨hr2, hr3⟩ := hr1
    obtain ⟨t, ht⟩ : ∃ t : Nat, r + 32 = (t : Int) := ⟨(r + 32).toNat, by omega⟩
    have e3 : IntKind.i64.wrap (r + 32) = (t : Int) := by rw [IntWalk.i64_in _ (by omega)]; exact ht
    obtain ⟨k, hk⟩ : ∃ k, k = t % 32 := ⟨_, rfl⟩
    have e4 : (t : Int) % 32 = (k : Int) := by omega
    have e5 : (t : Int).tmod 32 = (k : Int) := by rw [Int.tmod_eq_emod_of_nonneg (by omega)]; omega
    have hk32 : k < 32 := by omega
    have HK32 := Lib.hid hk32
    clear hk
    go_upto_region 8 with (fail)
    clear e3 e4 e5 ht hr2 hr3 hr e1 e2 hs32
    obtain ⟨s, hs⟩ : ∃ s, s = 8 * k := ⟨_, rfl⟩
    have hsb : s < 256 := by omega
    obtain ⟨l, hl⟩ : ∃ l, l = shlv s a := ⟨_, rfl⟩
    obtain ⟨rr, hrr⟩ : ∃ rr, rr = shrv s a := ⟨_, rfl⟩
    have bl1 : Big l := by rw [hl]; exact shlv_big _ _
    have br1 : Big rr := by rw [hrr]; exact shrv_big _ HA.out
    have bs1 : Big s := by unfold Big; omega
    have k1 : ∀ w, Calls Try.prog 29 #[.int .u64 (s : Nat)] w (RetW s w) := fun w => of_c s (by unfold Lim; omega) w
    have k2 : ∀ w, Calls Try.prog 68 #[W s, W a] w (RetW l w) := fun w => by have h := shl_c bs1 HA.out w; rw [show (if s < 256 then a * 2 ^ s % 115792089237316195423570985008687907853269984665640564039457584007913129639936 else 0) = l from hl.symm] at h; exact h
    have k3 : ∀ w, Calls Try.prog 70 #[W s, W a] w (RetW rr w) := fun w => by have h := shr_c bs1 HA.out w; rw [show (if s < 256 then a / 2 ^ s else 0) = rr from hrr.symm] at h; exact h
    have k4 : ∀ w, Calls Try.prog 23 #[W l] w (RetV (BV (bytes32 l)) w) := fun w => bytes_c bl1 w
    have k5 : ∀ w, Calls Try.prog 23 #[W rr] w (RetV (BV (bytes32 rr)) w) := fun w => bytes_c br1 w
    have lbyte : ∀ i, i < 32 → (bytes32 l).getD i 0 = if i + k < 32 then (bytes32 a).getD (i + k) 0 else 0 := fun i hi => by rw [hl, hs]; exact shl_byte HA.out HK32.out hi
    have rbyte : ∀ i, i < 32 → (bytes32 rr).getD i 0 = if k ≤ i then (bytes32 a).getD (i - k) 0 else 0 := fun i hi => by rw [hrr, hs]; exact shr_byte HA.out HK32.out hi
    have e5 : IntKind.i64.wrap (8 * (k : Int)) = (s : Int) := by rw [show 8 * (k : Int) = (s : Int) by omega]; exact IntWalk.i64_in _ (by omega)
    have e5' : 8 * (k : Int) = (s : Int) := by omega
    have e6 : IntKind.u64.wrap (s : Int) = (s : Int) := by rw [wrapU, Nat.mod_eq_of_lt (by omega)]
    have K1 := Lib.hid k1
    have K2 := Lib.hid k2
    have K3 := Lib.hid k3
    have K4 := Lib.hid k4
    have K5 := Lib.hid k5
    have LB := Lib.hid lbyte
    have RB := Lib.hid rbyte
    have E5 := Lib.hid e5
    have E5' := Lib.hid e5'
    have E6 := Lib.hid e6
    clear k1 k2 k3 k4 k5 lbyte rbyte e5 e5' e6 bl1 br1 bs1 hl hrr hs hsb hk32
    have gl := gA.out.lt
    refine wp_region_rel 8 [(76, (.is (.int .i64 (k : Nat)))), (77, (.is (.int .i64 (s : Nat)))), (78, (.is (.int .u64 (s : Nat)))), (79, (.is (W s))), (80, (.is (W a))), (81, (.is (W l))), (82, (.is (BV (bytes32 l)))), (12, .prow w6.heap.size)] (by kernel_rfl) (by kernel_rfl) ?_ ?_
    · refine relOps_cons ?_ (relOps_cons ?_ (relOps_cons ?_ (relOps_cons ?_ (relOps_cons ?_ (relOps_cons ?_ (relOps_cons ?_ (relOps_cons ?_ relOps_nil)))))))
      · intro w' hb'
        refine relAsk_out (by rfl) ?_
        refine relAsk_nil ?_
        refine relStep_go (by rfl) ?_
        go_simp
        exact rel_val rfl
      · intro w' hb'
        refine relAsk_in (by rfl) ?_
        intro v76 h76
        obtain rfl : v76 = (.int .i64 (k : Nat)) := h76
        refine relAsk_nil ?_
        refine relStep_go (by rfl) ?_
        have e5 := E5.out
        have hk' : (k : Int) < 32 := by have := HK32.out; omega
        have e6 := E5'.out
        have e7 : IntKind.i64.wrap (s : Int) = (s : Int) := IntWalk.i64_in _ (by omega)
        go_simp
        exact rel_val rfl
      · intro w' hb'
        refine relAsk_in (by rfl) ?_
        intro v77 h77
        obtain rfl : v77 = (.int .i64 (s : Nat)) := h77
        refine relAsk_nil ?_
        refine relStep_go (by rfl) ?_
        have e6 := E6.out
        go_simp
        exact rel_val rfl
      · intro w' hb'
        refine relAsk_in (by rfl) ?_
        intro v78 h78
        obtain rfl : v78 = (.int .u64 (s : Nat)) := h78
        refine relAsk_nil ?_
        refine relStep_go (by rfl) ?_
        go_simp
        exact rel_callW (K1.out _) (fun _ => rfl)
      · intro w' hb'
        refine relAsk_out (by rfl) ?_
        refine relAsk_nil ?_
        refine relStep_go (by rfl) ?_
        obtain ⟨x0, x1, x2, x3⟩ := (gA.out.below hb' gA.out.lt).cells4
        go_simp
        exact rel_val rfl
      · intro w' hb'
        refine relAsk_in (by rfl) ?_
        intro v79 h79
        obtain rfl : v79 = (W s) := h79
        refine relAsk_in (by rfl) ?_
        intro v80 h80
        obtain rfl : v80 = (W a) := h80
        refine relAsk_nil ?_
        refine relStep_go (by rfl) ?_
        go_simp
        exact rel_callW (K2.out _) (fun _ => rfl)
      · intro w' hb'
        refine relAsk_in (by rfl) ?_
        intro v81 h81
        obtain rfl : v81 = (W l) := h81
        refine relAsk_nil ?_
        refine relStep_go (by rfl) ?_
        go_simp
        exact rel_callV (K4.out _) (fun _ => rfl)
      · intro w' hb'
        refine relAsk_nil ?_
        refine relStep_go (by rfl) ?_
        go_simp
        exact ⟨(Below.refl _ _).alloc (Nat.le_refl _) _, _, rfl, hb'.size, Row.new (k := .u8) w' 33 (List.replicate 32 0)⟩
    · intro w' hb'
      refine relAsk_in (by rfl) ?_
      intro v76 h76
      obtain rfl : v76 = (.int .i64 (k : Nat)) := h76
      refine relAsk_in (by rfl) ?_
      intro v77 h77
      obtain rfl : v77 = (.int .i64 (s : Nat)) := h77
      refine relAsk_in (by rfl) ?_
      intro v78 h78
      obtain rfl : v78 = (.int .u64 (s : Nat)) := h78
      refine relAsk_in (by rfl) ?_
      intro v79 h79
      obtain rfl : v79 = (W s) := h79
      refine relAsk_in (by rfl) ?_
      intro v80 h80
      obtain rfl : v80 = (W a) := h80
      refine relAsk_in (by rfl) ?_
      intro v81 h81
      obtain rfl : v81 = (W l) := h81
      refine relAsk_in (by rfl) ?_
      intro v82 h82
      obtain rfl : v82 = (BV (bytes32 l)) := h82
      refine relAsk_in (by rfl) ?_
      intro v12 h12
      refine relAsk_nil ?_
      obtain ⟨g12, rfl, hg12, n12⟩ := h12
      refine wpList_store_row rfl 33 (.tmp 12) (.tmp 82) rfl g12 (Cs8 (bytes32 l)) (by go_simp) (by first | (go_simp; done) | (go_simp; rfl)) 33 _ n12 (info33' (bytes32_len l)) (by rw [cs8_size, cs8_size, bytes32_len]; simp) (cs8_one _) ?_
      refine wpList_nil ?_
      have H12 := Lib.hid (n12.toSet (bytes32 l))
      have h5 : Row .u8 (w'.setRow g12 (Cs8 (bytes32 l))) G 33 (bytes32 a) := (setRow_other _ _ _ _ (by have := H5.out.lt; omega)).trans (H5.out.below hb' H5.out.lt)
      have hA : Arr (w'.setRow g12 (Cs8 (bytes32 l))) w.heap.size 24 [lim 0 a, lim 1 a, lim 2 a, lim 3 a] := (setRow_other _ _ _ _ (by have := gA.out.lt; omega)).trans (gA.out.below hb' gA.out.lt)
      have hW := below_setRow (gW.out.trans (hb'.mono gW.out.size)) (show w.heap.size ≤ g12 by have := gW.out.size; omega) (Cs8 (bytes32 l))
      clear n12 hb' H5 gA gW
      generalize w'.setRow g12 (Cs8 (bytes32 l)) = Y8 at *
      have H5 := Lib.hid h5
      have gA := Lib.hid hA
      have gW := Lib.hid hW
      have gl := gA.out.lt
      clear h5 hA hW
      go_simp
      go_wp2_with fail
      refine wp_region_rel 8 [(83, (.is (.int .i64 (k : Nat)))), (84, (.is (.int .i64 (s : Nat)))), (85, (.is (.int .u64 (s : Nat)))), (86, (.is (W s))), (87, (.is (W a))), (88, (.is (W rr))), (89, (.is (BV (bytes32 rr)))), (13, .prow Y8.heap.size)] (by kernel_rfl) (by kernel_rfl) ?_ ?_
      · refine relOps_cons ?_ (relOps_cons ?_ (relOps_cons ?_ (relOps_cons ?_ (relOps_cons ?_ (relOps_cons ?_ (relOps_cons ?_ (relOps_cons ?_ relOps_nil)))))))
        · intro w' hb'
          refine relAsk_out (by rfl) ?_
          refine relAsk_nil ?_
          refine relStep_go (by rfl) ?_
          go_simp
          exact rel_val rfl
        · intro w' hb'
          refine relAsk_in (by rfl) ?_
          intro v83 h83
          obtain rfl : v83 = (.int .i64 (k : Nat)) := h83
          refine relAsk_nil ?_
          refine relStep_go (by rfl) ?_
          have e5 := E5.out
          have hk' : (k : Int) < 32 := by have := HK32.out; omega
          have e6 := E5'.out
          have e7 : IntKind.i64.wrap (s : Int) = (s : Int) := IntWalk.i64_in _ (by omega)
          go_simp
          exact rel_val rfl
        · intro w' hb'
          refine relAsk_in (by rfl) ?_
          intro v84 h84
          obtain rfl : v84 = (.int .i64 (s : Nat)) := h84
          refine relAsk_nil ?_
          refine relStep_go (by rfl) ?_
          have e6 := E6.out
          go_simp
          exact rel_val rfl
        · intro w' hb'
          refine relAsk_in (by rfl) ?_
          intro v85 h85
          obtain rfl : v85 = (.int .u64 (s : Nat)) := h85
          refine relAsk_nil ?_
          refine relStep_go (by rfl) ?_
          go_simp
          exact rel_callW (K1.out _) (fun _ => rfl)
        · intro w' hb'
          refine relAsk_out (by rfl) ?_
          refine relAsk_nil ?_
          refine relStep_go (by rfl) ?_
          obtain ⟨x0, x1, x2, x3⟩ := (gA.out.below hb' gA.out.lt).cells4
          go_simp
          exact rel_val rfl
        · intro w' hb'
          refine relAsk_in (by rfl) ?_
          intro v86 h86
          obtain rfl : v86 = (W s) := h86
          refine relAsk_in (by rfl) ?_
          intro v87 h87
          obtain rfl : v87 = (W a) := h87
          refine relAsk_nil ?_
          refine relStep_go (by rfl) ?_
          go_simp
          exact rel_callW (K3.out _) (fun _ => rfl)
        · intro w' hb'
          refine relAsk_in (by rfl) ?_
          intro v88 h88
          obtain rfl : v88 = (W rr) := h88
          refine relAsk_nil ?_
          refine relStep_go (by rfl) ?_
          go_simp
          exact rel_callV (K5.out _) (fun _ => rfl)
        · intro w' hb'
          refine relAsk_nil ?_
          refine relStep_go (by rfl) ?_
          go_simp
          exact ⟨(Below.refl _ _).alloc (Nat.le_refl _) _, _, rfl, hb'.size, Row.new (k := .u8) w' 33 (List.replicate 32 0)⟩
      · intro w' hb'
        refine relAsk_in (by rfl) ?_
        intro v83 h83
        obtain rfl : v83 = (.int .i64 (k : Nat)) := h83
        refine relAsk_in (by rfl) ?_
        intro v84 h84
        obtain rfl : v84 = (.int .i64 (s : Nat)) := h84
        refine relAsk_in (by rfl) ?_
        intro v85 h85
        obtain rfl : v85 = (.int .u64 (s : Nat)) := h85
        refine relAsk_in (by rfl) ?_
        intro v86 h86
        obtain rfl : v86 = (W s) := h86
        refine relAsk_in (by rfl) ?_
        intro v87 h87
        obtain rfl : v87 = (W a) := h87
        refine relAsk_in (by rfl) ?_
        intro v88 h88
        obtain rfl : v88 = (W rr) := h88
        refine relAsk_in (by rfl) ?_
        intro v89 h89
        obtain rfl : v89 = (BV (bytes32 rr)) := h89
        refine relAsk_in (by rfl) ?_
        intro v13 h13
        refine relAsk_nil ?_
        obtain ⟨g13, rfl, hg13, n13⟩ := h13
        refine wpList_store_row rfl 33 (.tmp 13) (.tmp 89) rfl g13 (Cs8 (bytes32 rr)) (by go_simp) (by first | (go_simp; done) | (go_simp; rfl)) 33 _ n13 (info33' (bytes32_len rr)) (by rw [cs8_size, cs8_size, bytes32_len]; simp) (cs8_one _) ?_
        refine wpList_nil ?_
        have H13 := Lib.hid (n13.toSet (bytes32 rr))
        have h5 : Row .u8 (w'.setRow g13 (Cs8 (bytes32 rr))) G 33 (bytes32 a) := (setRow_other _ _ _ _ (by have := H5.out.lt; omega)).trans (H5.out.below hb' H5.out.lt)
        have hA : Arr (w'.setRow g13 (Cs8 (bytes32 rr))) w.heap.size 24 [lim 0 a, lim 1 a, lim 2 a, lim 3 a] := (setRow_other _ _ _ _ (by have := gA.out.lt; omega)).trans (gA.out.below hb' gA.out.lt)
        have h12 : Row .u8 (w'.setRow g13 (Cs8 (bytes32 rr))) g12 33 (bytes32 l) := (setRow_other _ _ _ _ (by have := H12.out.lt; omega)).trans (H12.out.below hb' H12.out.lt)
        have hW := below_setRow (gW.out.trans (hb'.mono gW.out.size)) (show w.heap.size ≤ g13 by have := gW.out.size; omega) (Cs8 (bytes32 rr))
        clear n13 hb' H5 gA gW H12
        generalize w'.setRow g13 (Cs8 (bytes32 rr)) = Y9 at *
        have H5 := Lib.hid h5
        have gA := Lib.hid hA
        have gW := Lib.hid hW
        have H12 := Lib.hid h12
        clear h5 hA hW h12
        go_simp
        go_wp2_with fail
        have hk32 := HK32.out
        go_loopw [14] (fun i wr => ∃ m : Nat, m ≤ 32 ∧ i = .int .i64 (m : Int) ∧ Hid (Row .u8 wr G 33 (bytes32 a)) ∧ Hid (Arr wr w.heap.size 24 [lim 0 a, lim 1 a, lim 2 a, lim 3 a]) ∧ Hid (Row .u8 wr g12 33 (bytes32 l)) ∧ Hid (Row .u8 wr g13 33 (bytes32 rr)) ∧ Hid (Below w.heap.size w wr))
          (fun i _ => (32 - intOf i).toNat)
        case atStart => exact ⟨0, by omega, rfl, H5, gA, H12, H13, gW⟩
        case round =>
          clear H5 gA H12 H13 gW
          obtain ⟨m, hm, rfl, H5, gA, H12, H13, gW⟩ := hrel
          by_cases hlt : (m : Int) < 32
          · obtain ⟨x, ex⟩ : ∃ x, x = (bytes32 l).getD m 0 := ⟨_, rfl⟩
            obtain ⟨y, ey⟩ : ∃ y, y = (bytes32 rr).getD m 0 := ⟨_, rfl⟩
            obtain ⟨z, ez⟩ : ∃ z, z = (bytes32 a).getD m 0 := ⟨_, rfl⟩
            have hz : z < 256 := by rw [ez]; exact (bytes32_ds a).get (by omega) m
            have cz : ∀ W', Below wr.heap.size wr W' → W'.cell? ⟨G, m, none⟩ = some (.int .u8 (z : Nat)) := fun W' hb => by
              have h := (H5.out.below hb H5.out.lt).cell m (by rw [bytes32_len]; omega)
              rwa [← ez] at h
            have km : ∀ w, Calls Try.prog 29 #[.int .u64 (m : Nat)] w (RetW m w) := fun w => of_c m (by unfold Lim; omega) w
            have kz : ∀ w, Calls Try.prog 29 #[.int .u64 (z : Nat)] w (RetW z w) := fun w => of_c z (by unfold Lim; omega) w
            have kb : ∀ w, Calls Try.prog 66 #[W m, W a] w (RetW z w) := fun w => by
              have h := byte_c (show Big m by unfold Big; omega) HA.out w
              rw [if_pos (by omega), ← bytes32_get a (by omega), ← ez] at h
              exact h
            have CZ := Lib.hid cz
            have KM := Lib.hid km
            have KZ := Lib.hid kz
            have KB := Lib.hid kb
            clear cz km kz kb ez
            have hmk : IntKind.i64.wrap ((m : Int) + (k : Int)) = ((m + k : Nat) : Int) := by rw [IntWalk.i64_in _ (by omega)]; omega
            by_cases h1 : m + k < 32
            · by_cases h2 : k ≤ m
              · have cb := H5.out.cell (m + k) (by rw [bytes32_len]; omega)
                have gx : (bytes32 a).getD (m + k) 0 = x := by rw [ex, LB.out m (by omega), if_pos h1]
                rw [gx] at cb
                have ht1 : decide (((m + k : Nat) : Int) < 32) = true := decide_eq_true (by omega)
                have cl : ∀ W', Below wr.heap.size wr W' → W'.cell? ⟨g12, m, none⟩ = some (.int .u8 (x : Nat)) := fun W' hb => by
                  have h := (H12.out.below hb H12.out.lt).cell m (by rw [bytes32_len]; omega)
                  rwa [← ex] at h
                have cb2 := H5.out.cell (m - k) (by rw [bytes32_len]; omega)
                have gy : (bytes32 a).getD (m - k) 0 = y := by rw [ey, RB.out m (by omega), if_pos h2]
                rw [gy] at cb2
                have hmk2 : IntKind.i64.wrap ((m : Int) - (k : Int)) = ((m - k : Nat) : Int) := by rw [IntWalk.i64_in _ (by omega)]; omega
                have hmk3 : (m : Int) - (k : Int) = ((m - k : Nat) : Int) := by omega
                have ht2 : decide ((k : Int) ≤ (m : Int)) = true := decide_eq_true (by omega)
                have cr : ∀ W', Below wr.heap.size wr W' → W'.cell? ⟨g13, m, none⟩ = some (.int .u8 (y : Nat)) := fun W' hb => by
                  have h := (H13.out.below hb H13.out.lt).cell m (by rw [bytes32_len]; omega)
                  rwa [← ey] at h
                have h1i : (m : Int) + (k : Int) < 32 := by omega
                have h2i : (k : Int) ≤ (m : Int) := by omega
                have CL := Lib.hid cl
                have CR := Lib.hid cr
                clear cl cr ex ey h1 h2 gx gy
                go_wp2_with fail
                clear ht1 ht2 hmk h1i h2i cb cb2 hmk2 hmk3
                refine wp_region_see 25 [111, 112, 113, 114, 115, 116, 117, 118, 119, 120, 121, 122, 123, 124, 125, 126, 127, 128, 129, 130, 131, 132, 133, 134, 135] [(111, .is (.int .i64 (m : Nat))), (112, .is (.pointer (some ⟨g12, m, none⟩))), (113, .is (.int .u8 (x : Nat))), (114, .is (.int .u8 (x : Nat))), (115, .is (.bool false)), (116, .is (.bool false)), (117, .is (.int .i64 (m : Nat))), (118, .is (.pointer (some ⟨g13, m, none⟩))), (119, .is (.int .u8 (y : Nat))), (120, .is (.int .u8 (y : Nat))), (121, .is (.bool false)), (122, .is (.bool false)), (123, .is (.bool false)), (124, .is (.int .i64 (m : Nat))), (125, .is (.int .u64 (m : Nat))), (126, .is (W m)), (127, .is (W a)), (128, .is (W z)), (129, .is (.int .i64 (m : Nat))), (130, .is (.pointer (some ⟨G, m, none⟩))), (131, .is (.int .u8 (z : Nat))), (132, .is (.int .u64 (z : Nat))), (133, .is (W z)), (134, .is (.bool false)), (135, .is (.bool false))] (by kernel_rfl) (by kernel_rfl) (by rfl) ?_ ?_
                · refine seeOps_cons ?_ (seeOps_cons ?_ (seeOps_cons ?_ (seeOps_cons ?_ (seeOps_cons ?_ (seeOps_cons ?_ (seeOps_cons ?_ (seeOps_cons ?_ (seeOps_cons ?_ (seeOps_cons ?_ (seeOps_cons ?_ (seeOps_cons ?_ (seeOps_cons ?_ (seeOps_cons ?_ (seeOps_cons ?_ (seeOps_cons ?_ (seeOps_cons ?_ (seeOps_cons ?_ (seeOps_cons ?_ (seeOps_cons ?_ (seeOps_cons ?_ (seeOps_cons ?_ (seeOps_cons ?_ (seeOps_cons ?_ (seeOps_cons ?_ seeOps_nil))))))))))))))))))))))))
                  · intro w' hb' fr hout hin
                    have e14 : fr.tmps.getD 14 undef = .int .i64 (m : Nat) := hout 14 (by decide)
                    clear hout hin
                    exact relStep_move (.tmp 14) rfl (wanted_none rfl) (by show fr.tmps.getD 14 undef = _; rw [e14])
                  · intro w' hb' fr hout hin
                    have e12 : fr.tmps.getD 12 undef = .pointer (some ⟨g12, 0, none⟩) := hout 12 (by decide)
                    have h111 : fr.tmps.getD 111 undef = .int .i64 (m : Nat) := hin 111 (by decide) (by decide)
                    clear hout hin
                    exact op_index33 (.tmp 12) (.tmp 111) rfl (by omega) e12 h111 (wanted_none rfl) rfl
                  · intro w' hb' fr hout hin
                    have h112 : fr.tmps.getD 112 undef = .pointer (some ⟨g12, m, none⟩) := hin 112 (by decide) (by decide)
                    clear hout hin
                    exact op_load8 (.tmp 112) rfl h112 (CL.out w' hb') (wanted_none rfl) rfl
                  · intro w' hb' fr hout hin
                    have e15 : fr.tmps.getD 15 undef = .int .u8 (x : Nat) := hout 15 (by decide)
                    clear hout hin
                    exact relStep_move (.tmp 15) rfl (wanted_none rfl) (by show fr.tmps.getD 15 undef = _; rw [e15])
                  · intro w' hb' fr hout hin
                    have h113 : fr.tmps.getD 113 undef = .int .u8 (x : Nat) := hin 113 (by decide) (by decide)
                    have h114 : fr.tmps.getD 114 undef = .int .u8 (x : Nat) := hin 114 (by decide) (by decide)
                    clear hout hin
                    exact op_neU8 (.tmp 113) (.tmp 114) _ rfl h113 h114 (wanted_none rfl) rfl
                  · intro w' hb' fr hout hin
                    have h115 : fr.tmps.getD 115 undef = .bool false := hin 115 (by decide) (by decide)
                    clear hout hin
                    exact relStep_move (.tmp 115) rfl (wanted_none rfl) (by show fr.tmps.getD 115 undef = _; rw [h115])
                  · intro w' hb' fr hout hin
                    have e14 : fr.tmps.getD 14 undef = .int .i64 (m : Nat) := hout 14 (by decide)
                    have h116 : fr.tmps.getD 116 undef = .bool false := hin 116 (by decide) (by decide)
                    clear hout hin
                    exact relStep_move (.tmp 14) rfl (wanted_some (g := 5) (t := 116) (b := false) rfl rfl h116) (by show fr.tmps.getD 14 undef = _; rw [e14])
                  · intro w' hb' fr hout hin
                    have e13 : fr.tmps.getD 13 undef = .pointer (some ⟨g13, 0, none⟩) := hout 13 (by decide)
                    have h117 : fr.tmps.getD 117 undef = .int .i64 (m : Nat) := hin 117 (by decide) (by decide)
                    have h116 : fr.tmps.getD 116 undef = .bool false := hin 116 (by decide) (by decide)
                    clear hout hin
                    exact op_index33 (.tmp 13) (.tmp 117) rfl (by omega) e13 h117 (wanted_some (g := 5) (t := 116) (b := false) rfl rfl h116) rfl
                  · intro w' hb' fr hout hin
                    have h118 : fr.tmps.getD 118 undef = .pointer (some ⟨g13, m, none⟩) := hin 118 (by decide) (by decide)
                    have h116 : fr.tmps.getD 116 undef = .bool false := hin 116 (by decide) (by decide)
                    clear hout hin
                    exact op_load8 (.tmp 118) rfl h118 (CR.out w' hb') (wanted_some (g := 5) (t := 116) (b := false) rfl rfl h116) rfl
                  · intro w' hb' fr hout hin
                    have e16 : fr.tmps.getD 16 undef = .int .u8 (y : Nat) := hout 16 (by decide)
                    have h116 : fr.tmps.getD 116 undef = .bool false := hin 116 (by decide) (by decide)
                    clear hout hin
                    exact relStep_move (.tmp 16) rfl (wanted_some (g := 5) (t := 116) (b := false) rfl rfl h116) (by show fr.tmps.getD 16 undef = _; rw [e16])
                  · intro w' hb' fr hout hin
                    have h119 : fr.tmps.getD 119 undef = .int .u8 (y : Nat) := hin 119 (by decide) (by decide)
                    have h120 : fr.tmps.getD 120 undef = .int .u8 (y : Nat) := hin 120 (by decide) (by decide)
                    have h116 : fr.tmps.getD 116 undef = .bool false := hin 116 (by decide) (by decide)
                    clear hout hin
                    exact op_neU8 (.tmp 119) (.tmp 120) _ rfl h119 h120 (wanted_some (g := 5) (t := 116) (b := false) rfl rfl h116) rfl
                  · intro w' hb' fr hout hin
                    have h116 : fr.tmps.getD 116 undef = .bool false := hin 116 (by decide) (by decide)
                    have h121 : fr.tmps.getD 121 undef = .bool false := hin 121 (by decide) (by decide)
                    clear hout hin
                    exact relStep_pickF (.tmp 116) (.const (.bool true)) (.tmp 121) rfl h116 (wanted_none rfl) (by show fr.tmps.getD 121 undef = _; rw [h121])
                  · intro w' hb' fr hout hin
                    have h122 : fr.tmps.getD 122 undef = .bool false := hin 122 (by decide) (by decide)
                    clear hout hin
                    exact relStep_move (.tmp 122) rfl (wanted_none rfl) (by show fr.tmps.getD 122 undef = _; rw [h122])
                  · intro w' hb' fr hout hin
                    have e14 : fr.tmps.getD 14 undef = .int .i64 (m : Nat) := hout 14 (by decide)
                    have h123 : fr.tmps.getD 123 undef = .bool false := hin 123 (by decide) (by decide)
                    clear hout hin
                    exact relStep_move (.tmp 14) rfl (wanted_some (g := 12) (t := 123) (b := false) rfl rfl h123) (by show fr.tmps.getD 14 undef = _; rw [e14])
                  · intro w' hb' fr hout hin
                    have h124 : fr.tmps.getD 124 undef = .int .i64 (m : Nat) := hin 124 (by decide) (by decide)
                    have h123 : fr.tmps.getD 123 undef = .bool false := hin 123 (by decide) (by decide)
                    clear hout hin
                    exact op_conv64 (.tmp 124) rfl (by omega) h124 (wanted_some (g := 12) (t := 123) (b := false) rfl rfl h123) rfl
                  · intro w' hb' fr hout hin
                    have h125 : fr.tmps.getD 125 undef = .int .u64 (m : Nat) := hin 125 (by decide) (by decide)
                    have h123 : fr.tmps.getD 123 undef = .bool false := hin 123 (by decide) (by decide)
                    clear hout hin
                    exact relStep_callW 29 #[.int .u64 (m : Nat)] (wanted_some (g := 12) (t := 123) (b := false) rfl rfl h123) (KM.out _) (fun _ => rfl) (by have hh := h125; go_simp)
                  · intro w' hb' fr hout hin
                    have e2 : fr.tmps.getD 2 undef = .pointer (some ⟨w.heap.size, 0, none⟩) := hout 2 (by decide)
                    have h123 : fr.tmps.getD 123 undef = .bool false := hin 123 (by decide) (by decide)
                    clear hout hin
                    exact op_load (n := a) (.tmp 2) rfl e2 ((gA.out.below hb' gA.out.lt).cells4) (wanted_some (g := 12) (t := 123) (b := false) rfl rfl h123) rfl
                  · intro w' hb' fr hout hin
                    have h126 : fr.tmps.getD 126 undef = W m := hin 126 (by decide) (by decide)
                    have h127 : fr.tmps.getD 127 undef = W a := hin 127 (by decide) (by decide)
                    have h123 : fr.tmps.getD 123 undef = .bool false := hin 123 (by decide) (by decide)
                    clear hout hin
                    exact relStep_callW 66 #[W m, W a] (wanted_some (g := 12) (t := 123) (b := false) rfl rfl h123) (KB.out _) (fun _ => rfl) (by have hh := (And.intro h126 h127); go_simp)
                  · intro w' hb' fr hout hin
                    have e14 : fr.tmps.getD 14 undef = .int .i64 (m : Nat) := hout 14 (by decide)
                    have h123 : fr.tmps.getD 123 undef = .bool false := hin 123 (by decide) (by decide)
                    clear hout hin
                    exact relStep_move (.tmp 14) rfl (wanted_some (g := 12) (t := 123) (b := false) rfl rfl h123) (by show fr.tmps.getD 14 undef = _; rw [e14])
                  · intro w' hb' fr hout hin
                    have e5 : fr.tmps.getD 5 undef = .pointer (some ⟨G, 0, none⟩) := hout 5 (by decide)
                    have h129 : fr.tmps.getD 129 undef = .int .i64 (m : Nat) := hin 129 (by decide) (by decide)
                    have h123 : fr.tmps.getD 123 undef = .bool false := hin 123 (by decide) (by decide)
                    clear hout hin
                    exact op_index33 (.tmp 5) (.tmp 129) rfl (by omega) e5 h129 (wanted_some (g := 12) (t := 123) (b := false) rfl rfl h123) rfl
                  · intro w' hb' fr hout hin
                    have h130 : fr.tmps.getD 130 undef = .pointer (some ⟨G, m, none⟩) := hin 130 (by decide) (by decide)
                    have h123 : fr.tmps.getD 123 undef = .bool false := hin 123 (by decide) (by decide)
                    clear hout hin
                    exact op_load8 (.tmp 130) rfl h130 (CZ.out w' hb') (wanted_some (g := 12) (t := 123) (b := false) rfl rfl h123) rfl
                  · intro w' hb' fr hout hin
                    have h131 : fr.tmps.getD 131 undef = .int .u8 (z : Nat) := hin 131 (by decide) (by decide)
                    have h123 : fr.tmps.getD 123 undef = .bool false := hin 123 (by decide) (by decide)
                    clear hout hin
                    exact op_conv8 (.tmp 131) rfl (by omega) h131 (wanted_some (g := 12) (t := 123) (b := false) rfl rfl h123) rfl
                  · intro w' hb' fr hout hin
                    have h132 : fr.tmps.getD 132 undef = .int .u64 (z : Nat) := hin 132 (by decide) (by decide)
                    have h123 : fr.tmps.getD 123 undef = .bool false := hin 123 (by decide) (by decide)
                    clear hout hin
                    exact relStep_callW 29 #[.int .u64 (z : Nat)] (wanted_some (g := 12) (t := 123) (b := false) rfl rfl h123) (KZ.out _) (fun _ => rfl) (by have hh := h132; go_simp)
                  · intro w' hb' fr hout hin
                    have h128 : fr.tmps.getD 128 undef = W z := hin 128 (by decide) (by decide)
                    have h133 : fr.tmps.getD 133 undef = W z := hin 133 (by decide) (by decide)
                    have h123 : fr.tmps.getD 123 undef = .bool false := hin 123 (by decide) (by decide)
                    clear hout hin
                    exact op_neW (n := z) (.tmp 128) (.tmp 133) _ rfl h128 h133 (wanted_some (g := 12) (t := 123) (b := false) rfl rfl h123) rfl
                  · intro w' hb' fr hout hin
                    have h123 : fr.tmps.getD 123 undef = .bool false := hin 123 (by decide) (by decide)
                    have h134 : fr.tmps.getD 134 undef = .bool false := hin 134 (by decide) (by decide)
                    clear hout hin
                    exact relStep_pickF (.tmp 123) (.const (.bool true)) (.tmp 134) rfl h123 (wanted_none rfl) (by show fr.tmps.getD 134 undef = _; rw [h134])
                · intro w' hb'
                  refine relAsk_in (by rfl) ?_
                  intro v111 h111
                  obtain rfl : v111 = .int .i64 (m : Nat) := h111
                  refine relAsk_in (by rfl) ?_
                  intro v112 h112
                  obtain rfl : v112 = .pointer (some ⟨g12, m, none⟩) := h112
                  refine relAsk_in (by rfl) ?_
                  intro v113 h113
                  obtain rfl : v113 = .int .u8 (x : Nat) := h113
                  refine relAsk_in (by rfl) ?_
                  intro v114 h114
                  obtain rfl : v114 = .int .u8 (x : Nat) := h114
                  refine relAsk_in (by rfl) ?_
                  intro v115 h115
                  obtain rfl : v115 = .bool false := h115
                  refine relAsk_in (by rfl) ?_
                  intro v116 h116
                  obtain rfl : v116 = .bool false := h116
                  refine relAsk_in (by rfl) ?_
                  intro v117 h117
                  obtain rfl : v117 = .int .i64 (m : Nat) := h117
                  refine relAsk_in (by rfl) ?_
                  intro v118 h118
                  obtain rfl : v118 = .pointer (some ⟨g13, m, none⟩) := h118
                  refine relAsk_in (by rfl) ?_
                  intro v119 h119
                  obtain rfl : v119 = .int .u8 (y : Nat) := h119
                  refine relAsk_in (by rfl) ?_
                  intro v120 h120
                  obtain rfl : v120 = .int .u8 (y : Nat) := h120
                  refine relAsk_in (by rfl) ?_
                  intro v121 h121
                  obtain rfl : v121 = .bool false := h121
                  refine relAsk_in (by rfl) ?_
                  intro v122 h122
                  obtain rfl : v122 = .bool false := h122
                  refine relAsk_in (by rfl) ?_
                  intro v123 h123
                  obtain rfl : v123 = .bool false := h123
                  refine relAsk_in (by rfl) ?_
                  intro v124 h124
                  obtain rfl : v124 = .int .i64 (m : Nat) := h124
                  refine relAsk_in (by rfl) ?_
                  intro v125 h125
                  obtain rfl : v125 = .int .u64 (m : Nat) := h125
                  refine relAsk_in (by rfl) ?_
                  intro v126 h126
                  obtain rfl : v126 = W m := h126
                  refine relAsk_in (by rfl) ?_
                  intro v127 h127
                  obtain rfl : v127 = W a := h127
                  refine relAsk_in (by rfl) ?_
                  intro v128 h128
                  obtain rfl : v128 = W z := h128
                  refine relAsk_in (by rfl) ?_
                  intro v129 h129
                  obtain rfl : v129 = .int .i64 (m : Nat) := h129
                  refine relAsk_in (by rfl) ?_
                  intro v130 h130
                  obtain rfl : v130 = .pointer (some ⟨G, m, none⟩) := h130
                  refine relAsk_in (by rfl) ?_
                  intro v131 h131
                  obtain rfl : v131 = .int .u8 (z : Nat) := h131
                  refine relAsk_in (by rfl) ?_
                  intro v132 h132
                  obtain rfl : v132 = .int .u64 (z : Nat) := h132
                  refine relAsk_in (by rfl) ?_
                  intro v133 h133
                  obtain rfl : v133 = W z := h133
                  refine relAsk_in (by rfl) ?_
                  intro v134 h134
                  obtain rfl : v134 = .bool false := h134
                  refine relAsk_in (by rfl) ?_
                  intro v135 h135
                  obtain rfl : v135 = .bool false := h135
                  refine relAsk_nil ?_
                  refine wpList_nil ?_
                  go_simp
                  have H5 := H5.out.below hb' H5.out.lt
                  have gA := gA.out.below hb' gA.out.lt
                  have H12 := H12.out.below hb' H12.out.lt
                  have H13 := H13.out.below hb' H13.out.lt
                  have gW := gW.out.trans (hb'.mono gW.out.size)
                  have k5 := Lib.hid H5
                  have kA := Lib.hid gA
                  have k12 := Lib.hid H12
                  have k13 := Lib.hid H13
                  have kW := Lib.hid gW
                  clear hb' H5 gA H12 H13 gW
                  go_wp2_with fail
                  go_roundw
                  case rel => exact ⟨m + 1, by omega, by go_num, k5, kA, k12, k13, kW⟩
                  case measure => simp [intOf]; omega
              · have cb := H5.out.cell (m + k) (by rw [bytes32_len]; omega)
                have gx : (bytes32 a).getD (m + k) 0 = x := by rw [ex, LB.out m (by omega), if_pos h1]
                rw [gx] at cb
                have ht1 : decide (((m + k : Nat) : Int) < 32) = true := decide_eq_true (by omega)
                have cl : ∀ W', Below wr.heap.size wr W' → W'.cell? ⟨g12, m, none⟩ = some (.int .u8 (x : Nat)) := fun W' hb => by
                  have h := (H12.out.below hb H12.out.lt).cell m (by rw [bytes32_len]; omega)
                  rwa [← ex] at h
                have ht2 : decide ((k : Int) ≤ (m : Int)) = false := decide_eq_false (by omega)
                have cr : ∀ W', Below wr.heap.size wr W' → W'.cell? ⟨g13, m, none⟩ = some (.int .u8 0) := fun W' hb => by
                  have h := (H13.out.below hb H13.out.lt).cell m (by rw [bytes32_len]; omega)
                  rw [RB.out m (by omega), if_neg h2] at h
                  exact h
                have h1i : (m : Int) + (k : Int) < 32 := by omega
                have h2i : ¬ ((k : Int) ≤ (m : Int)) := by omega
                have CL := Lib.hid cl
                have CR := Lib.hid cr
                clear cl cr ex ey h1 h2 gx
                go_wp2_with fail
                clear ht1 ht2 hmk h1i h2i cb
                refine wp_region_see 25 [111, 112, 113, 114, 115, 116, 117, 118, 119, 120, 121, 122, 123, 124, 125, 126, 127, 128, 129, 130, 131, 132, 133, 134, 135] [(111, .is (.int .i64 (m : Nat))), (112, .is (.pointer (some ⟨g12, m, none⟩))), (113, .is (.int .u8 (x : Nat))), (114, .is (.int .u8 (x : Nat))), (115, .is (.bool false)), (116, .is (.bool false)), (117, .is (.int .i64 (m : Nat))), (118, .is (.pointer (some ⟨g13, m, none⟩))), (119, .is (.int .u8 0)), (120, .is (.int .u8 0)), (121, .is (.bool false)), (122, .is (.bool false)), (123, .is (.bool false)), (124, .is (.int .i64 (m : Nat))), (125, .is (.int .u64 (m : Nat))), (126, .is (W m)), (127, .is (W a)), (128, .is (W z)), (129, .is (.int .i64 (m : Nat))), (130, .is (.pointer (some ⟨G, m, none⟩))), (131, .is (.int .u8 (z : Nat))), (132, .is (.int .u64 (z : Nat))), (133, .is (W z)), (134, .is (.bool false)), (135, .is (.bool false))] (by kernel_rfl) (by kernel_rfl) (by rfl) ?_ ?_
                · refine seeOps_cons ?_ (seeOps_cons ?_ (seeOps_cons ?_ (seeOps_cons ?_ (seeOps_cons ?_ (seeOps_cons ?_ (seeOps_cons ?_ (seeOps_cons ?_ (seeOps_cons ?_ (seeOps_cons ?_ (seeOps_cons ?_ (seeOps_cons ?_ (seeOps_cons ?_ (seeOps_cons ?_ (seeOps_cons ?_ (seeOps_cons ?_ (seeOps_cons ?_ (seeOps_cons ?_ (seeOps_cons ?_ (seeOps_cons ?_ (seeOps_cons ?_ (seeOps_cons ?_ (seeOps_cons ?_ (seeOps_cons ?_ (seeOps_cons ?_ seeOps_nil))))))))))))))))))))))))
                  · intro w' hb' fr hout hin
                    have e14 : fr.tmps.getD 14 undef = .int .i64 (m : Nat) := hout 14 (by decide)
                    clear hout hin
                    exact relStep_move (.tmp 14) rfl (wanted_none rfl) (by show fr.tmps.getD 14 undef = _; rw [e14])
                  · intro w' hb' fr hout hin
                    have e12 : fr.tmps.getD 12 undef = .pointer (some ⟨g12, 0, none⟩) := hout 12 (by decide)
                    have h111 : fr.tmps.getD 111 undef = .int .i64 (m : Nat) := hin 111 (by decide) (by decide)
                    clear hout hin
                    exact op_index33 (.tmp 12) (.tmp 111) rfl (by omega) e12 h111 (wanted_none rfl) rfl
                  · intro w' hb' fr hout hin
                    have h112 : fr.tmps.getD 112 undef = .pointer (some ⟨g12, m, none⟩) := hin 112 (by decide) (by decide)
                    clear hout hin
                    exact op_load8 (.tmp 112) rfl h112 (CL.out w' hb') (wanted_none rfl) rfl
                  · intro w' hb' fr hout hin
                    have e15 : fr.tmps.getD 15 undef = .int .u8 (x : Nat) := hout 15 (by decide)
                    clear hout hin
                    exact relStep_move (.tmp 15) rfl (wanted_none rfl) (by show fr.tmps.getD 15 undef = _; rw [e15])
                  · intro w' hb' fr hout hin
                    have h113 : fr.tmps.getD 113 undef = .int .u8 (x : Nat) := hin 113 (by decide) (by decide)
                    have h114 : fr.tmps.getD 114 undef = .int .u8 (x : Nat) := hin 114 (by decide) (by decide)
                    clear hout hin
                    exact op_neU8 (.tmp 113) (.tmp 114) _ rfl h113 h114 (wanted_none rfl) rfl
                  · intro w' hb' fr hout hin
                    have h115 : fr.tmps.getD 115 undef = .bool false := hin 115 (by decide) (by decide)
                    clear hout hin
                    exact relStep_move (.tmp 115) rfl (wanted_none rfl) (by show fr.tmps.getD 115 undef = _; rw [h115])
                  · intro w' hb' fr hout hin
                    have e14 : fr.tmps.getD 14 undef = .int .i64 (m : Nat) := hout 14 (by decide)
                    have h116 : fr.tmps.getD 116 undef = .bool false := hin 116 (by decide) (by decide)
                    clear hout hin
                    exact relStep_move (.tmp 14) rfl (wanted_some (g := 5) (t := 116) (b := false) rfl rfl h116) (by show fr.tmps.getD 14 undef = _; rw [e14])
                  · intro w' hb' fr hout hin
                    have e13 : fr.tmps.getD 13 undef = .pointer (some ⟨g13, 0, none⟩) := hout 13 (by decide)
                    have h117 : fr.tmps.getD 117 undef = .int .i64 (m : Nat) := hin 117 (by decide) (by decide)
                    have h116 : fr.tmps.getD 116 undef = .bool false := hin 116 (by decide) (by decide)
                    clear hout hin
                    exact op_index33 (.tmp 13) (.tmp 117) rfl (by omega) e13 h117 (wanted_some (g := 5) (t := 116) (b := false) rfl rfl h116) rfl
                  · intro w' hb' fr hout hin
                    have h118 : fr.tmps.getD 118 undef = .pointer (some ⟨g13, m, none⟩) := hin 118 (by decide) (by decide)
                    have h116 : fr.tmps.getD 116 undef = .bool false := hin 116 (by decide) (by decide)
                    clear hout hin
                    exact op_load8 (.tmp 118) rfl h118 (CR.out w' hb') (wanted_some (g := 5) (t := 116) (b := false) rfl rfl h116) rfl
                  · intro w' hb' fr hout hin
                    have e16 : fr.tmps.getD 16 undef = .int .u8 0 := hout 16 (by decide)
                    have h116 : fr.tmps.getD 116 undef = .bool false := hin 116 (by decide) (by decide)
                    clear hout hin
                    exact relStep_move (.tmp 16) rfl (wanted_some (g := 5) (t := 116) (b := false) rfl rfl h116) (by show fr.tmps.getD 16 undef = _; rw [e16])
                  · intro w' hb' fr hout hin
                    have h119 : fr.tmps.getD 119 undef = .int .u8 0 := hin 119 (by decide) (by decide)
                    have h120 : fr.tmps.getD 120 undef = .int .u8 0 := hin 120 (by decide) (by decide)
                    have h116 : fr.tmps.getD 116 undef = .bool false := hin 116 (by decide) (by decide)
                    clear hout hin
                    exact op_neU8 (.tmp 119) (.tmp 120) _ rfl h119 h120 (wanted_some (g := 5) (t := 116) (b := false) rfl rfl h116) rfl
                  · intro w' hb' fr hout hin
                    have h116 : fr.tmps.getD 116 undef = .bool false := hin 116 (by decide) (by decide)
                    have h121 : fr.tmps.getD 121 undef = .bool false := hin 121 (by decide) (by decide)
                    clear hout hin
                    exact relStep_pickF (.tmp 116) (.const (.bool true)) (.tmp 121) rfl h116 (wanted_none rfl) (by show fr.tmps.getD 121 undef = _; rw [h121])
                  · intro w' hb' fr hout hin
                    have h122 : fr.tmps.getD 122 undef = .bool false := hin 122 (by decide) (by decide)
                    clear hout hin
                    exact relStep_move (.tmp 122) rfl (wanted_none rfl) (by show fr.tmps.getD 122 undef = _; rw [h122])
                  · intro w' hb' fr hout hin
                    have e14 : fr.tmps.getD 14 undef = .int .i64 (m : Nat) := hout 14 (by decide)
                    have h123 : fr.tmps.getD 123 undef = .bool false := hin 123 (by decide) (by decide)
                    clear hout hin
                    exact relStep_move (.tmp 14) rfl (wanted_some (g := 12) (t := 123) (b := false) rfl rfl h123) (by show fr.tmps.getD 14 undef = _; rw [e14])
                  · intro w' hb' fr hout hin
                    have h124 : fr.tmps.getD 124 undef = .int .i64 (m : Nat) := hin 124 (by decide) (by decide)
                    have h123 : fr.tmps.getD 123 undef = .bool false := hin 123 (by decide) (by decide)
                    clear hout hin
                    exact op_conv64 (.tmp 124) rfl (by omega) h124 (wanted_some (g := 12) (t := 123) (b := false) rfl rfl h123) rfl
                  · intro w' hb' fr hout hin
                    have h125 : fr.tmps.getD 125 undef = .int .u64 (m : Nat) := hin 125 (by decide) (by decide)
                    have h123 : fr.tmps.getD 123 undef = .bool false := hin 123 (by decide) (by decide)
                    clear hout hin
                    exact relStep_callW 29 #[.int .u64 (m : Nat)] (wanted_some (g := 12) (t := 123) (b := false) rfl rfl h123) (KM.out _) (fun _ => rfl) (by have hh := h125; go_simp)
                  · intro w' hb' fr hout hin
                    have e2 : fr.tmps.getD 2 undef = .pointer (some ⟨w.heap.size, 0, none⟩) := hout 2 (by decide)
                    have h123 : fr.tmps.getD 123 undef = .bool false := hin 123 (by decide) (by decide)
                    clear hout hin
                    exact op_load (n := a) (.tmp 2) rfl e2 ((gA.out.below hb' gA.out.lt).cells4) (wanted_some (g := 12) (t := 123) (b := false) rfl rfl h123) rfl
                  · intro w' hb' fr hout hin
                    have h126 : fr.tmps.getD 126 undef = W m := hin 126 (by decide) (by decide)
                    have h127 : fr.tmps.getD 127 undef = W a := hin 127 (by decide) (by decide)
                    have h123 : fr.tmps.getD 123 undef = .bool false := hin 123 (by decide) (by decide)
                    clear hout hin
                    exact relStep_callW 66 #[W m, W a] (wanted_some (g := 12) (t := 123) (b := false) rfl rfl h123) (KB.out _) (fun _ => rfl) (by have hh := (And.intro h126 h127); go_simp)
                  · intro w' hb' fr hout hin
                    have e14 : fr.tmps.getD 14 undef = .int .i64 (m : Nat) := hout 14 (by decide)
                    have h123 : fr.tmps.getD 123 undef = .bool false := hin 123 (by decide) (by decide)
                    clear hout hin
                    exact relStep_move (.tmp 14) rfl (wanted_some (g := 12) (t := 123) (b := false) rfl rfl h123) (by show fr.tmps.getD 14 undef = _; rw [e14])
                  · intro w' hb' fr hout hin
                    have e5 : fr.tmps.getD 5 undef = .pointer (some ⟨G, 0, none⟩) := hout 5 (by decide)
                    have h129 : fr.tmps.getD 129 undef = .int .i64 (m : Nat) := hin 129 (by decide) (by decide)
                    have h123 : fr.tmps.getD 123 undef = .bool false := hin 123 (by decide) (by decide)
                    clear hout hin
                    exact op_index33 (.tmp 5) (.tmp 129) rfl (by omega) e5 h129 (wanted_some (g := 12) (t := 123) (b := false) rfl rfl h123) rfl
                  · intro w' hb' fr hout hin
                    have h130 : fr.tmps.getD 130 undef = .pointer (some ⟨G, m, none⟩) := hin 130 (by decide) (by decide)
                    have h123 : fr.tmps.getD 123 undef = .bool false := hin 123 (by decide) (by decide)
                    clear hout hin
                    exact op_load8 (.tmp 130) rfl h130 (CZ.out w' hb') (wanted_some (g := 12) (t := 123) (b := false) rfl rfl h123) rfl
                  · intro w' hb' fr hout hin
                    have h131 : fr.tmps.getD 131 undef = .int .u8 (z : Nat) := hin 131 (by decide) (by decide)
                    have h123 : fr.tmps.getD 123 undef = .bool false := hin 123 (by decide) (by decide)
                    clear hout hin
                    exact op_conv8 (.tmp 131) rfl (by omega) h131 (wanted_some (g := 12) (t := 123) (b := false) rfl rfl h123) rfl
                  · intro w' hb' fr hout hin
                    have h132 : fr.tmps.getD 132 undef = .int .u64 (z : Nat) := hin 132 (by decide) (by decide)
                    have h123 : fr.tmps.getD 123 undef = .bool false := hin 123 (by decide) (by decide)
                    clear hout hin
                    exact relStep_callW 29 #[.int .u64 (z : Nat)] (wanted_some (g := 12) (t := 123) (b := false) rfl rfl h123) (KZ.out _) (fun _ => rfl) (by have hh := h132; go_simp)
                  · intro w' hb' fr hout hin
                    have h128 : fr.tmps.getD 128 undef = W z := hin 128 (by decide) (by decide)
                    have h133 : fr.tmps.getD 133 undef = W z := hin 133 (by decide) (by decide)
                    have h123 : fr.tmps.getD 123 undef = .bool false := hin 123 (by decide) (by decide)
                    clear hout hin
                    exact op_neW (n := z) (.tmp 128) (.tmp 133) _ rfl h128 h133 (wanted_some (g := 12) (t := 123) (b := false) rfl rfl h123) rfl
                  · intro w' hb' fr hout hin
                    have h123 : fr.tmps.getD 123 undef = .bool false := hin 123 (by decide) (by decide)
                    have h134 : fr.tmps.getD 134 undef = .bool false := hin 134 (by decide) (by decide)
                    clear hout hin
                    exact relStep_pickF (.tmp 123) (.const (.bool true)) (.tmp 134) rfl h123 (wanted_none rfl) (by show fr.tmps.getD 134 undef = _; rw [h134])
                · intro w' hb'
                  refine relAsk_in (by rfl) ?_
                  intro v111 h111
                  obtain rfl : v111 = .int .i64 (m : Nat) := h111
                  refine relAsk_in (by rfl) ?_
                  intro v112 h112
                  obtain rfl : v112 = .pointer (some ⟨g12, m, none⟩) := h112
                  refine relAsk_in (by rfl) ?_
                  intro v113 h113
                  obtain rfl : v113 = .int .u8 (x : Nat) := h113
                  refine relAsk_in (by rfl) ?_
                  intro v114 h114
                  obtain rfl : v114 = .int .u8 (x : Nat) := h114
                  refine relAsk_in (by rfl) ?_
                  intro v115 h115
                  obtain rfl : v115 = .bool false := h115
                  refine relAsk_in (by rfl) ?_
                  intro v116 h116
                  obtain rfl : v116 = .bool false := h116
                  refine relAsk_in (by rfl) ?_
                  intro v117 h117
                  obtain rfl : v117 = .int .i64 (m : Nat) := h117
                  refine relAsk_in (by rfl) ?_
                  intro v118 h118
                  obtain rfl : v118 = .pointer (some ⟨g13, m, none⟩) := h118
                  refine relAsk_in (by rfl) ?_
                  intro v119 h119
                  obtain rfl : v119 = .int .u8 0 := h119
                  refine relAsk_in (by rfl) ?_
                  intro v120 h120
                  obtain rfl : v120 = .int .u8 0 := h120
                  refine relAsk_in (by rfl) ?_
                  intro v121 h121
                  obtain rfl : v121 = .bool false := h121
                  refine relAsk_in (by rfl) ?_
                  intro v122 h122
                  obtain rfl : v122 = .bool false := h122
                  refine relAsk_in (by rfl) ?_
                  intro v123 h123
                  obtain rfl : v123 = .bool false := h123
                  refine relAsk_in (by rfl) ?_
                  intro v124 h124
                  obtain rfl : v124 = .int .i64 (m : Nat) := h124
                  refine relAsk_in (by rfl) ?_
                  intro v125 h125
                  obtain rfl : v125 = .int .u64 (m : Nat) := h125
                  refine relAsk_in (by rfl) ?_
                  intro v126 h126
                  obtain rfl : v126 = W m := h126
                  refine relAsk_in (by rfl) ?_
                  intro v127 h127
                  obtain rfl : v127 = W a := h127
                  refine relAsk_in (by rfl) ?_
                  intro v128 h128
                  obtain rfl : v128 = W z := h128
                  refine relAsk_in (by rfl) ?_
                  intro v129 h129
                  obtain rfl : v129 = .int .i64 (m : Nat) := h129
                  refine relAsk_in (by rfl) ?_
                  intro v130 h130
                  obtain rfl : v130 = .pointer (some ⟨G, m, none⟩) := h130
                  refine relAsk_in (by rfl) ?_
                  intro v131 h131
                  obtain rfl : v131 = .int .u8 (z : Nat) := h131
                  refine relAsk_in (by rfl) ?_
                  intro v132 h132
                  obtain rfl : v132 = .int .u64 (z : Nat) := h132
                  refine relAsk_in (by rfl) ?_
                  intro v133 h133
                  obtain rfl : v133 = W z := h133
                  refine relAsk_in (by rfl) ?_
                  intro v134 h134
                  obtain rfl : v134 = .bool false := h134
                  refine relAsk_in (by rfl) ?_
                  intro v135 h135
                  obtain rfl : v135 = .bool false := h135
                  refine relAsk_nil ?_
                  refine wpList_nil ?_
                  go_simp
                  have H5 := H5.out.below hb' H5.out.lt
                  have gA := gA.out.below hb' gA.out.lt
                  have H12 := H12.out.below hb' H12.out.lt
                  have H13 := H13.out.below hb' H13.out.lt
                  have gW := gW.out.trans (hb'.mono gW.out.size)
                  have k5 := Lib.hid H5
                  have kA := Lib.hid gA
                  have k12 := Lib.hid H12
                  have k13 := Lib.hid H13
                  have kW := Lib.hid gW
                  clear hb' H5 gA H12 H13 gW
                  go_wp2_with fail
                  go_roundw
                  case rel => exact ⟨m + 1, by omega, by go_num, k5, kA, k12, k13, kW⟩
                  case measure => simp [intOf]; omega
            · by_cases h2 : k ≤ m
              · have ht1 : decide (((m + k : Nat) : Int) < 32) = false := decide_eq_false (by omega)
                have cl : ∀ W', Below wr.heap.size wr W' → W'.cell? ⟨g12, m, none⟩ = some (.int .u8 0) := fun W' hb => by
                  have h := (H12.out.below hb H12.out.lt).cell m (by rw [bytes32_len]; omega)
                  rw [LB.out m (by omega), if_neg h1] at h
                  exact h
                have cb2 := H5.out.cell (m - k) (by rw [bytes32_len]; omega)
                have gy : (bytes32 a).getD (m - k) 0 = y := by rw [ey, RB.out m (by omega), if_pos h2]
                rw [gy] at cb2
                have hmk2 : IntKind.i64.wrap ((m : Int) - (k : Int)) = ((m - k : Nat) : Int) := by rw [IntWalk.i64_in _ (by omega)]; omega
                have hmk3 : (m : Int) - (k : Int) = ((m - k : Nat) : Int) := by omega
                have ht2 : decide ((k : Int) ≤ (m : Int)) = true := decide_eq_true (by omega)
                have cr : ∀ W', Below wr.heap.size wr W' → W'.cell? ⟨g13, m, none⟩ = some (.int .u8 (y : Nat)) := fun W' hb => by
                  have h := (H13.out.below hb H13.out.lt).cell m (by rw [bytes32_len]; omega)
                  rwa [← ey] at h
                have h1i : ¬ ((m : Int) + (k : Int) < 32) := by omega
                have h2i : (k : Int) ≤ (m : Int) := by omega
                have CL := Lib.hid cl
                have CR := Lib.hid cr
                clear cl cr ex ey h1 h2 gy
                go_wp2_with fail
                clear ht1 ht2 hmk h1i h2i cb2 hmk2 hmk3
                refine wp_region_see 25 [111, 112, 113, 114, 115, 116, 117, 118, 119, 120, 121, 122, 123, 124, 125, 126, 127, 128, 129, 130, 131, 132, 133, 134, 135] [(111, .is (.int .i64 (m : Nat))), (112, .is (.pointer (some ⟨g12, m, none⟩))), (113, .is (.int .u8 0)), (114, .is (.int .u8 0)), (115, .is (.bool false)), (116, .is (.bool false)), (117, .is (.int .i64 (m : Nat))), (118, .is (.pointer (some ⟨g13, m, none⟩))), (119, .is (.int .u8 (y : Nat))), (120, .is (.int .u8 (y : Nat))), (121, .is (.bool false)), (122, .is (.bool false)), (123, .is (.bool false)), (124, .is (.int .i64 (m : Nat))), (125, .is (.int .u64 (m : Nat))), (126, .is (W m)), (127, .is (W a)), (128, .is (W z)), (129, .is (.int .i64 (m : Nat))), (130, .is (.pointer (some ⟨G, m, none⟩))), (131, .is (.int .u8 (z : Nat))), (132, .is (.int .u64 (z : Nat))), (133, .is (W z)), (134, .is (.bool false)), (135, .is (.bool false))] (by kernel_rfl) (by kernel_rfl) (by rfl) ?_ ?_
                · refine seeOps_cons ?_ (seeOps_cons ?_ (seeOps_cons ?_ (seeOps_cons ?_ (seeOps_cons ?_ (seeOps_cons ?_ (seeOps_cons ?_ (seeOps_cons ?_ (seeOps_cons ?_ (seeOps_cons ?_ (seeOps_cons ?_ (seeOps_cons ?_ (seeOps_cons ?_ (seeOps_cons ?_ (seeOps_cons ?_ (seeOps_cons ?_ (seeOps_cons ?_ (seeOps_cons ?_ (seeOps_cons ?_ (seeOps_cons ?_ (seeOps_cons ?_ (seeOps_cons ?_ (seeOps_cons ?_ (seeOps_cons ?_ (seeOps_cons ?_ seeOps_nil))))))))))))))))))))))))
                  · intro w' hb' fr hout hin
                    have e14 : fr.tmps.getD 14 undef = .int .i64 (m : Nat) := hout 14 (by decide)
                    clear hout hin
                    exact relStep_move (.tmp 14) rfl (wanted_none rfl) (by show fr.tmps.getD 14 undef = _; rw [e14])
                  · intro w' hb' fr hout hin
                    have e12 : fr.tmps.getD 12 undef = .pointer (some ⟨g12, 0, none⟩) := hout 12 (by decide)
                    have h111 : fr.tmps.getD 111 undef = .int .i64 (m : Nat) := hin 111 (by decide) (by decide)
                    clear hout hin
                    exact op_index33 (.tmp 12) (.tmp 111) rfl (by omega) e12 h111 (wanted_none rfl) rfl
                  · intro w' hb' fr hout hin
                    have h112 : fr.tmps.getD 112 undef = .pointer (some ⟨g12, m, none⟩) := hin 112 (by decide) (by decide)
                    clear hout hin
                    exact op_load8 (.tmp 112) rfl h112 (CL.out w' hb') (wanted_none rfl) rfl
                  · intro w' hb' fr hout hin
                    have e15 : fr.tmps.getD 15 undef = .int .u8 0 := hout 15 (by decide)
                    clear hout hin
                    exact relStep_move (.tmp 15) rfl (wanted_none rfl) (by show fr.tmps.getD 15 undef = _; rw [e15])
                  · intro w' hb' fr hout hin
                    have h113 : fr.tmps.getD 113 undef = .int .u8 0 := hin 113 (by decide) (by decide)
                    have h114 : fr.tmps.getD 114 undef = .int .u8 0 := hin 114 (by decide) (by decide)
                    clear hout hin
                    exact op_neU8 (.tmp 113) (.tmp 114) _ rfl h113 h114 (wanted_none rfl) rfl
                  · intro w' hb' fr hout hin
                    have h115 : fr.tmps.getD 115 undef = .bool false := hin 115 (by decide) (by decide)
                    clear hout hin
                    exact relStep_move (.tmp 115) rfl (wanted_none rfl) (by show fr.tmps.getD 115 undef = _; rw [h115])
                  · intro w' hb' fr hout hin
                    have e14 : fr.tmps.getD 14 undef = .int .i64 (m : Nat) := hout 14 (by decide)
                    have h116 : fr.tmps.getD 116 undef = .bool false := hin 116 (by decide) (by decide)
                    clear hout hin
                    exact relStep_move (.tmp 14) rfl (wanted_some (g := 5) (t := 116) (b := false) rfl rfl h116) (by show fr.tmps.getD 14 undef = _; rw [e14])
                  · intro w' hb' fr hout hin
                    have e13 : fr.tmps.getD 13 undef = .pointer (some ⟨g13, 0, none⟩) := hout 13 (by decide)
                    have h117 : fr.tmps.getD 117 undef = .int .i64 (m : Nat) := hin 117 (by decide) (by decide)
                    have h116 : fr.tmps.getD 116 undef = .bool false := hin 116 (by decide) (by decide)
                    clear hout hin
                    exact op_index33 (.tmp 13) (.tmp 117) rfl (by omega) e13 h117 (wanted_some (g := 5) (t := 116) (b := false) rfl rfl h116) rfl
                  · intro w' hb' fr hout hin
                    have h118 : fr.tmps.getD 118 undef = .pointer (some ⟨g13, m, none⟩) := hin 118 (by decide) (by decide)
                    have h116 : fr.tmps.getD 116 undef = .bool false := hin 116 (by decide) (by decide)
                    clear hout hin
                    exact op_load8 (.tmp 118) rfl h118 (CR.out w' hb') (wanted_some (g := 5) (t := 116) (b := false) rfl rfl h116) rfl
                  · intro w' hb' fr hout hin
                    have e16 : fr.tmps.getD 16 undef = .int .u8 (y : Nat) := hout 16 (by decide)
                    have h116 : fr.tmps.getD 116 undef = .bool false := hin 116 (by decide) (by decide)
                    clear hout hin
                    exact relStep_move (.tmp 16) rfl (wanted_some (g := 5) (t := 116) (b := false) rfl rfl h116) (by show fr.tmps.getD 16 undef = _; rw [e16])
                  · intro w' hb' fr hout hin
                    have h119 : fr.tmps.getD 119 undef = .int .u8 (y : Nat) := hin 119 (by decide) (by decide)
                    have h120 : fr.tmps.getD 120 undef = .int .u8 (y : Nat) := hin 120 (by decide) (by decide)
                    have h116 : fr.tmps.getD 116 undef = .bool false := hin 116 (by decide) (by decide)
                    clear hout hin
                    exact op_neU8 (.tmp 119) (.tmp 120) _ rfl h119 h120 (wanted_some (g := 5) (t := 116) (b := false) rfl rfl h116) rfl
                  · intro w' hb' fr hout hin
                    have h116 : fr.tmps.getD 116 undef = .bool false := hin 116 (by decide) (by decide)
                    have h121 : fr.tmps.getD 121 undef = .bool false := hin 121 (by decide) (by decide)
                    clear hout hin
                    exact relStep_pickF (.tmp 116) (.const (.bool true)) (.tmp 121) rfl h116 (wanted_none rfl) (by show fr.tmps.getD 121 undef = _; rw [h121])
                  · intro w' hb' fr hout hin
                    have h122 : fr.tmps.getD 122 undef = .bool false := hin 122 (by decide) (by decide)
                    clear hout hin
                    exact relStep_move (.tmp 122) rfl (wanted_none rfl) (by show fr.tmps.getD 122 undef = _; rw [h122])
                  · intro w' hb' fr hout hin
                    have e14 : fr.tmps.getD 14 undef = .int .i64 (m : Nat) := hout 14 (by decide)
                    have h123 : fr.tmps.getD 123 undef = .bool false := hin 123 (by decide) (by decide)
                    clear hout hin
                    exact relStep_move (.tmp 14) rfl (wanted_some (g := 12) (t := 123) (b := false) rfl rfl h123) (by show fr.tmps.getD 14 undef = _; rw [e14])
                  · intro w' hb' fr hout hin
                    have h124 : fr.tmps.getD 124 undef = .int .i64 (m : Nat) := hin 124 (by decide) (by decide)
                    have h123 : fr.tmps.getD 123 undef = .bool false := hin 123 (by decide) (by decide)
                    clear hout hin
                    exact op_conv64 (.tmp 124) rfl (by omega) h124 (wanted_some (g := 12) (t := 123) (b := false) rfl rfl h123) rfl
                  · intro w' hb' fr hout hin
                    have h125 : fr.tmps.getD 125 undef = .int .u64 (m : Nat) := hin 125 (by decide) (by decide)
                    have h123 : fr.tmps.getD 123 undef = .bool false := hin 123 (by decide) (by decide)
                    clear hout hin
                    exact relStep_callW 29 #[.int .u64 (m : Nat)] (wanted_some (g := 12) (t := 123) (b := false) rfl rfl h123) (KM.out _) (fun _ => rfl) (by have hh := h125; go_simp)
                  · intro w' hb' fr hout hin
                    have e2 : fr.tmps.getD 2 undef = .pointer (some ⟨w.heap.size, 0, none⟩) := hout 2 (by decide)
                    have h123 : fr.tmps.getD 123 undef = .bool false := hin 123 (by decide) (by decide)
                    clear hout hin
                    exact op_load (n := a) (.tmp 2) rfl e2 ((gA.out.below hb' gA.out.lt).cells4) (wanted_some (g := 12) (t := 123) (b := false) rfl rfl h123) rfl
                  · intro w' hb' fr hout hin
                    have h126 : fr.tmps.getD 126 undef = W m := hin 126 (by decide) (by decide)
                    have h127 : fr.tmps.getD 127 undef = W a := hin 127 (by decide) (by decide)
                    have h123 : fr.tmps.getD 123 undef = .bool false := hin 123 (by decide) (by decide)
                    clear hout hin
                    exact relStep_callW 66 #[W m, W a] (wanted_some (g := 12) (t := 123) (b := false) rfl rfl h123) (KB.out _) (fun _ => rfl) (by have hh := (And.intro h126 h127); go_simp)
                  · intro w' hb' fr hout hin
                    have e14 : fr.tmps.getD 14 undef = .int .i64 (m : Nat) := hout 14 (by decide)
                    have h123 : fr.tmps.getD 123 undef = .bool false := hin 123 (by decide) (by decide)
                    clear hout hin
                    exact relStep_move (.tmp 14) rfl (wanted_some (g := 12) (t := 123) (b := false) rfl rfl h123) (by show fr.tmps.getD 14 undef = _; rw [e14])
                  · intro w' hb' fr hout hin
                    have e5 : fr.tmps.getD 5 undef = .pointer (some ⟨G, 0, none⟩) := hout 5 (by decide)
                    have h129 : fr.tmps.getD 129 undef = .int .i64 (m : Nat) := hin 129 (by decide) (by decide)
                    have h123 : fr.tmps.getD 123 undef = .bool false := hin 123 (by decide) (by decide)
                    clear hout hin
                    exact op_index33 (.tmp 5) (.tmp 129) rfl (by omega) e5 h129 (wanted_some (g := 12) (t := 123) (b := false) rfl rfl h123) rfl
                  · intro w' hb' fr hout hin
                    have h130 : fr.tmps.getD 130 undef = .pointer (some ⟨G, m, none⟩) := hin 130 (by decide) (by decide)
                    have h123 : fr.tmps.getD 123 undef = .bool false := hin 123 (by decide) (by decide)
                    clear hout hin
                    exact op_load8 (.tmp 130) rfl h130 (CZ.out w' hb') (wanted_some (g := 12) (t := 123) (b := false) rfl rfl h123) rfl
                  · intro w' hb' fr hout hin
                    have h131 : fr.tmps.getD 131 undef = .int .u8 (z : Nat) := hin 131 (by decide) (by decide)
                    have h123 : fr.tmps.getD 123 undef = .bool false := hin 123 (by decide) (by decide)
                    clear hout hin
                    exact op_conv8 (.tmp 131) rfl (by omega) h131 (wanted_some (g := 12) (t := 123) (b := false) rfl rfl h123) rfl
                  · intro w' hb' fr hout hin
                    have h132 : fr.tmps.getD 132 undef = .int .u64 (z : Nat) := hin 132 (by decide) (by decide)
                    have h123 : fr.tmps.getD 123 undef = .bool false := hin 123 (by decide) (by decide)
                    clear hout hin
                    exact relStep_callW 29 #[.int .u64 (z : Nat)] (wanted_some (g := 12) (t := 123) (b := false) rfl rfl h123) (KZ.out _) (fun _ => rfl) (by have hh := h132; go_simp)
                  · intro w' hb' fr hout hin
                    have h128 : fr.tmps.getD 128 undef = W z := hin 128 (by decide) (by decide)
                    have h133 : fr.tmps.getD 133 undef = W z := hin 133 (by decide) (by decide)
                    have h123 : fr.tmps.getD 123 undef = .bool false := hin 123 (by decide) (by decide)
                    clear hout hin
                    exact op_neW (n := z) (.tmp 128) (.tmp 133) _ rfl h128 h133 (wanted_some (g := 12) (t := 123) (b := false) rfl rfl h123) rfl
                  · intro w' hb' fr hout hin
                    have h123 : fr.tmps.getD 123 undef = .bool false := hin 123 (by decide) (by decide)
                    have h134 : fr.tmps.getD 134 undef = .bool false := hin 134 (by decide) (by decide)
                    clear hout hin
                    exact relStep_pickF (.tmp 123) (.const (.bool true)) (.tmp 134) rfl h123 (wanted_none rfl) (by show fr.tmps.getD 134 undef = _; rw [h134])
                · intro w' hb'
                  refine relAsk_in (by rfl) ?_
                  intro v111 h111
                  obtain rfl : v111 = .int .i64 (m : Nat) := h111
                  refine relAsk_in (by rfl) ?_
                  intro v112 h112
                  obtain rfl : v112 = .pointer (some ⟨g12, m, none⟩) := h112
                  refine relAsk_in (by rfl) ?_
                  intro v113 h113
                  obtain rfl : v113 = .int .u8 0 := h113
                  refine relAsk_in (by rfl) ?_
                  intro v114 h114
                  obtain rfl : v114 = .int .u8 0 := h114
                  refine relAsk_in (by rfl) ?_
                  intro v115 h115
                  obtain rfl : v115 = .bool false := h115
                  refine relAsk_in (by rfl) ?_
                  intro v116 h116
                  obtain rfl : v116 = .bool false := h116
                  refine relAsk_in (by rfl) ?_
                  intro v117 h117
                  obtain rfl : v117 = .int .i64 (m : Nat) := h117
                  refine relAsk_in (by rfl) ?_
                  intro v118 h118
                  obtain rfl : v118 = .pointer (some ⟨g13, m, none⟩) := h118
                  refine relAsk_in (by rfl) ?_
                  intro v119 h119
                  obtain rfl : v119 = .int .u8 (y : Nat) := h119
                  refine relAsk_in (by rfl) ?_
                  intro v120 h120
                  obtain rfl : v120 = .int .u8 (y : Nat) := h120
                  refine relAsk_in (by rfl) ?_
                  intro v121 h121
                  obtain rfl : v121 = .bool false := h121
                  refine relAsk_in (by rfl) ?_
                  intro v122 h122
                  obtain rfl : v122 = .bool false := h122
                  refine relAsk_in (by rfl) ?_
                  intro v123 h123
                  obtain rfl : v123 = .bool false := h123
                  refine relAsk_in (by rfl) ?_
                  intro v124 h124
                  obtain rfl : v124 = .int .i64 (m : Nat) := h124
                  refine relAsk_in (by rfl) ?_
                  intro v125 h125
                  obtain rfl : v125 = .int .u64 (m : Nat) := h125
                  refine relAsk_in (by rfl) ?_
                  intro v126 h126
                  obtain rfl : v126 = W m := h126
                  refine relAsk_in (by rfl) ?_
                  intro v127 h127
                  obtain rfl : v127 = W a := h127
                  refine relAsk_in (by rfl) ?_
                  intro v128 h128
                  obtain rfl : v128 = W z := h128
                  refine relAsk_in (by rfl) ?_
                  intro v129 h129
                  obtain rfl : v129 = .int .i64 (m : Nat) := h129
                  refine relAsk_in (by rfl) ?_
                  intro v130 h130
                  obtain rfl : v130 = .pointer (some ⟨G, m, none⟩) := h130
                  refine relAsk_in (by rfl) ?_
                  intro v131 h131
                  obtain rfl : v131 = .int .u8 (z : Nat) := h131
                  refine relAsk_in (by rfl) ?_
                  intro v132 h132
                  obtain rfl : v132 = .int .u64 (z : Nat) := h132
                  refine relAsk_in (by rfl) ?_
                  intro v133 h133
                  obtain rfl : v133 = W z := h133
                  refine relAsk_in (by rfl) ?_
                  intro v134 h134
                  obtain rfl : v134 = .bool false := h134
                  refine relAsk_in (by rfl) ?_
                  intro v135 h135
                  obtain rfl : v135 = .bool false := h135
                  refine relAsk_nil ?_
                  refine wpList_nil ?_
                  go_simp
                  have H5 := H5.out.below hb' H5.out.lt
                  have gA := gA.out.below hb' gA.out.lt
                  have H12 := H12.out.below hb' H12.out.lt
                  have H13 := H13.out.below hb' H13.out.lt
                  have gW := gW.out.trans (hb'.mono gW.out.size)
                  have k5 := Lib.hid H5
                  have kA := Lib.hid gA
                  have k12 := Lib.hid H12
                  have k13 := Lib.hid H13
                  have kW := Lib.hid gW
                  clear hb' H5 gA H12 H13 gW
                  go_wp2_with fail
                  go_roundw
                  case rel => exact ⟨m + 1, by omega, by go_num, k5, kA, k12, k13, kW⟩
                  case measure => simp [intOf]; omega
              · have ht1 : decide (((m + k : Nat) : Int) < 32) = false := decide_eq_false (by omega)
                have cl : ∀ W', Below wr.heap.size wr W' → W'.cell? ⟨g12, m, none⟩ = some (.int .u8 0) := fun W' hb => by
                  have h := (H12.out.below hb H12.out.lt).cell m (by rw [bytes32_len]; omega)
                  rw [LB.out m (by omega), if_neg h1] at h
                  exact h
                have ht2 : decide ((k : Int) ≤ (m : Int)) = false := decide_eq_false (by omega)
                have cr : ∀ W', Below wr.heap.size wr W' → W'.cell? ⟨g13, m, none⟩ = some (.int .u8 0) := fun W' hb => by
                  have h := (H13.out.below hb H13.out.lt).cell m (by rw [bytes32_len]; omega)
                  rw [RB.out m (by omega), if_neg h2] at h
                  exact h
                have h1i : ¬ ((m : Int) + (k : Int) < 32) := by omega
                have h2i : ¬ ((k : Int) ≤ (m : Int)) := by omega
                have CL := Lib.hid cl
                have CR := Lib.hid cr
                clear cl cr ex ey h1 h2
                go_wp2_with fail
                clear ht1 ht2 hmk h1i h2i
                refine wp_region_see 25 [111, 112, 113, 114, 115, 116, 117, 118, 119, 120, 121, 122, 123, 124, 125, 126, 127, 128, 129, 130, 131, 132, 133, 134, 135] [(111, .is (.int .i64 (m : Nat))), (112, .is (.pointer (some ⟨g12, m, none⟩))), (113, .is (.int .u8 0)), (114, .is (.int .u8 0)), (115, .is (.bool false)), (116, .is (.bool false)), (117, .is (.int .i64 (m : Nat))), (118, .is (.pointer (some ⟨g13, m, none⟩))), (119, .is (.int .u8 0)), (120, .is (.int .u8 0)), (121, .is (.bool false)), (122, .is (.bool false)), (123, .is (.bool false)), (124, .is (.int .i64 (m : Nat))), (125, .is (.int .u64 (m : Nat))), (126, .is (W m)), (127, .is (W a)), (128, .is (W z)), (129, .is (.int .i64 (m : Nat))), (130, .is (.pointer (some ⟨G, m, none⟩))), (131, .is (.int .u8 (z : Nat))), (132, .is (.int .u64 (z : Nat))), (133, .is (W z)), (134, .is (.bool false)), (135, .is (.bool false))] (by kernel_rfl) (by kernel_rfl) (by rfl) ?_ ?_
                · refine seeOps_cons ?_ (seeOps_cons ?_ (seeOps_cons ?_ (seeOps_cons ?_ (seeOps_cons ?_ (seeOps_cons ?_ (seeOps_cons ?_ (seeOps_cons ?_ (seeOps_cons ?_ (seeOps_cons ?_ (seeOps_cons ?_ (seeOps_cons ?_ (seeOps_cons ?_ (seeOps_cons ?_ (seeOps_cons ?_ (seeOps_cons ?_ (seeOps_cons ?_ (seeOps_cons ?_ (seeOps_cons ?_ (seeOps_cons ?_ (seeOps_cons ?_ (seeOps_cons ?_ (seeOps_cons ?_ (seeOps_cons ?_ (seeOps_cons ?_ seeOps_nil))))))))))))))))))))))))
                  · intro w' hb' fr hout hin
                    have e14 : fr.tmps.getD 14 undef = .int .i64 (m : Nat) := hout 14 (by decide)
                    clear hout hin
                    exact relStep_move (.tmp 14) rfl (wanted_none rfl) (by show fr.tmps.getD 14 undef = _; rw [e14])
                  · intro w' hb' fr hout hin
                    have e12 : fr.tmps.getD 12 undef = .pointer (some ⟨g12, 0, none⟩) := hout 12 (by decide)
                    have h111 : fr.tmps.getD 111 undef = .int .i64 (m : Nat) := hin 111 (by decide) (by decide)
                    clear hout hin
                    exact op_index33 (.tmp 12) (.tmp 111) rfl (by omega) e12 h111 (wanted_none rfl) rfl
                  · intro w' hb' fr hout hin
                    have h112 : fr.tmps.getD 112 undef = .pointer (some ⟨g12, m, none⟩) := hin 112 (by decide) (by decide)
                    clear hout hin
                    exact op_load8 (.tmp 112) rfl h112 (CL.out w' hb') (wanted_none rfl) rfl
                  · intro w' hb' fr hout hin
                    have e15 : fr.tmps.getD 15 undef = .int .u8 0 := hout 15 (by decide)
                    clear hout hin
                    exact relStep_move (.tmp 15) rfl (wanted_none rfl) (by show fr.tmps.getD 15 undef = _; rw [e15])
                  · intro w' hb' fr hout hin
                    have h113 : fr.tmps.getD 113 undef = .int .u8 0 := hin 113 (by decide) (by decide)
                    have h114 : fr.tmps.getD 114 undef = .int .u8 0 := hin 114 (by decide) (by decide)
                    clear hout hin
                    exact op_neU8 (.tmp 113) (.tmp 114) _ rfl h113 h114 (wanted_none rfl) rfl
                  · intro w' hb' fr hout hin
                    have h115 : fr.tmps.getD 115 undef = .bool false := hin 115 (by decide) (by decide)
                    clear hout hin
                    exact relStep_move (.tmp 115) rfl (wanted_none rfl) (by show fr.tmps.getD 115 undef = _; rw [h115])
                  · intro w' hb' fr hout hin
                    have e14 : fr.tmps.getD 14 undef = .int .i64 (m : Nat) := hout 14 (by decide)
                    have h116 : fr.tmps.getD 116 undef = .bool false := hin 116 (by decide) (by decide)
                    clear hout hin
                    exact relStep_move (.tmp 14) rfl (wanted_some (g := 5) (t := 116) (b := false) rfl rfl h116) (by show fr.tmps.getD 14 undef = _; rw [e14])
                  · intro w' hb' fr hout hin
                    have e13 : fr.tmps.getD 13 undef = .pointer (some ⟨g13, 0, none⟩) := hout 13 (by decide)
                    have h117 : fr.tmps.getD 117 undef = .int .i64 (m : Nat) := hin 117 (by decide) (by decide)
                    have h116 : fr.tmps.getD 116 undef = .bool false := hin 116 (by decide) (by decide)
                    clear hout hin
                    exact op_index33 (.tmp 13) (.tmp 117) rfl (by omega) e13 h117 (wanted_some (g := 5) (t := 116) (b := false) rfl rfl h116) rfl
                  · intro w' hb' fr hout hin
                    have h118 : fr.tmps.getD 118 undef = .pointer (some ⟨g13, m, none⟩) := hin 118 (by decide) (by decide)
                    have h116 : fr.tmps.getD 116 undef = .bool false := hin 116 (by decide) (by decide)
                    clear hout hin
                    exact op_load8 (.tmp 118) rfl h118 (CR.out w' hb') (wanted_some (g := 5) (t := 116) (b := false) rfl rfl h116) rfl
                  · intro w' hb' fr hout hin
                    have e16 : fr.tmps.getD 16 undef = .int .u8 0 := hout 16 (by decide)
                    have h116 : fr.tmps.getD 116 undef = .bool false := hin 116 (by decide) (by decide)
                    clear hout hin
                    exact relStep_move (.tmp 16) rfl (wanted_some (g := 5) (t := 116) (b := false) rfl rfl h116) (by show fr.tmps.getD 16 undef = _; rw [e16])
                  · intro w' hb' fr hout hin
                    have h119 : fr.tmps.getD 119 undef = .int .u8 0 := hin 119 (by decide) (by decide)
                    have h120 : fr.tmps.getD 120 undef = .int .u8 0 := hin 120 (by decide) (by decide)
                    have h116 : fr.tmps.getD 116 undef = .bool false := hin 116 (by decide) (by decide)
                    clear hout hin
                    exact op_neU8 (.tmp 119) (.tmp 120) _ rfl h119 h120 (wanted_some (g := 5) (t := 116) (b := false) rfl rfl h116) rfl
                  · intro w' hb' fr hout hin
                    have h116 : fr.tmps.getD 116 undef = .bool false := hin 116 (by decide) (by decide)
                    have h121 : fr.tmps.getD 121 undef = .bool false := hin 121 (by decide) (by decide)
                    clear hout hin
                    exact relStep_pickF (.tmp 116) (.const (.bool true)) (.tmp 121) rfl h116 (wanted_none rfl) (by show fr.tmps.getD 121 undef = _; rw [h121])
                  · intro w' hb' fr hout hin
                    have h122 : fr.tmps.getD 122 undef = .bool false := hin 122 (by decide) (by decide)
                    clear hout hin
                    exact relStep_move (.tmp 122) rfl (wanted_none rfl) (by show fr.tmps.getD 122 undef = _; rw [h122])
                  · intro w' hb' fr hout hin
                    have e14 : fr.tmps.getD 14 undef = .int .i64 (m : Nat) := hout 14 (by decide)
                    have h123 : fr.tmps.getD 123 undef = .bool false := hin 123 (by decide) (by decide)
                    clear hout hin
                    exact relStep_move (.tmp 14) rfl (wanted_some (g := 12) (t := 123) (b := false) rfl rfl h123) (by show fr.tmps.getD 14 undef = _; rw [e14])
                  · intro w' hb' fr hout hin
                    have h124 : fr.tmps.getD 124 undef = .int .i64 (m : Nat) := hin 124 (by decide) (by decide)
                    have h123 : fr.tmps.getD 123 undef = .bool false := hin 123 (by decide) (by decide)
                    clear hout hin
                    exact op_conv64 (.tmp 124) rfl (by omega) h124 (wanted_some (g := 12) (t := 123) (b := false) rfl rfl h123) rfl
                  · intro w' hb' fr hout hin
                    have h125 : fr.tmps.getD 125 undef = .int .u64 (m : Nat) := hin 125 (by decide) (by decide)
                    have h123 : fr.tmps.getD 123 undef = .bool false := hin 123 (by decide) (by decide)
                    clear hout hin
                    exact relStep_callW 29 #[.int .u64 (m : Nat)] (wanted_some (g := 12) (t := 123) (b := false) rfl rfl h123) (KM.out _) (fun _ => rfl) (by have hh := h125; go_simp)
                  · intro w' hb' fr hout hin
                    have e2 : fr.tmps.getD 2 undef = .pointer (some ⟨w.heap.size, 0, none⟩) := hout 2 (by decide)
                    have h123 : fr.tmps.getD 123 undef = .bool false := hin 123 (by decide) (by decide)
                    clear hout hin
                    exact op_load (n := a) (.tmp 2) rfl e2 ((gA.out.below hb' gA.out.lt).cells4) (wanted_some (g := 12) (t := 123) (b := false) rfl rfl h123) rfl
                  · intro w' hb' fr hout hin
                    have h126 : fr.tmps.getD 126 undef = W m := hin 126 (by decide) (by decide)
                    have h127 : fr.tmps.getD 127 undef = W a := hin 127 (by decide) (by decide)
                    have h123 : fr.tmps.getD 123 undef = .bool false := hin 123 (by decide) (by decide)
                    clear hout hin
                    exact relStep_callW 66 #[W m, W a] (wanted_some (g := 12) (t := 123) (b := false) rfl rfl h123) (KB.out _) (fun _ => rfl) (by have hh := (And.intro h126 h127); go_simp)
                  · intro w' hb' fr hout hin
                    have e14 : fr.tmps.getD 14 undef = .int .i64 (m : Nat) := hout 14 (by decide)
                    have h123 : fr.tmps.getD 123 undef = .bool false := hin 123 (by decide) (by decide)
                    clear hout hin
                    exact relStep_move (.tmp 14) rfl (wanted_some (g := 12) (t := 123) (b := false) rfl rfl h123) (by show fr.tmps.getD 14 undef = _; rw [e14])
                  · intro w' hb' fr hout hin
                    have e5 : fr.tmps.getD 5 undef = .pointer (some ⟨G, 0, none⟩) := hout 5 (by decide)
                    have h129 : fr.tmps.getD 129 undef = .int .i64 (m : Nat) := hin 129 (by decide) (by decide)
                    have h123 : fr.tmps.getD 123 undef = .bool false := hin 123 (by decide) (by decide)
                    clear hout hin
                    exact op_index33 (.tmp 5) (.tmp 129) rfl (by omega) e5 h129 (wanted_some (g := 12) (t := 123) (b := false) rfl rfl h123) rfl
                  · intro w' hb' fr hout hin
                    have h130 : fr.tmps.getD 130 undef = .pointer (some ⟨G, m, none⟩) := hin 130 (by decide) (by decide)
                    have h123 : fr.tmps.getD 123 undef = .bool false := hin 123 (by decide) (by decide)
                    clear hout hin
                    exact op_load8 (.tmp 130) rfl h130 (CZ.out w' hb') (wanted_some (g := 12) (t := 123) (b := false) rfl rfl h123) rfl
                  · intro w' hb' fr hout hin
                    have h131 : fr.tmps.getD 131 undef = .int .u8 (z : Nat) := hin 131 (by decide) (by decide)
                    have h123 : fr.tmps.getD 123 undef = .bool false := hin 123 (by decide) (by decide)
                    clear hout hin
                    exact op_conv8 (.tmp 131) rfl (by omega) h131 (wanted_some (g := 12) (t := 123) (b := false) rfl rfl h123) rfl
                  · intro w' hb' fr hout hin
                    have h132 : fr.tmps.getD 132 undef = .int .u64 (z : Nat) := hin 132 (by decide) (by decide)
                    have h123 : fr.tmps.getD 123 undef = .bool false := hin 123 (by decide) (by decide)
                    clear hout hin
                    exact relStep_callW 29 #[.int .u64 (z : Nat)] (wanted_some (g := 12) (t := 123) (b := false) rfl rfl h123) (KZ.out _) (fun _ => rfl) (by have hh := h132; go_simp)
                  · intro w' hb' fr hout hin
                    have h128 : fr.tmps.getD 128 undef = W z := hin 128 (by decide) (by decide)
                    have h133 : fr.tmps.getD 133 undef = W z := hin 133 (by decide) (by decide)
                    have h123 : fr.tmps.getD 123 undef = .bool false := hin 123 (by decide) (by decide)
                    clear hout hin
                    exact op_neW (n := z) (.tmp 128) (.tmp 133) _ rfl h128 h133 (wanted_some (g := 12) (t := 123) (b := false) rfl rfl h123) rfl
                  · intro w' hb' fr hout hin
                    have h123 : fr.tmps.getD 123 undef = .bool false := hin 123 (by decide) (by decide)
                    have h134 : fr.tmps.getD 134 undef = .bool false := hin 134 (by decide) (by decide)
                    clear hout hin
                    exact relStep_pickF (.tmp 123) (.const (.bool true)) (.tmp 134) rfl h123 (wanted_none rfl) (by show fr.tmps.getD 134 undef = _; rw [h134])
                · intro w' hb'
                  refine relAsk_in (by rfl) ?_
                  intro v111 h111
                  obtain rfl : v111 = .int .i64 (m : Nat) := h111
                  refine relAsk_in (by rfl) ?_
                  intro v112 h112
                  obtain rfl : v112 = .pointer (some ⟨g12, m, none⟩) := h112
                  refine relAsk_in (by rfl) ?_
                  intro v113 h113
                  obtain rfl : v113 = .int .u8 0 := h113
                  refine relAsk_in (by rfl) ?_
                  intro v114 h114
                  obtain rfl : v114 = .int .u8 0 := h114
                  refine relAsk_in (by rfl) ?_
                  intro v115 h115
                  obtain rfl : v115 = .bool false := h115
                  refine relAsk_in (by rfl) ?_
                  intro v116 h116
                  obtain rfl : v116 = .bool false := h116
                  refine relAsk_in (by rfl) ?_
                  intro v117 h117
                  obtain rfl : v117 = .int .i64 (m : Nat) := h117
                  refine relAsk_in (by rfl) ?_
                  intro v118 h118
                  obtain rfl : v118 = .pointer (some ⟨g13, m, none⟩) := h118
                  refine relAsk_in (by rfl) ?_
                  intro v119 h119
                  obtain rfl : v119 = .int .u8 0 := h119
                  refine relAsk_in (by rfl) ?_
                  intro v120 h120
                  obtain rfl : v120 = .int .u8 0 := h120
                  refine relAsk_in (by rfl) ?_
                  intro v121 h121
                  obtain rfl : v121 = .bool false := h121
                  refine relAsk_in (by rfl) ?_
                  intro v122 h122
                  obtain rfl : v122 = .bool false := h122
                  refine relAsk_in (by rfl) ?_
                  intro v123 h123
                  obtain rfl : v123 = .bool false := h123
                  refine relAsk_in (by rfl) ?_
                  intro v124 h124
                  obtain rfl : v124 = .int .i64 (m : Nat) := h124
                  refine relAsk_in (by rfl) ?_
                  intro v125 h125
                  obtain rfl : v125 = .int .u64 (m : Nat) := h125
                  refine relAsk_in (by rfl) ?_
                  intro v126 h126
                  obtain rfl : v126 = W m := h126
                  refine relAsk_in (by rfl) ?_
                  intro v127 h127
                  obtain rfl : v127 = W a := h127
                  refine relAsk_in (by rfl) ?_
                  intro v128 h128
                  obtain rfl : v128 = W z := h128
                  refine relAsk_in (by rfl) ?_
                  intro v129 h129
                  obtain rfl : v129 = .int .i64 (m : Nat) := h129
                  refine relAsk_in (by rfl) ?_
                  intro v130 h130
                  obtain rfl : v130 = .pointer (some ⟨G, m, none⟩) := h130
                  refine relAsk_in (by rfl) ?_
                  intro v131 h131
                  obtain rfl : v131 = .int .u8 (z : Nat) := h131
                  refine relAsk_in (by rfl) ?_
                  intro v132 h132
                  obtain rfl : v132 = .int .u64 (z : Nat) := h132
                  refine relAsk_in (by rfl) ?_
                  intro v133 h133
                  obtain rfl : v133 = W z := h133
                  refine relAsk_in (by rfl) ?_
                  intro v134 h134
                  obtain rfl : v134 = .bool false := h134
                  refine relAsk_in (by rfl) ?_
                  intro v135 h135
                  obtain rfl : v135 = .bool false := h135
                  refine relAsk_nil ?_
                  refine wpList_nil ?_
                  go_simp
                  have H5 := H5.out.below hb' H5.out.lt
                  have gA := gA.out.below hb' gA.out.lt
                  have H12 := H12.out.below hb' H12.out.lt
                  have H13 := H13.out.below hb' H13.out.lt
                  have gW := gW.out.trans (hb'.mono gW.out.size)
                  have k5 := Lib.hid H5
                  have kA := Lib.hid gA
                  have k12 := Lib.hid H12
                  have k13 := Lib.hid H13
                  have kW := Lib.hid gW
                  clear hb' H5 gA H12 H13 gW
                  go_wp2_with fail
                  go_roundw
                  case rel => exact ⟨m + 1, by omega, by go_num, k5, kA, k12, k13, kW⟩
                  case measure => simp [intOf]; omega
          · obtain rfl : m = 32 := by omega
            have kw := Lib.hid (wakes_c)
            go_wp2_with fail
            (with_reducible refine (kw.out _).mono ?_)
            rintro e w9 ⟨rfl, hb9⟩
            have kW := Lib.hid (gW.out.trans (hb9.mono gW.out.size))
            clear hb9
            go_wp2_with fail
            go_ret
            exact ⟨rfl, kW.out⟩
end Go.Proofs.Ytihffojljbgpcaa
