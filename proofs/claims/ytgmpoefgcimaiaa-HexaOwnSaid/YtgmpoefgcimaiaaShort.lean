/- The contract of package word's Short: the bytes without the zeros ahead. -/
import Derived.Test.YtgmpoefgcimaiaaOwn8
import Derived.Test.YtgmpoefgcimaiaaFrom
import Derived.Test.YtgmpoefgcimaiaaWordBits
import Derived.Test.YtgmpoefgcimaiaaRBit
import Derived.Test.YtgmpoefgcimaiaaEqArr
import Derived.Deep.DeepCutAuto
import Derived.Deep.MidRow
namespace Go.Proofs.Ytgmpoefgcimaiaa
open Go.RowKit

def shortv (a : Nat) : List Nat := (bytes32 a).drop (32 - (blen a + 7) / 8)
theorem blen_big {a : Nat} (h : Big a) : blen a ≤ 256 := by
  rcases Nat.eq_zero_or_pos a with rfl | h0
  · have := blen_eq (n := 0) (l := 0) (by decide) (by omega)
    omega
  · have h1 := blen_ge h0
    have h2 : 2 ^ (blen a - 1) < 2 ^ 256 := Nat.lt_of_le_of_lt h1 (by have := h; unfold Big at this; rw [show (2 : Nat) ^ 256 = 115792089237316195423570985008687907853269984665640564039457584007913129639936 by decide]; exact this)
    have := (Nat.pow_lt_pow_iff_right (by omega : 1 < 2)).1 h2
    omega
theorem bytes32_dv {a : Nat} (h : Big a) : dv 256 (bytes32 a).reverse = a := by
  refine dv_of_digits (fun i hi => ?_) ?_
  · rw [List.length_reverse, bytes32_len] at hi
    rw [rev_get _ _ (by rw [bytes32_len]; exact hi), bytes32_len, bytes32_get _ (by omega), show 31 - (32 - 1 - i) = i by omega]
  · rw [List.length_reverse, bytes32_len]
    unfold Big at h
    exact h
theorem short_k {a : Nat} (h : Big a) : (blen a + 7) / 8 ≤ 32 := by have := blen_big h; omega
theorem shortv_len {a : Nat} (h : Big a) : (shortv a).length = (blen a + 7) / 8 := by
  have := short_k h
  unfold shortv
  rw [List.length_drop, bytes32_len]
  omega
theorem p256 (n : Nat) : (256 : Nat) ^ n = 2 ^ (8 * n) := by rw [show (256 : Nat) = 2 ^ 8 by decide, ← Nat.pow_mul]
theorem shortv_lt {a : Nat} : a < 256 ^ ((blen a + 7) / 8) := by
  refine Nat.lt_of_lt_of_le (blen_lt a) ?_
  rw [p256]
  exact Nat.pow_le_pow_right (by omega) (by omega)
theorem shortv_ds (a : Nat) : Ds 256 (shortv a) := (bytes32_ds a).drop _
theorem shortv_dv {a : Nat} (h : Big a) : dv 256 (shortv a).reverse = a := by
  have hd := bytes32_dv h
  have hs : (bytes32 a).reverse = (shortv a).reverse ++ ((bytes32 a).take (32 - (blen a + 7) / 8)).reverse := by
    unfold shortv
    rw [← List.reverse_append, List.take_append_drop]
  rw [hs, dv_append, List.length_reverse, shortv_len h] at hd
  have hlt := shortv_lt (a := a)
  rcases Nat.eq_zero_or_pos (dv 256 ((bytes32 a).take (32 - (blen a + 7) / 8)).reverse) with h0 | h0
  · rw [h0] at hd; omega
  · have := Nat.le_mul_of_pos_right (256 ^ ((blen a + 7) / 8)) h0
    omega
theorem shortv_can {a : Nat} (h : Big a) : Can 256 (shortv a).reverse a := by
  refine ⟨(shortv_ds a).reverse, shortv_dv h, fun hl => ?_⟩
  have hk := short_k h
  rw [List.length_reverse, shortv_len h] at hl ⊢
  rw [rev_get _ _ (by rw [shortv_len h]; omega), shortv_len h, show (blen a + 7) / 8 - 1 - ((blen a + 7) / 8 - 1) = 0 by omega]
  have h0 : 0 < a := by
    rcases Nat.eq_zero_or_pos a with rfl | h0
    · have := blen_eq (n := 0) (l := 0) (by decide) (by omega)
      omega
    · exact h0
  have hge := blen_ge h0
  have he : (shortv a).getD 0 0 = a / 256 ^ ((blen a + 7) / 8 - 1) % 256 := by
    unfold shortv
    rw [List.getD_eq_getElem?_getD, List.getElem?_drop, ← List.getD_eq_getElem?_getD, bytes32_get _ (by omega)]
    rw [show 31 - (32 - (blen a + 7) / 8 + 0) = (blen a + 7) / 8 - 1 by omega]
  rw [he]
  have hlt := shortv_lt (a := a)
  have h1 : 256 ^ ((blen a + 7) / 8 - 1) ≤ a := by
    refine Nat.le_trans ?_ hge
    rw [p256]
    exact Nat.pow_le_pow_right (by omega) (by omega)
  have h2 : 0 < a / 256 ^ ((blen a + 7) / 8 - 1) := Nat.div_pos h1 (Nat.pow_pos (by omega))
  have h3 : a / 256 ^ ((blen a + 7) / 8 - 1) < 256 := by
    apply Nat.div_lt_of_lt_mul
    have e : 256 ^ ((blen a + 7) / 8 - 1) * 256 = 256 ^ ((blen a + 7) / 8) := by
      rw [← Nat.pow_succ]
      congr 1
      omega
    rw [e]
    exact hlt
  omega
theorem bits_blen {a n : Nat} (h : IsBits a n) : n = blen a := by
  obtain ⟨h1, _, h3, h4⟩ := h
  refine blen_eq h1 fun hn => ?_
  by_cases ha : a = 0
  · have := h4 ha; omega
  · exact (h3 ha).2
theorem arr33 : Try.prog.underlying 37 = some (.array (Try.prog.arrayLen 37) (Try.prog.elem 37)) := by kernel_rfl
theorem len33 : Try.prog.arrayLen 37 = 32 := by kernel_rfl
theorem elem33 (w : World) : (sizeOf (Try.prog.elem 37)).run Try.prog w = .ok 1 w := by kernel_rfl
theorem slice33l (g lo : Nat) (h : lo ≤ 32) (w : World) : (Instr.sliceAt 37 (.pointer (some ⟨g, 0, none⟩)) (some (.int .i64 (lo : Nat))) none none).run Try.prog w = .ok (.slice (some (if 32 = lo then ⟨g, 0, none⟩ else ⟨g, lo, none⟩)) (32 - lo) (32 - lo)) w := by
  rw [run_sliceAt_array_l w _ _ arr33 .i64 lo (by omega) (by rw [len33]; omega), elem33, len33]
  simp only [Result.andThen_ok, slicedAt, Int.toNat_natCast, Nat.mul_one]
  congr 3
  by_cases h : 32 = lo
  · rw [if_pos h, if_pos h]
  · rw [if_neg h, if_neg h]
    unfold Addr.add
    by_cases h0 : lo = 0 <;> simp [h0]
theorem slice33 (g : Nat) (w : World) : (Instr.sliceAt 37 (.pointer (some ⟨g, 0, none⟩)) none none none).run Try.prog w = .ok (.slice (some ⟨g, 0, none⟩) 32 32) w := by
  rw [run_sliceAt_array_all w _ _ arr33, elem33, len33]
  simp [slicedAt, Result.andThen_ok, Addr.add]

set_option maxRecDepth 100000 in
set_option maxHeartbeats 3200000 in
theorem short_o {a : Nat} (ha : Big a) (w : World) : Calls Try.prog 55 #[W a] w (RetR (fun w' v => OwnB w.heap.size w' v (shortv a)) w) := by
  have gA := Arr.new4 w 30 (lim 0 a) (lim 1 a) (lim 2 a) (lim 3 a)
  have gW := (Below.refl w.heap.size w).alloc (Nat.le_refl _) (.cells #[.int .u64 (lim 0 a : Nat), .int .u64 (lim 1 a : Nat), .int .u64 (lim 2 a : Nat), .int .u64 (lim 3 a : Nat)] 30)
  have k1 : ∀ w, Calls Try.prog 62 #[.agg #[.int .u64 (lim 0 a : Nat), .int .u64 (lim 1 a : Nat), .int .u64 (lim 2 a : Nat), .int .u64 (lim 3 a : Nat)]] w (RetV (BV (bytes32 a)) w) := fun w => bytes_c ha w
  have k2 : ∀ w, Calls Try.prog 63 #[.agg #[.int .u64 (lim 0 a : Nat), .int .u64 (lim 1 a : Nat), .int .u64 (lim 2 a : Nat), .int .u64 (lim 3 a : Nat)]] w (RetBits a w) := fun w => bits_c (isW_lim ha) w
  have K1 := Lib.hid k1
  have K2 := Lib.hid k2
  have HA := Lib.hid ha
  clear k1 k2 ha
  go_enter Try.func55, Try.ntmps55
  go_upto_region 1 with (fail)
  generalize w.alloc (.cells #[.int .u64 (lim 0 a : Nat), .int .u64 (lim 1 a : Nat), .int .u64 (lim 2 a : Nat), .int .u64 (lim 3 a : Nat)] 30) = X at *
  obtain ⟨x0, x1, x2, x3⟩ := gA.cells4
  go_wp2_with fail
  rename_i KK hKK
  (with_reducible refine (K1.out _).mono ?_)
  rintro e w2 ⟨rfl, hb1⟩
  have gA := gA.below hb1 gA.lt
  have gW := gW.trans (hb1.mono gW.size)
  clear hb1 x0 x1 x2 x3
  refine hKK _ _ ?_
  refine wpList_plain rfl fun K hK => ?_
  go_simp
  refine hK _ _ ?_
  have hn : Row .u8 (w2.alloc (.cells (Cs8 (List.replicate 32 0)) 37)) w2.heap.size 37 (List.replicate 32 0) := Row.new (k := .u8) w2 37 (List.replicate 32 0)
  have hlt2 := gA.lt
  have gA := gA.alloc (.cells (Cs8 (List.replicate 32 0)) 37)
  have gW := gW.alloc gW.size (.cells (Cs8 (List.replicate 32 0)) 37)
  refine wpList_store_row rfl 37 (.tmp 3) (.tmp 6) rfl w2.heap.size (Cs8 (bytes32 a)) rfl rfl 37 _ hn (info33' (bytes32_len a)) (by rw [cs8_size, cs8_size, bytes32_len]; simp) (cs8_one _) ?_
  refine wpList_nil ?_
  have hrow := hn.toSet (bytes32 a)
  have gA : Arr ((w2.alloc (.cells (Cs8 (List.replicate 32 0)) 37)).setRow w2.heap.size (Cs8 (bytes32 a))) w.heap.size 30 [lim 0 a, lim 1 a, lim 2 a, lim 3 a] := (setRow_other _ _ _ _ (by omega)).trans gA
  have gW := below_setRow gW (show w.heap.size ≤ w2.heap.size by omega) (Cs8 (bytes32 a))
  obtain ⟨Y, hY⟩ : ∃ Y, Y = (w2.alloc (.cells (Cs8 (List.replicate 32 0)) 37)).setRow w2.heap.size (Cs8 (bytes32 a)) := ⟨_, rfl⟩
  change Exit.then _ _ _ _ ((w2.alloc (.cells (Cs8 (List.replicate 32 0)) 37)).setRow w2.heap.size (Cs8 (bytes32 a)))
  rw [← hY] at hrow gA gW ⊢
  generalize w2.heap.size = G at *
  clear hY hn KK hKK
  obtain ⟨x0, x1, x2, x3⟩ := gA.cells4
  have hrow' := Lib.hid hrow
  clear hrow
  go_wp2_with fail
  (with_reducible refine (K2.out _).mono ?_)
  rintro e w3 ⟨n, rfl, hbits, hb1⟩
  have hnb := bits_blen hbits
  subst hnb
  have hrow := Lib.hid (hrow'.out.below hb1 hrow'.out.lt)
  have gW := Lib.hid (gW.trans (hb1.mono gW.size))
  have gl := hrow.out.lt
  have hk := short_k HA.out
  obtain ⟨n, hnn⟩ : ∃ n, n = blen a := ⟨_, rfl⟩
  obtain ⟨k, hkk⟩ : ∃ k, k = (n + 7) / 8 := ⟨_, rfl⟩
  rw [← hnn, ← hkk] at hk
  have hn256 : n ≤ 256 := by rw [hnn]; exact blen_big HA.out
  rw [← hnn]
  have e1 : ((n : Int) + 7) / 8 = (k : Int) := by omega
  have e2 : ((n : Int) + 7).tdiv 8 = (k : Int) := by rw [Int.tdiv_eq_ediv_of_nonneg (by omega)]; omega
  have hmk := mk8 (k : Int) k rfl (by omega)
  have HK := Lib.hid hkk
  have HNN := Lib.hid hnn
  clear hbits hb1 x0 x1 x2 x3 gA hrow' hkk hnn
  go_upto_region 3 with (fail)
  have e5 : IntKind.i64.wrap (32 - (k : Int)) = ((32 - k : Nat) : Int) := by rw [IntWalk.i64_in _ (by omega)]; omega
  have hsl := slice33l G (32 - k) (by omega)
  have hmd := Lib.hid (Row.made (k := .u8) w3 5 k)
  have hrow := Lib.hid (hrow.out.alloc (.cells (madeCells #[Value.int .u8 0] k) 5))
  have gW := Lib.hid (gW.out.alloc gW.out.size (.cells (madeCells #[Value.int .u8 0] k) 5))
  have hG : w.heap.size ≤ w3.heap.size := by omega
  refine wp_region_lit ?_
  iterate 5 (refine wpList_plain rfl fun K hK => ?_; go_simp; refine hK _ _ ?_; clear hK K)
  have hlen : (shortv a).length = k := by rw [shortv_len HA.out, ← HNN.out, ← HK.out]
  refine wpList_copy_splice rfl (.tmp 12) (.tmp 16) 22 22 rfl 5 Try.underlying22 (by kernel_rfl) (some ⟨w3.heap.size, 0, none⟩) (some (if 32 = 32 - k then ⟨G, 0, none⟩ else ⟨G, 32 - k, none⟩)) k k (32 - (32 - k)) (32 - (32 - k)) rfl rfl w3.heap.size 0 ((List.replicate k 0).map fun n : Nat => Value.int .u8 (n : Int)) 5 hmd.out ((shortv a).map fun n : Nat => Value.int .u8 (n : Int)) (by rw [List.length_map, hlen]; show k = min _ _; omega) ?_ (by rw [List.length_map, List.length_map, hlen, List.length_replicate]; omega) ?_ w.heap.size w gW.out hG ?_
  · intro hc
    rw [List.length_map, hlen] at hc
    refine ⟨rfl, ⟨G, 32 - k, none⟩, by rw [if_neg (by omega)], fun j v hv => ?_⟩
    rw [Addr.add_mid]
    rw [List.getElem?_map] at hv
    obtain ⟨u, hu, rfl⟩ := Option.map_eq_some_iff.1 hv
    have hj : j < k := by have := (List.getElem?_eq_some_iff.1 hu).1; rwa [hlen] at this
    rw [hrow.out.cell (32 - k + j) (by rw [bytes32_len]; omega)]
    unfold shortv at hu
    rw [← HNN.out, ← HK.out, List.getElem?_drop] at hu
    rw [List.getD_eq_getElem?_getD, hu]
    rfl
  · intro v hv
    rw [List.mem_map] at hv
    obtain ⟨n, _, rfl⟩ := hv
    rfl
  · intro w' hw' hb'
    have hr : Row .u8 w' w3.heap.size 5 (shortv a) := by
      have h := hw'.out
      have e : splice ((List.replicate k 0).map fun n : Nat => Value.int .u8 (n : Int)) 0 ((shortv a).map fun n : Nat => Value.int .u8 (n : Int)) = (shortv a).map fun n : Nat => Value.int .u8 (n : Int) := by
        unfold splice
        rw [List.take_zero, List.nil_append, List.drop_eq_nil_of_le (by simp; omega), List.append_nil]
      rw [e] at h
      exact h
    have hby : OwnB w.heap.size w' (.slice (some ⟨w3.heap.size, 0, none⟩) k k) (shortv a) := by
      have h := (OwnB.of (Acc.of_row hr (Nat.le_refl _) (by rw [hlen]; omega)) (shortv_ds a)).mono hG
      rwa [hlen] at h
    have HBY := Lib.hid hby
    have HB := Lib.hid hb'
    clear hw' hr hby hb'
    clear hmd hrow gW hsl hlen e1 e2 e5 hmk hG gl hK K gA hlt2 hk hn256 HK HNN K1 K2
    refine wpList_nil ?_
    generalize goInt _ = gi
    generalize (if 32 = 32 - k then (⟨G, 0, none⟩ : Addr) else ⟨G, 32 - k, none⟩) = ad
    generalize 32 - (32 - k) = q1
    generalize 32 - k = q2
    go_wp2_with fail
    go_ret
    exact ⟨_, rfl, HBY.out, HB.out⟩
theorem short_c {a : Nat} (ha : Big a) (w : World) : Calls Try.prog 55 #[W a] w (RetR (fun w' v => Byt w' v (shortv a)) w) := (short_o ha w).mono fun _ _ ⟨v, e, h, hb⟩ => ⟨v, e, h.byt, hb⟩
end Go.Proofs.Ytgmpoefgcimaiaa
