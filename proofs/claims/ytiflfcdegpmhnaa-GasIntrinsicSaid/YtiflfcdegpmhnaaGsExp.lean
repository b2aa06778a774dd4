/- Package quarryref17: c, what a memory of so many words takes. -/
import Derived.Test.YtiflfcdegpmhnaaGsOps
import Derived.Test.YtiflfcdegpmhnaaRMul
import Derived.Test.YtiflfcdegpmhnaaRShl
import Derived.Test.YtiflfcdegpmhnaaRAdd
namespace Go.Proofs.Ytiflfcdegpmhnaa
open Go.RowKit

set_option maxRecDepth 100000 in
set_option maxHeartbeats 6400000 in
theorem rexp_c (f : Int) (k : Nat → Int) {a : Nat} (ha : Big a) (w : World) : Calls Try.prog 18 #[.agg (RulesK f k), W a] w (RetV (.int .u64 (expZ (k 21) a)) w) := by
  have hlen : (shortv a).length ≤ 256 := by
    unfold shortv; rw [List.length_drop]; have := (bytes32_len a); omega
  have e0 : IntKind.u64.wrap ((shortv a).length : Nat) = (((shortv a).length : Nat) : Int) := by rw [IntKind.wrap_u64]; omega
  have hz : expZ (k 21) a = IntKind.u64.wrap (k 21 * IntKind.u64.wrap ((shortv a).length : Nat)) := by unfold expZ; rw [e0]
  rw [hz]
  obtain ⟨X, hX⟩ : ∃ X, X = (w.alloc (.cells (RulesK f k) 26)).alloc (.cells #[.int .u64 (lim 0 a : Nat), .int .u64 (lim 1 a : Nat), .int .u64 (lim 2 a : Nat), .int .u64 (lim 3 a : Nat)] 24) := ⟨_, rfl⟩
  have HR : Hid (RulesAt X w.heap.size f k) := by rw [hX]; exact (RulesAt.new w f k).alloc _
  have HA : Hid (Arr X (w.heap.size + 1) 24 [lim 0 a, lim 1 a, lim 2 a, lim 3 a]) := by
    rw [hX]; have h := Arr.new4 (w.alloc (.cells (RulesK f k) 26)) 24 (lim 0 a) (lim 1 a) (lim 2 a) (lim 3 a); rw [show (w.alloc (.cells (RulesK f k) 26)).heap.size = w.heap.size + 1 by simp] at h; exact h
  have HL : Hid (w.heap.size < X.heap.size ∧ w.heap.size + 1 < X.heap.size) := by rw [hX]; exact ⟨by simp; omega, by simp⟩
  have HB : Hid (Below w.heap.size w X) := by rw [hX]; exact ((Below.refl _ _).alloc (Nat.le_refl _) _).alloc (by simp) _
  have HBIG := Lib.hid ha
  have HX := Lib.hid hX
  clear hX ha hlen e0 hz
  go_enter Try.func18, Try.ntmps18
  go_upto_region 1 with (fail)
  rw [show (w.alloc (.cells (RulesK f k) 26)).alloc (.cells #[.int .u64 (lim 0 a : Nat), .int .u64 (lim 1 a : Nat), .int .u64 (lim 2 a : Nat), .int .u64 (lim 3 a : Nat)] 24) = X from HX.out.symm]
  refine wp_region_see 8 [5, 6, 7, 8, 9, 10, 11, 4] [(5, .is (.pointer (some ⟨w.heap.size, 21, none⟩))), (6, .is (.int .u64 (k 21))), (7, .is (W a)), (8, .byt (shortv a)), (9, .is (.int .i64 ((shortv a).length : Nat))), (10, .is (.int .u64 (IntKind.u64.wrap ((shortv a).length : Nat)))), (11, .is (.int .u64 (IntKind.u64.wrap (k 21 * IntKind.u64.wrap ((shortv a).length : Nat))))), (4, .is (.int .u64 (IntKind.u64.wrap (k 21 * IntKind.u64.wrap ((shortv a).length : Nat)))))] (by kernel_rfl) (by kernel_rfl) (by rfl) ?_ ?_
  · refine seeOps_cons ?_ (seeOps_cons ?_ (seeOps_cons ?_ (seeOps_cons ?_ (seeOps_cons ?_ (seeOps_cons ?_ (seeOps_cons ?_ (seeOps_cons ?_ seeOps_nil)))))))
    · intro w9 hb9 fr hout hin
      have h2 : fr.tmps.getD 2 undef = .pointer (some ⟨w.heap.size, 0, none⟩) := hout 2 (by decide)
      clear hout hin
      exact gs_faR (.tmp 2) rfl (by omega) h2 (wanted_none rfl) rfl
    · intro w9 hb9 fr hout hin
      have h5 : fr.tmps.getD 5 undef = .pointer (some ⟨w.heap.size, 21, none⟩) := hin 5 (by decide) (by decide)
      clear hout hin
      exact gs_load (.tmp 5) rfl gs_u64 h5 (HR.out.below hb9 HL.out.1).c21 (wanted_none rfl) rfl
    · intro w9 hb9 fr hout hin
      have h3 : fr.tmps.getD 3 undef = .pointer (some ⟨w.heap.size + 1, 0, none⟩) := hout 3 (by decide)
      clear hout hin
      exact gs_loadW (n := a) (.tmp 3) rfl h3 (HA.out.below hb9 HL.out.2).cells4 (wanted_none rfl) rfl
    · intro w9 hb9 fr hout hin
      have h7 : fr.tmps.getD 7 undef = W a := hin 7 (by decide) (by decide)
      clear hout hin
      exact gs_call1 (.tmp 7) rfl en_gsShort (wanted_none rfl) (by rw [show fr.eval (.tmp 7) = _ from h7]; exact gs_short1_c HBIG.out w9) (fun _ _ h => h)
    · intro w9 hb9 fr hout hin
      have h8 : Byt w9 (fr.tmps.getD 8 undef) (shortv a) := hin 8 (by decide) (by decide)
      clear hout hin
      exact gs_len (.tmp 8) rfl h8 (wanted_none rfl) rfl
    · intro w9 hb9 fr hout hin
      have h9 : fr.tmps.getD 9 undef = .int .i64 ((shortv a).length : Nat) := hin 9 (by decide) (by decide)
      clear hout hin
      exact gs_conv (.tmp 9) rfl h9 (wanted_none rfl) rfl
    · intro w9 hb9 fr hout hin
      have h6 : fr.tmps.getD 6 undef = .int .u64 (k 21) := hin 6 (by decide) (by decide)
      have h10 : fr.tmps.getD 10 undef = .int .u64 (IntKind.u64.wrap ((shortv a).length : Nat)) := hin 10 (by decide) (by decide)
      clear hout hin
      exact gs_bin .mul 22 (.tmp 6) (.tmp 10) _ rfl h6 h10 (fun w => by go_simp) (fun w => by go_simp) (wanted_none rfl) rfl
    · intro w9 hb9 fr hout hin
      have h11 : fr.tmps.getD 11 undef = .int .u64 (IntKind.u64.wrap (k 21 * IntKind.u64.wrap ((shortv a).length : Nat))) := hin 11 (by decide) (by decide)
      clear hout hin
      exact relStep_assign (.tmp 11) rfl (wanted_none rfl) (by show fr.tmps.getD 11 undef = _; rw [h11])
  intro X9 hb9
  refine relAsk_in (by rfl) ?_
  intro v5 h5
  obtain rfl : v5 = .pointer (some ⟨w.heap.size, 21, none⟩) := h5
  refine relAsk_in (by rfl) ?_
  intro v6 h6
  obtain rfl : v6 = .int .u64 (k 21) := h6
  refine relAsk_in (by rfl) ?_
  intro v7 h7
  obtain rfl : v7 = W a := h7
  refine relAsk_in (by rfl) ?_
  intro v8 h8
  refine relAsk_in (by rfl) ?_
  intro v9 h9
  obtain rfl : v9 = .int .i64 ((shortv a).length : Nat) := h9
  refine relAsk_in (by rfl) ?_
  intro v10 h10
  obtain rfl : v10 = .int .u64 (IntKind.u64.wrap ((shortv a).length : Nat)) := h10
  refine relAsk_in (by rfl) ?_
  intro v11 h11
  obtain rfl : v11 = .int .u64 (IntKind.u64.wrap (k 21 * IntKind.u64.wrap ((shortv a).length : Nat))) := h11
  refine relAsk_in (by rfl) ?_
  intro v4 h4
  obtain rfl : v4 = .int .u64 (IntKind.u64.wrap (k 21 * IntKind.u64.wrap ((shortv a).length : Nat))) := h4
  refine relAsk_nil ?_
  refine wpList_nil ?_
  clear h8
  go_simp
  have HB9 := Lib.hid (HB.out.trans (hb9.mono HB.out.size))
  go_wp2_with fail
  go_ret
  exact ⟨rfl, HB9.out⟩
end Go.Proofs.Ytiflfcdegpmhnaa
namespace Go.Proofs.Ytiflfcdegpmhnaa
open Go.RowKit

theorem index_w0 (a b c d : Nat) (w : World) : (Instr.index 24 (W4 a b c d) (.int .i64 0)).run Try.prog w = .ok (.int .u64 (a : Nat)) w := by kernel_rfl
/-- What a memory of so many words takes. -/
def cZ (n : Nat) : Nat := 3 * n + n * n / 512

set_option maxRecDepth 100000 in
set_option maxHeartbeats 3200000 in
theorem rc_c (n : Nat) (hn : n ≤ 34359738368) (w : World) : Calls Try.prog 49 #[.int .u64 (n : Nat)] w (RetV (.int .u64 (cZ n : Nat)) w) := by
  have kO : ∀ w, Calls Try.prog 38 #[.int .u64 (n : Nat)] w (RetR (fun w' v => Num w' v n 2) w) := fun w => rof_c n (by omega) w
  have KO := Lib.hid kO
  have HN := Lib.hid hn
  clear kO hn
  go_enter Try.func49, Try.ntmps49
  go_wp2_with fail
  (with_reducible refine (KO.out _).mono ?_)
  rintro e1 w1 ⟨v1, rfl, h1, hb1⟩
  have H1 := Lib.hid h1
  have B1 := Lib.hid hb1
  clear h1 hb1
  go_wp2_with fail
  (with_reducible refine (KO.out _).mono ?_)
  rintro e2 w2 ⟨v2, rfl, h2, hb2⟩
  have hm := Lib.hid (rmul_n w2 (H1.out.below hb2) h2 (by omega) (by omega))
  have B2 := Lib.hid (B1.out.trans (hb2.mono B1.out.size))
  clear h2 hb2 H1 B1 KO
  go_wp2_with fail
  (with_reducible refine hm.out.mono ?_)
  rintro e3 w3 ⟨v3, rfl, h3, hb3⟩
  have B3 := Lib.hid (B2.out.trans (hb3.mono B2.out.size))
  have hs0 := rshr_n w3 h3 (by omega) 9 (by omega)
  rw [show ((9 : Nat) : Int) = 9 from rfl, show (2 : Nat) ^ 9 = 512 from rfl] at hs0
  have hs := Lib.hid hs0
  clear hm B2 hb3 h3 hs0
  go_wp2_with fail
  (with_reducible refine hs.out.mono ?_)
  rintro e4 w4 ⟨v4, rfl, h4, hb4⟩
  have B4 := Lib.hid (B3.out.trans (hb4.mono B3.out.size))
  have hw := Lib.hid (rW_n w4 h4 (by omega))
  clear hs B3 hb4 h4
  go_wp2_with fail
  (with_reducible refine hw.out.mono ?_)
  rintro e5 w5 ⟨a, b, c, d, rfl, h5, hb5⟩
  have B5 := Lib.hid (B4.out.trans (hb5.mono B4.out.size))
  clear hw B4 hb5
  have hn := HN.out
  have hq : n * n / 512 ≤ 2305843009213693952 := by
    have : n * n ≤ 34359738368 * 34359738368 := Nat.mul_le_mul hn hn
    omega
  rw [Nat.mod_eq_of_lt (by omega)] at h5
  obtain ⟨q, hq0⟩ : ∃ q, q = n * n / 512 := ⟨_, rfl⟩
  have hcz : cZ n = 3 * n + q := by rw [hq0]; rfl
  rw [← hq0] at h5 hq
  obtain ⟨la, lb, lc, ld, hv⟩ := h5
  have ha : a = q := by unfold Lim at *; omega
  subst ha
  have e1 : IntKind.u64.wrap (3 * (n : Int)) = ((3 * n : Nat) : Int) := by rw [IntKind.wrap_u64]; omega
  have e2 : IntKind.u64.wrap (((3 * n : Nat) : Int) + (a : Int)) = ((3 * n + a : Nat) : Int) := by rw [IntKind.wrap_u64]; omega
  rw [← hcz] at e2
  obtain ⟨m, hm⟩ : ∃ m, m = 3 * n := ⟨_, rfl⟩
  rw [← hm] at e1 e2
  clear hn hq hq0 hcz la lb lc ld hv hm
  have hx := index_w0 a b c d w5
  go_wp2_with fail
  go_ret
  exact ⟨rfl, B5.out⟩
end Go.Proofs.Ytiflfcdegpmhnaa
