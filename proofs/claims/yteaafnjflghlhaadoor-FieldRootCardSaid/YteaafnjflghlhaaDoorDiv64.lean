/- The contract of math/bits' Div64 where the quotient fits. -/
import Derived.Test.YteaafnjflghlhaaDoorWordBits
import Derived.Test.YteaafnjflghlhaaDoorWordMath
import Derived.BigQuiet
import Derived.Deep.DeepCutAuto
import Derived.Deep.CutBlock
namespace Go.Proofs.YteaafnjflghlhaaDoor
open Go.RowKit

theorem divNat (lo y : Nat) (hl : Lim lo) : IntKind.u64.wrap ((lo : Int) / (y : Int)) = ((lo / y : Nat) : Int) := by
  unfold Lim at hl
  have hle : lo / y ≤ lo := Nat.div_le_self _ _
  have e : ((lo : Int) / (y : Int)) = ((lo / y : Nat) : Int) := by simp
  rw [e, wrapN _ (by omega)]
/-- Quotient and rest of T by y, in two numbers; the world is as it was, but for draws. -/
def RetDiv (T y : Nat) (w : World) (e : Ending) (w' : World) : Prop := ∃ q r n : Nat, e = .returned (.tuple #[.int .u64 q, .int .u64 r]) ∧ q = T / y ∧ r = T % y ∧ Lim q ∧ w' = w.drewN n
def IsLz (y s : Nat) : Prop := s ≤ 63 ∧ y * 2 ^ s < 18446744073709551616 ∧ 9223372036854775808 ≤ y * 2 ^ s
theorem isLz (y : Nat) (hy : Lim y) (h0 : 0 < y) : IsLz y (64 - Lib.bitLen y) := by
  obtain ⟨h1, h2, h3⟩ := bitLen_is y hy
  obtain ⟨h4, h5⟩ := h3 (by omega)
  refine ⟨by omega, ?_, ?_⟩
  · have : y * 2 ^ (64 - Lib.bitLen y) < 2 ^ Lib.bitLen y * 2 ^ (64 - Lib.bitLen y) := Nat.mul_lt_mul_of_pos_right h1 (Nat.two_pow_pos _)
    rw [← Nat.pow_add, show Lib.bitLen y + (64 - Lib.bitLen y) = 64 by omega] at this
    exact this
  · have : 2 ^ (Lib.bitLen y - 1) * 2 ^ (64 - Lib.bitLen y) ≤ y * 2 ^ (64 - Lib.bitLen y) := Nat.mul_le_mul_right _ h5
    rw [← Nat.pow_add, show Lib.bitLen y - 1 + (64 - Lib.bitLen y) = 63 by omega] at this
    exact this
set_option maxRecDepth 100000 in
set_option maxHeartbeats 1600000 in
theorem div64_small (lo y : Nat) (hl : Lim lo) (h0 : 0 < y) (w : World) :
    Calls Tryd.prog 89 #[.int .u64 0, .int .u64 lo, .int .u64 y] w (RetDiv lo y w) := by
  have hz : ((y : Int) == 0) = false := by simp; omega
  have hz2 : ¬ ((y : Int) = 0) := by omega
  have hle : ¬ ((y : Int) ≤ 0) := by omega
  go_enter Tryd.func89, Tryd.ntmps89
  go_wp2_with fail
  go_quiet (fail)
  go_wp2_with fail
  go_ret2
  exact ⟨lo / y, lo % y, nq, by rw [divNat lo y hl]; rfl, rfl, rfl, Nat.lt_of_le_of_lt (Nat.div_le_self _ _) hl, rfl⟩

theorem shl_in {y s Y : Nat} (h : Y = y * 2 ^ s) (hl : Y < 18446744073709551616) : IntKind.u64.wrap ((y : Int) * 2 ^ s) = (Y : Int) := by
  have e : ((y : Int) * 2 ^ s) = ((y * 2 ^ s : Nat) : Int) := by simp
  rw [e, ← h, wrapN _ hl]

set_option maxRecDepth 100000 in
set_option maxHeartbeats 1600000 in
theorem div64_big (hi lo y : Nat) (hl : Lim lo) (hy : Lim y) (h0 : hi < y) (h1 : 0 < hi) (w : World) :
    Calls Tryd.prog 89 #[.int .u64 hi, .int .u64 lo, .int .u64 y] w (RetDiv (hi * 18446744073709551616 + lo) y w) := by
  have hz : ((y : Int) == 0) = false := by simp; omega
  have hle : ¬ ((y : Int) ≤ hi) := by omega
  have hh0 : ((hi : Int) == 0) = false := by simp; omega
  have hlz := isLz y hy (by omega)
  go_enter Tryd.func89, Tryd.ntmps89
  go_wp2_with fail
  refine (lz64_c y hy _).mono ?_
  rintro e w' ⟨rfl, rfl⟩
  generalize 64 - Lib.bitLen y = s at *
  have hs : s ≤ 63 := hlz.1
  obtain ⟨Y, hY⟩ : ∃ Y, Y = y * 2 ^ s := ⟨_, rfl⟩
  have hYl : Y < 18446744073709551616 := by rw [hY]; exact hlz.2.1
  have hYg : 9223372036854775808 ≤ Y := by rw [hY]; exact hlz.2.2
  have hYw := shl_in hY hYl
  have hHlt : hi * 2 ^ s < 18446744073709551616 := Nat.lt_of_le_of_lt (Nat.mul_le_mul_right _ (Nat.le_of_lt h0)) hlz.2.1
  obtain ⟨hU, hUL⟩ := shl_or hs hl hHlt
  obtain ⟨U, eU⟩ : ∃ U, U = hi * 2 ^ s + lo / 2 ^ (64 - s) := ⟨_, rfl⟩
  obtain ⟨L, eL⟩ : ∃ L, L = lo * 2 ^ s % 18446744073709551616 := ⟨_, rfl⟩
  have hL : IntKind.u64.wrap ((lo : Int) * 2 ^ s) = (L : Int) := by
    have e : ((lo : Int) * 2 ^ s) = ((lo * 2 ^ s : Nat) : Int) := by simp
    rw [e, wrapU, eL]
  rw [← eU] at hU hUL
  rw [← eL] at hUL
  have hUY : U < Y := by rw [hY]; exact upper_lt hl h0 (Nat.two_pow_pos s) hUL
  obtain ⟨y1, e1⟩ : ∃ y1, y1 = Y / 4294967296 := ⟨_, rfl⟩
  obtain ⟨y0, e0⟩ : ∃ y0, y0 = Y % 4294967296 := ⟨_, rfl⟩
  obtain ⟨v1, f1⟩ : ∃ v1, v1 = L / 4294967296 := ⟨_, rfl⟩
  obtain ⟨v0, f0⟩ : ∃ v0, v0 = L % 4294967296 := ⟨_, rfl⟩
  have hLl : L < 18446744073709551616 := by rw [eL]; exact Nat.mod_lt _ (by decide)
  have hm0 : bits .and .u64 (Y : Int) 4294967295 = (y0 : Int) := by rw [e0]; exact maskN Y hYl
  have hm1 : (Y : Int) / 4294967296 = (y1 : Int) := by omega
  have hk0 : bits .and .u64 (L : Int) 4294967295 = (v0 : Int) := by rw [f0]; exact maskN L hLl
  have hk1 : (L : Int) / 4294967296 = (v1 : Int) := by omega
  have by1 : 2147483648 ≤ y1 := by omega
  have by1' : y1 < 4294967296 := by omega
  have by0 : y0 < 4294967296 := by omega
  have bv1 : v1 < 4294967296 := by omega
  have bv0 : v0 < 4294967296 := by omega
  have HY : Hid (Y = y1 * 4294967296 + y0) := by show Y = _; omega
  have HL : Hid (L = v1 * 4294967296 + v0) := by show L = _; omega
  have HUL := Lib.hid hUL
  have HYy := Lib.hid hY
  have HUY : Hid (U < y1 * 4294967296 + y0) := by show U < _; omega
  have HYg : Hid (9223372036854775808 ≤ Y ∧ Y < 18446744073709551616) := ⟨hYg, hYl⟩
  have hUl : Lim U := by unfold Lim; omega
  have hq := divNat U y1 hUl
  have hr : IntKind.u64.wrap ((U : Int) - IntKind.u64.wrap (((U / y1 : Nat) : Int) * y1)) = ((U % y1 : Nat) : Int) := mod_wrap U y1 hUl
  have hg := guess_start HUY.out bv1 by1 by1' by0
  obtain ⟨q, eq⟩ : ∃ q, q = U / y1 := ⟨_, rfl⟩
  obtain ⟨r, er⟩ : ∃ r, r = U % y1 := ⟨_, rfl⟩
  rw [← eq, ← er] at hg
  rw [← eq, ← er] at hr
  rw [← eq] at hq
  have hnz : ¬ (y1 = 0) := by omega
  have hnz2 : ¬ ((y1 : Int) = 0) := by omega
  clear hY hUL eU eL e1 e0 f1 f0 eq er hYl hYg hUY hLl hlz hHlt
  go_upto_block 0 with (fail)
  obtain ⟨Q, hQ⟩ : ∃ Q, Q = (U * 4294967296 + v1) / (y1 * 4294967296 + y0) := ⟨_, rfl⟩
  have HQ := Lib.hid hQ
  clear hQ hq hr
  go_cut [15] (fun v wx => v = .int .u64 (Q : Nat) ∧ w = wx)
  case first =>
    go_wp2_with fail
    go_loop [15, 16] (fun a b => ∃ q r : Nat, a = .int .u64 q ∧ b = .int .u64 r ∧ Hid (GuessInv U v1 y1 y0 q r)) (fun a _ => (intOf a).toNat)
    case atStart => exact ⟨q, r, rfl, rfl, hg⟩
    case round =>
      clear hg hU hL hYw hm0 hm1 hk0 hk1
      obtain ⟨q, r, rfl, rfl, H⟩ := hrel
      have hr : r < 4294967296 := H.out.2.2.1
      have hq7 : (q : Int) ≤ 4294967297 := by have := H.out.2.2.2; omega
      obtain ⟨p, hp⟩ : ∃ p, p = q * y0 := ⟨_, rfl⟩
      by_cases c1 : (4294967296 : Int) ≤ (q : Int)
      · obtain ⟨d1, d2, d3, d4⟩ := guess_down H.out HUY.out bv1 (.inl (by omega))
        have D2 := Lib.hid d2
        have D4 := Lib.hid d4
        have D3 := Lib.hid d3
        have HP := Lib.hid hp
        clear d2 d3 d4 hp
        by_cases c3 : (4294967296 : Int) ≤ (r : Int) + (y1 : Int)
        · go_wp2_with fail
          go_meet
          case rel => exact ⟨by rw [HQ.out, ← guess_break D2.out D3.out D4.out (by omega) by0 HUY.out]; go_num, rfl⟩
        · go_wp2_with fail
          go_round
          case rel => exact ⟨q - 1, r + y1, by go_num, by go_num, ⟨D2.out, D3.out, by omega, by have := D4.out; omega⟩⟩
          case measure => simp [intOf]; omega
      · have hpl : Hid (p < 18446744073709551616) := by
          show p < _
          rw [hp]
          have : q * y0 ≤ 4294967295 * 4294967295 := Nat.mul_le_mul (by omega) (by omega)
          omega
        have hpw : IntKind.u64.wrap ((q : Int) * y0) = (p : Int) := by
          rw [mulN, ← hp, wrapN _ hpl.out]
        by_cases c2 : (4294967296 : Int) * r + v1 < p
        · obtain ⟨d1, d2, d3, d4⟩ := guess_down H.out HUY.out bv1 (.inr (by rw [← hp]; omega))
          have D2 := Lib.hid d2
          have D4 := Lib.hid d4
          have D3 := Lib.hid d3
          have HP := Lib.hid hp
          clear d2 d3 d4 hp
          by_cases c3 : (4294967296 : Int) ≤ (r : Int) + (y1 : Int)
          · go_wp2_with fail
            go_meet
            case rel => exact ⟨by rw [HQ.out, ← guess_break D2.out D3.out D4.out (by omega) by0 HUY.out]; go_num, rfl⟩
          · go_wp2_with fail
            go_round
            case rel => exact ⟨q - 1, r + y1, by go_num, by go_num, ⟨D2.out, D3.out, by omega, by have := D4.out; omega⟩⟩
            case measure => simp [intOf]; omega
        · have HE := Lib.hid (guess_end H.out (by omega) (by rw [← hp]; omega))
          have HP := Lib.hid hp
          clear hp
          go_wp2_with fail
          go_meet
          case rel => exact ⟨by rw [HQ.out, ← HE.out], rfl⟩
  case rest =>
    obtain ⟨rfl, rfl⟩ := hcut
    clear hg
    obtain ⟨V, eV⟩ : ∃ V, V = (U * 4294967296 + v1) % (y1 * 4294967296 + y0) := ⟨_, rfl⟩
    have hVY : V < y1 * 4294967296 + y0 := by rw [eV]; exact Nat.mod_lt _ (by omega)
    have HVY := Lib.hid hVY
    have hVl : Lim V := by unfold Lim; omega
    have hV : IntKind.u64.wrap (IntKind.u64.wrap (IntKind.u64.wrap ((U : Int) * 4294967296) + v1) - IntKind.u64.wrap ((Q : Int) * Y)) = (V : Int) := by
      have h := rest_of (u := U) (v := v1) (Y := Y) (q := Q) (by rw [HY.out]; exact HQ.out) HYg.out.2 (by have := HYg.out.1; omega)
      rw [h, eV, ← HY.out]
    have hq := divNat V y1 hVl
    have hr := mod_wrap V y1 hVl
    have hg := guess_start HVY.out bv0 by1 by1' by0
    obtain ⟨q, eq⟩ : ∃ q, q = V / y1 := ⟨_, rfl⟩
    obtain ⟨r, er⟩ : ∃ r, r = V % y1 := ⟨_, rfl⟩
    rw [← eq, ← er] at hg
    rw [← eq, ← er] at hr
    rw [← eq] at hq
    have HV := Lib.hid eV
    clear eq er eV hVY
    go_upto_block 2 with (fail)
    obtain ⟨Q2, hQ2⟩ : ∃ Q2, Q2 = (V * 4294967296 + v0) / (y1 * 4294967296 + y0) := ⟨_, rfl⟩
    have HQ2 := Lib.hid hQ2
    clear hQ2 hq hr hV
    go_cut [18] (fun v wx => v = .int .u64 (Q2 : Nat) ∧ w = wx)
    case first =>
      go_wp2_with fail
      go_loop [18, 16] (fun a b => ∃ q r : Nat, a = .int .u64 q ∧ b = .int .u64 r ∧ Hid (GuessInv V v0 y1 y0 q r)) (fun a _ => (intOf a).toNat)
      case atStart => exact ⟨q, r, rfl, rfl, hg⟩
      case round =>
        clear hg hU hL hYw hm0 hm1 hk0 hk1
        obtain ⟨q, r, rfl, rfl, H⟩ := hrel
        have hr : r < 4294967296 := H.out.2.2.1
        have hq7 : (q : Int) ≤ 4294967297 := by have := H.out.2.2.2; omega
        obtain ⟨p, hp⟩ : ∃ p, p = q * y0 := ⟨_, rfl⟩
        by_cases c1 : (4294967296 : Int) ≤ (q : Int)
        · obtain ⟨d1, d2, d3, d4⟩ := guess_down H.out HVY.out bv0 (.inl (by omega))
          have D2 := Lib.hid d2
          have D4 := Lib.hid d4
          have D3 := Lib.hid d3
          have HP := Lib.hid hp
          clear d2 d3 d4 hp
          by_cases c3 : (4294967296 : Int) ≤ (r : Int) + (y1 : Int)
          · go_wp2_with fail
            go_meet
            case rel => exact ⟨by rw [HQ2.out, ← guess_break D2.out D3.out D4.out (by omega) by0 HVY.out]; go_num, rfl⟩
          · go_wp2_with fail
            go_round
            case rel => exact ⟨q - 1, r + y1, by go_num, by go_num, ⟨D2.out, D3.out, by omega, by have := D4.out; omega⟩⟩
            case measure => simp [intOf]; omega
        · have hpl : Hid (p < 18446744073709551616) := by
            show p < _
            rw [hp]
            have : q * y0 ≤ 4294967295 * 4294967295 := Nat.mul_le_mul (by omega) (by omega)
            omega
          have hpw : IntKind.u64.wrap ((q : Int) * y0) = (p : Int) := by
            rw [mulN, ← hp, wrapN _ hpl.out]
          by_cases c2 : (4294967296 : Int) * r + v0 < p
          · obtain ⟨d1, d2, d3, d4⟩ := guess_down H.out HVY.out bv0 (.inr (by rw [← hp]; omega))
            have D2 := Lib.hid d2
            have D4 := Lib.hid d4
            have D3 := Lib.hid d3
            have HP := Lib.hid hp
            clear d2 d3 d4 hp
            by_cases c3 : (4294967296 : Int) ≤ (r : Int) + (y1 : Int)
            · go_wp2_with fail
              go_meet
              case rel => exact ⟨by rw [HQ2.out, ← guess_break D2.out D3.out D4.out (by omega) by0 HVY.out]; go_num, rfl⟩
            · go_wp2_with fail
              go_round
              case rel => exact ⟨q - 1, r + y1, by go_num, by go_num, ⟨D2.out, D3.out, by omega, by have := D4.out; omega⟩⟩
              case measure => simp [intOf]; omega
          · have HE := Lib.hid (guess_end H.out (by omega) (by rw [← hp]; omega))
            have HP := Lib.hid hp
            clear hp
            go_wp2_with fail
            go_meet
            case rel => exact ⟨by rw [HQ2.out, ← HE.out], rfl⟩
    case rest =>
      obtain ⟨rfl, rfl⟩ := hcut
      clear hg
      have hZ : IntKind.u64.wrap (IntKind.u64.wrap (IntKind.u64.wrap ((V : Int) * 4294967296) + v0) - IntKind.u64.wrap ((Q2 : Int) * Y)) = (((V * 4294967296 + v0) % Y : Nat) : Int) :=
        rest_of (u := V) (v := v0) (Y := Y) (q := Q2) (by rw [HY.out]; exact HQ2.out) HYg.out.2 (by have := HYg.out.1; omega)
      obtain ⟨Z, eZ⟩ : ∃ Z, Z = (V * 4294967296 + v0) % Y := ⟨_, rfl⟩
      rw [← eZ] at hZ
      have HZ := Lib.hid eZ
      have bQ : (Q : Int) < 4294967296 := by
        have : Q < 4294967296 := by rw [HQ.out]; exact Nat.div_lt_of_lt_mul (by have := HUY.out; omega)
        omega
      have bQ2 : (Q2 : Int) < 4294967296 := by
        have : Q2 < 4294967296 := by rw [HQ2.out]; exact Nat.div_lt_of_lt_mul (by have := HVY.out; omega)
        omega
      clear eZ hU hL hYw hm0 hm1 hk0 hk1
      go_wp2_with fail
      go_ret2
      have hQ1 : Q = (U * 4294967296 + v1) / Y := by rw [HY.out]; exact HQ.out
      have hV1 : V = (U * 4294967296 + v1) % Y := by rw [HY.out]; exact HV.out
      have hQ0 : Q2 = ((U * 4294967296 + v1) % Y * 4294967296 + v0) / Y := by rw [← hV1, HY.out]; exact HQ2.out
      have h2 := two_digits hQ1 hQ0
      rw [← hV1, ← HZ.out, ← HL.out, HUL.out] at h2
      have hZl : Z < y * 2 ^ s := by rw [HZ.out, ← HYy.out]; exact Nat.mod_lt _ (by have := HYg.out.1; omega)
      rw [HYy.out] at h2
      obtain ⟨r1, r2⟩ := unshift (by omega) (Nat.two_pow_pos s) h2 hZl
      refine ⟨Q * 4294967296 + Q2, Z / 2 ^ s, 0, ?_, r1, r2, ?_, rfl⟩
      · have e1 : ((Q * 4294967296 + Q2 : Nat) : Int) = (Q : Int) * 4294967296 + (Q2 : Int) := by omega
        have e2 : ((Z / 2 ^ s : Nat) : Int) = (Z : Int) / 2 ^ s := by simp
        rw [e1, e2]; rfl
      · unfold Lim; omega
theorem div64_c (hi lo y : Nat) (hl : Lim lo) (hy : Lim y) (h0 : hi < y) (w : World) :
    Calls Tryd.prog 89 #[.int .u64 hi, .int .u64 lo, .int .u64 y] w (RetDiv (hi * 18446744073709551616 + lo) y w) := by
  rcases Nat.eq_zero_or_pos hi with rfl | h1
  · have h := div64_small lo y hl h0 w
    rw [Nat.zero_mul, Nat.zero_add]
    exact h
  · exact div64_big hi lo y hl hy h0 h1 w
end Go.Proofs.YteaafnjflghlhaaDoor
