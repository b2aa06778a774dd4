/- The contract of package quarryref01's W: the word of a number modulo 2^256. -/
import Derived.Test.YtiflfcdegpmhnaaRefN
namespace Go.Proofs.Ytiflfcdegpmhnaa
open Go.RowKit

/-- Digits of 32 bits, i of them gathered to limbs of 64. -/
def WInv (xs : List Nat) (i : Nat) (zs : List Nat) : Prop := dv 18446744073709551616 zs = dv 4294967296 (xs.take i)
theorem pow32b (i : Nat) : (4294967296 : Nat) ^ i = 18446744073709551616 ^ (i / 2) * 2 ^ (32 * (i % 2)) := by
  rw [show (18446744073709551616 : Nat) = 2 ^ 64 by decide, pow32, ← Nat.pow_mul, ← Nat.pow_add]
  congr 1
  omega
theorem w_carry {xs zs : List Nat} {i : Nat} (h : WInv xs i zs) (hx : Ds 4294967296 xs) (hz : Ds 18446744073709551616 zs) (hi : i ≤ xs.length) : zs.getD (i / 2) 0 < 2 ^ (32 * (i % 2)) := by
  rw [← dv_digit hz (by omega)]
  refine Nat.lt_of_le_of_lt (Nat.mod_le _ _) (Nat.div_lt_of_lt_mul ?_)
  rw [h, ← pow32b]
  exact dv_take_lt hx i hi
theorem w_step {xs zs : List Nat} {i : Nat} (h : WInv xs i zs) (hi : i < xs.length) (hz : i / 2 < zs.length) :
    WInv xs (i + 1) (zs.set (i / 2) (zs.getD (i / 2) 0 + xs.getD i 0 * 2 ^ (32 * (i % 2)))) := by
  unfold WInv at *
  have e := dv_set (B := 18446744073709551616) zs (i / 2) (zs.getD (i / 2) 0 + xs.getD i 0 * 2 ^ (32 * (i % 2))) hz
  rw [dv_take_succ xs i hi, ← h, pow32b]
  rw [Nat.mul_add] at e
  have e2 : 18446744073709551616 ^ (i / 2) * (xs.getD i 0 * 2 ^ (32 * (i % 2))) = 18446744073709551616 ^ (i / 2) * 2 ^ (32 * (i % 2)) * xs.getD i 0 := by
    rw [Nat.mul_comm (xs.getD i 0), Nat.mul_assoc]
  omega
theorem w_lo {x m z : Nat} (hx : x < 4294967296) (hm : m < 2) (hz : z < 2 ^ (32 * m)) : x * 2 ^ (32 * m) < 18446744073709551616 ∧ z + x * 2 ^ (32 * m) < 18446744073709551616 ∧
    bits .or .u64 (z : Int) ((x * 2 ^ (32 * m) : Nat) : Int) = ((z + x * 2 ^ (32 * m) : Nat) : Int) := by
  have h2 : m = 0 ∨ m = 1 := by omega
  have h1 : x * 2 ^ (32 * m) < 18446744073709551616 ∧ z + x * 2 ^ (32 * m) < 18446744073709551616 := by
    rcases h2 with h | h <;> subst h <;> simp at * <;> omega
  refine ⟨h1.1, h1.2, ?_⟩
  rw [u64_or_nat z _ (by omega) h1.1, Nat.or_comm, nat_join (32 * m) _ z (Nat.mul_mod_left _ _) hz, Nat.add_comm]
theorem w_end {xs zs : List Nat} {n i : Nat} (h : WInv xs i zs) (hx : Can 4294967296 xs n) (hi : i = 8 ∨ i = xs.length) (hi8 : i ≤ 8) (hil : i ≤ xs.length) : vl zs = n % 115792089237316195423570985008687907853269984665640564039457584007913129639936 := by
  rw [vl_dv, h, ← hx.2.1]
  have e := dv_split (B := 4294967296) xs i hil
  have hl := dv_take_lt hx.1 i hil
  have h8 : (4294967296 : Nat) ^ i ≤ 4294967296 ^ 8 := Nat.pow_le_pow_right (by omega) hi8
  have h256 : (4294967296 : Nat) ^ 8 = 115792089237316195423570985008687907853269984665640564039457584007913129639936 := by decide
  rw [h256] at h8
  rcases hi with rfl | rfl
  · rw [e, h256, Nat.add_mul_mod_self_left, Nat.mod_eq_of_lt (by rw [h256] at hl; exact hl)]
  · rw [List.take_length] at hl ⊢
    exact (Nat.mod_eq_of_lt (Nat.lt_of_lt_of_le hl h8)).symm

set_option maxRecDepth 100000 in
set_option maxHeartbeats 6400000 in
theorem rW_c {A : Option Addr} {c n : Nat} {xs : List Nat} (w : World) (h : Rd .u32 w A c xs) (hx : Can 4294967296 xs n) (hl : xs.length ≤ 16777216) :
    Calls Try.prog 48 #[.slice A xs.length c] w (RetW (n % 115792089237316195423570985008687907853269984665640564039457584007913129639936) w) := by
  have HX := Lib.hid hx
  have hA := (Arr.new4z w 24).alloc (.cells #[.int .u64 0, .int .u64 0, .int .u64 0, .int .u64 0] 24)
  have hB := Arr.new4z (w.alloc (.cells #[.int .u64 0, .int .u64 0, .int .u64 0, .int .u64 0] 24)) 24
  rw [show (w.alloc (.cells #[.int .u64 0, .int .u64 0, .int .u64 0, .int .u64 0] 24)).heap.size = w.heap.size + 1 by simp] at hB
  have hbel0 : Below w.heap.size w ((w.alloc (.cells #[.int .u64 0, .int .u64 0, .int .u64 0, .int .u64 0] 24)).alloc (.cells #[.int .u64 0, .int .u64 0, .int .u64 0, .int .u64 0] 24)) :=
    ((Below.refl _ _).alloc (Nat.le_refl _) _).alloc (by simp) _
  have HA := Lib.hid hA
  have HB := Lib.hid hB
  have HBe := Lib.hid hbel0
  clear hA hB hbel0 hx
  go_enter Try.func48, Try.ntmps48
  go_wp2_with fail
  go_loopw [4] (fun i wr => ∃ (k : Nat) (zs : List Nat), k ≤ 8 ∧ k ≤ xs.length ∧ i = .int .i64 k ∧ zs.length = 4 ∧ Lims zs ∧ Hid (WInv xs k zs) ∧ Arr wr w.heap.size 24 [0, 0, 0, 0] ∧ Arr wr (w.heap.size + 1) 24 zs ∧ Below w.heap.size w wr)
    (fun i _ => 8 - (intOf i).toNat)
  case atStart =>
    exact ⟨0, [0, 0, 0, 0], by omega, by omega, rfl, rfl, Lims.four (by unfold Lim; omega) (by unfold Lim; omega) (by unfold Lim; omega) (by unfold Lim; omega), by show WInv _ _ _; simp [WInv, dv], HA.out, HB.out, HBe.out⟩
  case round =>
    clear HA HB HBe
    obtain ⟨k, zs, hk8, hkl, rfl, hzl, hlim, hinv, harrA, harrB, hbel⟩ := hrel
    have HZL := Lib.hid hzl
    clear hzl
    by_cases hgo : k < 8 ∧ k < xs.length
    · obtain ⟨hk8', hkl'⟩ := hgo
      obtain ⟨b1, o1, rfl, hb1, hc1⟩ := (h.below hbel).at_ (by omega)
      have cx := hc1 k hkl'
      have cz := harrB.cell (k / 2) (by rw [HZL.out]; omega)
      have fz := harrB.frozen (k / 2)
      obtain ⟨x, ex⟩ : ∃ x, x = xs.getD k 0 := ⟨_, rfl⟩
      obtain ⟨z, ez⟩ : ∃ z, z = zs.getD (k / 2) 0 := ⟨_, rfl⟩
      rw [← ex] at cx
      rw [← ez] at cz
      have bx : x < 4294967296 := by rw [ex]; exact HX.out.1.get (by omega) _
      have bz : z < 2 ^ (32 * (k % 2)) := by rw [ez]; exact w_carry hinv.out HX.out.1 hlim hkl
      obtain ⟨hl1, hl2, hl3⟩ := w_lo bx (Nat.mod_lt k (by omega : 0 < 2)) bz
      have hst := w_step hinv.out hkl' (by rw [HZL.out]; omega)
      rw [← ex, ← ez] at hst
      obtain ⟨Wd, eW⟩ : ∃ Wd, Wd = x * 2 ^ (32 * (k % 2)) := ⟨_, rfl⟩
      rw [← eW] at hl1 hl2 hl3 hst
      obtain ⟨t, et⟩ : ∃ t, t = z + Wd := ⟨_, rfl⟩
      rw [← et] at hl2 hl3 hst
      have vx : IntKind.u64.wrap (x : Int) = (x : Int) := IntWalk.u64_in _ (by omega)
      have vx' : (x : Int) % 18446744073709551616 = (x : Int) := by omega
      have vW : IntKind.u64.wrap ((x : Int) * 2 ^ (32 * (k % 2))) = (Wd : Int) := by
        have e : (x : Int) * 2 ^ (32 * (k % 2)) = ((x * 2 ^ (32 * (k % 2)) : Nat) : Int) := by simp
        rw [e, ← eW]; exact IntWalk.u64_in _ (by omega)
      have vW' : (x : Int) * 2 ^ (32 * (k % 2)) % 18446744073709551616 = (Wd : Int) := by rw [← vW, IntKind.wrap_u64]
      have HT : Hid (Lim t) := hl2
      have HS := Lib.hid hst
      clear hc1 ex ez bx bz hl1 hl2 hst eW et
      go_wp2_with fail
      go_region
      all_goals
        go_wp2_with fail
        go_roundw
        case rel =>
          refine ⟨k + 1, zs.set (k / 2) t, by omega, by omega, by go_num, by rw [List.length_set]; exact HZL.out, hlim.set _ _ HT.out, HS.out, (harrA.far (p := ⟨w.heap.size + 1, k / 2, none⟩) (by show w.heap.size ≠ w.heap.size + 1; omega) _).drew, (harrB.set _ _).drew, (hbel.setCell (p := ⟨w.heap.size + 1, k / 2, none⟩) (by show w.heap.size ≤ w.heap.size + 1; omega) _).drew⟩
        case measure => simp [intOf] <;> omega
    · have hend : k = 8 ∨ k = xs.length := by omega
      have hv := w_end hinv.out HX.out hend hk8 hkl
      have HV := Lib.hid hv
      obtain ⟨c0, c1, c2, c3, rfl⟩ := list4 HZL.out
      obtain ⟨z0, z1, z2, z3⟩ := harrB.cells4
      obtain ⟨y0, y1, y2, y3⟩ := harrA.cells4
      obtain ⟨f0, f1, f2, f3⟩ := harrA.free4
      clear hv hgo
      have hkn : k = 8 ∨ ¬ (k : Int) < (xs.length : Int) := by omega
      by_cases h88 : k = 8
      · clear hend hkn
        subst h88
        go_wp2_with fail
        refine bodyPost_ret (v := W4 c0 c1 c2 c3) (by simp [results, Try.results48, go_sem, y0, y1, y2, y3]) rfl ⟨c0, c1, c2, c3, rfl, (isW_val hlim).eq HV.out, ?_⟩
        repeat (first | exact hbel | refine Below.setCell ?_ (by simp; try omega) _)
      · have hkn2 : ¬ (k : Int) < (xs.length : Int) := by omega
        have hk8' : k < 8 := by omega
        clear hend hkn h88
        go_wp2_with fail
        refine bodyPost_ret (v := W4 c0 c1 c2 c3) (by simp [results, Try.results48, go_sem, y0, y1, y2, y3]) rfl ⟨c0, c1, c2, c3, rfl, (isW_val hlim).eq HV.out, ?_⟩
        repeat (first | exact hbel | refine Below.setCell ?_ (by simp; try omega) _)
theorem rW_n {u : Value} {n L : Nat} (w : World) (h : Num w u n L) (hL : L ≤ 16777216) :
    Calls Try.prog 48 #[u] w (RetW (n % 115792089237316195423570985008687907853269984665640564039457584007913129639936) w) := by
  obtain ⟨A, c, xs, rfl, h1, h2, h3⟩ := h
  exact rW_c w h1 h2 (by omega)
end Go.Proofs.Ytiflfcdegpmhnaa
