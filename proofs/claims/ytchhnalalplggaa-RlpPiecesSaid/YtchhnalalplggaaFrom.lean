/- The contract of package word's From: the number whose bytes these are, the highest first. -/
import Derived.Test.YtchhnalalplggaaArr32
import Derived.Test.YtchhnalalplggaaRefN
import Derived.Deep.DeepCutAuto
namespace Go.Proofs.Ytchhnalalplggaa
open Go.RowKit

/-- One byte more: how the limb goes, and the whole. -/
theorem wfrom_step {cs : List Nat} {D place v : Nat} (hl : cs.length = 4) (hc : Lims cs) (h : vl cs = D * 256 ^ (place + 1)) (hp : place < 32) (hv : v < 256) :
    bits .or .u64 ((cs.getD (place / 8) 0 : Nat) : Int) ((v * 2 ^ (8 * (place % 8)) : Nat) : Int) = ((cs.getD (place / 8) 0 + v * 2 ^ (8 * (place % 8)) : Nat) : Int) ∧
    v * 2 ^ (8 * (place % 8)) < 18446744073709551616 ∧ cs.getD (place / 8) 0 + v * 2 ^ (8 * (place % 8)) < 18446744073709551616 ∧
    vl (cs.set (place / 8) (cs.getD (place / 8) 0 + v * 2 ^ (8 * (place % 8)))) = (256 * D + v) * 256 ^ place := by
  obtain ⟨q, hq⟩ : ∃ q, q = place / 8 := ⟨_, rfl⟩
  obtain ⟨r, hr⟩ : ∃ r, r = place % 8 := ⟨_, rfl⟩
  rw [← hq, ← hr]
  have hpl : place = 8 * q + r := by omega
  have hr7 : r ≤ 7 := by omega
  have p8 : ∀ n, (256 : Nat) ^ n = 2 ^ (8 * n) := fun n => by rw [show (256 : Nat) = 2 ^ 8 by decide, ← Nat.pow_mul]
  have hB : (18446744073709551616 : Nat) = 2 ^ (8 * (r + 1)) * 2 ^ (8 * (7 - r)) := by
    rw [← Nat.pow_add, show 8 * (r + 1) + 8 * (7 - r) = 64 by omega]
  have hBq : (18446744073709551616 : Nat) ^ q = 2 ^ (64 * q) := by rw [show (18446744073709551616 : Nat) = 2 ^ 64 by decide, ← Nat.pow_mul]
  have hx : cs.getD q 0 = 2 ^ (8 * (r + 1)) * (D % 2 ^ (8 * (7 - r))) := by
    have hd := dv_digit (B := 18446744073709551616) hc (by omega) q
    rw [← vl_dv, h, hBq, p8, show 8 * (place + 1) = 8 * (r + 1) + 64 * q by omega, Nat.pow_add, ← Nat.mul_assoc, Nat.mul_div_cancel _ (Nat.two_pow_pos _)] at hd
    rw [← hd]
    conv => lhs; rw [hB, Nat.mul_comm D, Nat.mul_mod_mul_left]
  have hv2 : v * 2 ^ (8 * r) < 2 ^ (8 * (r + 1)) := by
    rw [show 8 * (r + 1) = 8 + 8 * r by omega, Nat.pow_add]
    exact Nat.mul_lt_mul_of_pos_right hv (Nat.two_pow_pos _)
  have hle : 2 ^ (8 * (r + 1)) ≤ 18446744073709551616 := by
    rw [show (18446744073709551616 : Nat) = 2 ^ 64 by decide]
    exact Nat.pow_le_pow_right (by omega) (by omega)
  have hsum : cs.getD q 0 + v * 2 ^ (8 * r) < 18446744073709551616 := by
    rw [hx]
    have h1 : D % 2 ^ (8 * (7 - r)) + 1 ≤ 2 ^ (8 * (7 - r)) := Nat.mod_lt _ (Nat.two_pow_pos _)
    have h2 := Nat.mul_le_mul_left (2 ^ (8 * (r + 1))) h1
    rw [← hB, Nat.mul_add] at h2
    omega
  refine ⟨?_, by omega, hsum, ?_⟩
  · rw [bits_or_u64_nat _ _ (by omega) (by omega), hx, ← Nat.two_pow_add_eq_or_of_lt hv2]
  · have hs := dv_set (B := 18446744073709551616) cs q (cs.getD q 0 + v * 2 ^ (8 * r)) (by omega)
    rw [← vl_dv, ← vl_dv, h, Nat.mul_add, hBq] at hs
    have e1 : 2 ^ (64 * q) * (v * 2 ^ (8 * r)) = v * 256 ^ place := by
      rw [p8, hpl, show 8 * (8 * q + r) = 64 * q + 8 * r by omega, Nat.pow_add]
      grind
    have e2 : (256 * D + v) * 256 ^ place = D * 256 ^ (place + 1) + v * 256 ^ place := by
      rw [Nat.pow_succ]
      grind
    rw [e1] at hs
    rw [e2]
    omega

theorem rev_take (bs : List Nat) (m : Nat) (h : m < bs.length) : dv 256 (bs.take (m + 1)).reverse = 256 * dv 256 (bs.take m).reverse + bs.getD m 0 := by
  rw [List.take_succ_eq_append_getElem h, List.reverse_append, dv_append]
  simp [dv, List.getElem?_eq_getElem h]
  omega

set_option maxRecDepth 100000 in
set_option maxHeartbeats 3200000 in
theorem from_t {A : Option Addr} {c : Nat} {bs : List Nat} (w : World) (h : Rd .u8 w A c bs) (hb : Ds 256 bs) (hl : bs.length ≤ 32) :
    Calls Try.prog 46 #[.slice A bs.length c] w (RetV (.tuple #[W (dv 256 bs.reverse), .bool true]) w) := by
  have g1 := (Arr.new4z w 52).alloc (.cells #[.int .u64 0, .int .u64 0, .int .u64 0, .int .u64 0] 52)
  have g2 := Arr.new4z (w.alloc (.cells #[.int .u64 0, .int .u64 0, .int .u64 0, .int .u64 0] 52)) 52
  rw [show (w.alloc (.cells #[.int .u64 0, .int .u64 0, .int .u64 0, .int .u64 0] 52)).heap.size = w.heap.size + 1 by simp] at g2
  have gW := ((Below.refl w.heap.size w).alloc (Nat.le_refl _) (.cells #[.int .u64 0, .int .u64 0, .int .u64 0, .int .u64 0] 52)).alloc (by simp) (.cells #[.int .u64 0, .int .u64 0, .int .u64 0, .int .u64 0] 52)
  have HR := Lib.hid h
  have HD := Lib.hid hb
  have hl0 : ¬ (32 < (bs.length : Int)) := by omega
  obtain ⟨L, hL⟩ : ∃ L, L = bs.length := ⟨_, rfl⟩
  have HL := Lib.hid hL
  rw [← hL] at hl0 hl ⊢
  clear h hb hL
  go_enter Try.func46, Try.ntmps46
  go_upto_region 2 with (fail)
  generalize (w.alloc (.cells #[.int .u64 0, .int .u64 0, .int .u64 0, .int .u64 0] 52)).alloc (.cells #[.int .u64 0, .int .u64 0, .int .u64 0, .int .u64 0] 52) = X at *
  go_wp2_with fail
  go_loopw [14] (fun i wr => ∃ (m : Nat) (cs : List Nat), m ≤ L ∧ i = .int .i64 (m : Int) ∧ Hid (cs.length = 4) ∧ Hid (Lims cs) ∧ Hid (vl cs = dv 256 (bs.take m).reverse * 256 ^ (L - m)) ∧ Hid (Arr wr w.heap.size 52 [0, 0, 0, 0]) ∧ Arr wr (w.heap.size + 1) 52 cs ∧ Hid (Below w.heap.size w wr))
    (fun i _ => (L - intOf i).toNat)
  case atStart =>
    exact ⟨0, [0, 0, 0, 0], by omega, rfl, rfl, Lims.four (by unfold Lim; omega) (by unfold Lim; omega) (by unfold Lim; omega) (by unfold Lim; omega), by show vl [0, 0, 0, 0] = _; simp [vl, dv], g1, g2, gW⟩
  case round =>
    obtain ⟨m, cs, hm, rfl, HCL, hlim, hinv, hres, harr, hbel⟩ := hrel
    clear g1 g2 gW
    by_cases hlt : (m : Int) < (L : Int)
    · obtain ⟨b, o, rfl, hbb, hcell⟩ := HR.out.at_ (by have := HL.out; omega)
      have cv := (hbel.out.cell (p := ⟨b, o + m, none⟩) hbb).trans (hcell m (by have := HL.out; omega))
      obtain ⟨v, ev⟩ : ∃ v, v = bs.getD m 0 := ⟨_, rfl⟩
      have hv : v < 256 := by rw [ev]; exact HD.out.get (by omega) m
      rw [← ev] at cv
      obtain ⟨p, hp⟩ : ∃ p : Nat, (L : Int) - 1 - (m : Int) = (p : Int) := ⟨L - 1 - m, by omega⟩
      have hwp : IntKind.i64.wrap ((L : Int) - 1 - (m : Int)) = (p : Int) := by rw [IntWalk.i64_in _ (by omega)]; exact hp
      have hst := wfrom_step (cs := cs) (D := dv 256 (bs.take m).reverse) (place := p) (v := v) HCL.out hlim.out (by rw [hinv.out, show L - m = p + 1 by omega]) (by omega) hv
      obtain ⟨q, hq⟩ : ∃ q, q = p / 8 := ⟨_, rfl⟩
      obtain ⟨r, hr⟩ : ∃ r, r = p % 8 := ⟨_, rfl⟩
      obtain ⟨s, hs⟩ : ∃ s, s = 8 * r := ⟨_, rfl⟩
      rw [← hq, ← hr, ← hs] at hst
      have e1 : (p : Int) / 8 = (q : Int) := by omega
      have e2 : (p : Int) % 8 = (r : Int) := by omega
      have e3 : (p : Int).tmod 8 = (r : Int) := by rw [Int.tmod_eq_emod_of_nonneg (by omega)]; omega
      have e3' : (p : Int).tdiv 8 = (q : Int) := by rw [Int.tdiv_eq_ediv_of_nonneg (by omega)]; omega
      have e4 : IntKind.i64.wrap ((r : Int) * 8) = (s : Int) := by rw [IntWalk.i64_in _ (by omega)]; omega
      have hq3 : (q : Int) ≤ 3 := by omega
      have hs63 : (s : Int) ≤ 63 := by omega
      have cx := harr.cell q (by rw [HCL.out]; omega)
      have fx := harr.frozen q
      obtain ⟨x, ex⟩ : ∃ x, x = cs.getD q 0 := ⟨_, rfl⟩
      rw [← ex] at cx hst
      obtain ⟨y, ey⟩ : ∃ y, y = v * 2 ^ s := ⟨_, rfl⟩
      have vy : IntKind.u64.wrap ((v : Int) * 2 ^ s) = (y : Int) := by
        have e : ((v : Int) * 2 ^ s) = ((v * 2 ^ s : Nat) : Int) := by simp
        rw [e, wrapU, ey, Nat.mod_eq_of_lt hst.2.1]
      rw [← ey] at hst
      obtain ⟨z, ez⟩ : ∃ z, z = x + y := ⟨_, rfl⟩
      rw [← ez] at hst
      have vz := hst.1
      have hnext : vl (cs.set q z) = dv 256 (bs.take (m + 1)).reverse * 256 ^ (L - (m + 1)) := by
        rw [hst.2.2.2, rev_take bs m (by have := HL.out; omega), ← ev, show L - (m + 1) = p by omega]
      have HN := Lib.hid hnext
      have HZ := Lib.hid (show Lim z from hst.2.2.1)
      have HA := Lib.hid harr
      have vv : IntKind.u64.wrap (v : Int) = (v : Int) := by rw [wrapU, Nat.mod_eq_of_lt (by omega)]
      clear hst hq hr hs ex ey ez hnext harr hinv ev hcell hbb
      go_wp2_with fail
      go_region
      go_wp2_with fail
      go_roundw
      case rel =>
        exact ⟨m + 1, cs.set q z, by omega, by go_num, by show (cs.set q z).length = 4; rw [List.length_set]; exact HCL.out, hlim.out.set q z HZ.out, HN.out, hres.out.far (p := ⟨w.heap.size + 1, q, none⟩) (by simp) _, HA.out.set q z, (hbel.out.setCell (p := ⟨w.heap.size + 1, q, none⟩) (by simp <;> omega) _).drew⟩
      case measure => simp [intOf]; omega
    · obtain rfl : m = L := by omega
      obtain ⟨c0, c1, c2, c3, rfl⟩ := list4 HCL.out
      have hv := hinv.out
      rw [Nat.sub_self, Nat.pow_zero, Nat.mul_one, List.take_of_length_le (by have := HL.out; omega)] at hv
      have hi := (isW_val hlim.out).eq hv
      obtain ⟨rfl, rfl, rfl, rfl⟩ := hi.canon
      obtain ⟨n, hn⟩ : ∃ n, n = dv 256 bs.reverse := ⟨_, rfl⟩
      have HI := Lib.hid hi
      have gW := hbel.out
      clear hv hi hn hinv
      obtain ⟨x0, x1, x2, x3⟩ := harr.cells4
      obtain ⟨y0, y1, y2, y3⟩ := hres.out.cells4
      obtain ⟨f0, f1, f2, f3⟩ := hres.out.free4
      go_wp2_with fail
      refine bodyPost_ret (v := .tuple #[W (dv 256 bs.reverse), .bool true]) (by simp [results, Try.results46, go_sem, y0, y1, y2, y3]) rfl ⟨rfl, ?_⟩
      repeat (first | exact gW | refine Below.setCell ?_ (by simp; try omega) _)
end Go.Proofs.Ytchhnalalplggaa
