/- The contract of package nat's toLimbs. -/
import Derived.Test.YteaafnjflghlhaaDoorNStrip
import Derived.Test.YteaafnjflghlhaaDoorWordMath
import Derived.Test.YteaafnjflghlhaaDoorRAdd
import Derived.Deep.DeepCutAuto
namespace Go.Proofs.YteaafnjflghlhaaDoor
open Go.RowKit

/-- One byte more: how the limb goes, and the whole. -/
theorem gfrom_step {cs : List Nat} {D place v : Nat} (hl : place / 8 < cs.length) (hc : Ds 18446744073709551616 cs) (h : dv 18446744073709551616 cs = D * 256 ^ (place + 1)) (hv : v < 256) :
    bits .or .u64 ((cs.getD (place / 8) 0 : Nat) : Int) ((v * 2 ^ (8 * (place % 8)) : Nat) : Int) = ((cs.getD (place / 8) 0 + v * 2 ^ (8 * (place % 8)) : Nat) : Int) ∧
    v * 2 ^ (8 * (place % 8)) < 18446744073709551616 ∧ cs.getD (place / 8) 0 + v * 2 ^ (8 * (place % 8)) < 18446744073709551616 ∧
    dv 18446744073709551616 (cs.set (place / 8) (cs.getD (place / 8) 0 + v * 2 ^ (8 * (place % 8)))) = (256 * D + v) * 256 ^ place := by
  obtain ⟨q, hq⟩ : ∃ q, q = place / 8 := ⟨_, rfl⟩
  obtain ⟨r, hr⟩ : ∃ r, r = place % 8 := ⟨_, rfl⟩
  rw [← hq] at hl
  rw [← hq, ← hr]
  have hpl : place = 8 * q + r := by omega
  have hr7 : r ≤ 7 := by omega
  have p8 : ∀ n, (256 : Nat) ^ n = 2 ^ (8 * n) := fun n => by rw [show (256 : Nat) = 2 ^ 8 by decide, ← Nat.pow_mul]
  have hB : (18446744073709551616 : Nat) = 2 ^ (8 * (r + 1)) * 2 ^ (8 * (7 - r)) := by
    rw [← Nat.pow_add, show 8 * (r + 1) + 8 * (7 - r) = 64 by omega]
  have hBq : (18446744073709551616 : Nat) ^ q = 2 ^ (64 * q) := by rw [show (18446744073709551616 : Nat) = 2 ^ 64 by decide, ← Nat.pow_mul]
  have hx : cs.getD q 0 = 2 ^ (8 * (r + 1)) * (D % 2 ^ (8 * (7 - r))) := by
    have hd := dv_digit (B := 18446744073709551616) hc (by omega) q
    rw [h, hBq, p8, show 8 * (place + 1) = 8 * (r + 1) + 64 * q by omega, Nat.pow_add, ← Nat.mul_assoc, Nat.mul_div_cancel _ (Nat.two_pow_pos _)] at hd
    rw [← hd]
    conv => lhs; rw [hB, Nat.mul_comm D, Nat.mul_mod_mul_left]
  have hv2 : v * 2 ^ (8 * r) < 2 ^ (8 * (r + 1)) := by
    rw [show 8 * (r + 1) = 8 + 8 * r by omega, Nat.pow_add]
    exact Nat.mul_lt_mul_of_pos_right hv (Nat.two_pow_pos _)
  have hle : 2 ^ (8 * (r + 1)) ≤ 18446744073709551616 := by
    rw [show (18446744073709551616 : Nat) = 2 ^ 64 by decide]
    exact Nat.pow_le_pow_right (by omega) (by omega)
  have hsum : cs.getD q 0 + v * 2 ^ (8 * r) < 18446744073709551616 := by
    rw [hx]
    have h1 : D % 2 ^ (8 * (7 - r)) + 1 ≤ 2 ^ (8 * (7 - r)) := Nat.mod_lt _ (Nat.two_pow_pos _)
    have h2 := Nat.mul_le_mul_left (2 ^ (8 * (r + 1))) h1
    rw [← hB, Nat.mul_add] at h2
    omega
  refine ⟨?_, by omega, hsum, ?_⟩
  · rw [bits_or_u64_nat _ _ (by omega) (by omega), hx, ← Nat.two_pow_add_eq_or_of_lt hv2]
  · have hs := dv_set (B := 18446744073709551616) cs q (cs.getD q 0 + v * 2 ^ (8 * r)) (by omega)
    rw [h, Nat.mul_add, hBq] at hs
    have e1 : 2 ^ (64 * q) * (v * 2 ^ (8 * r)) = v * 256 ^ place := by
      rw [p8, hpl, show 8 * (8 * q + r) = 64 * q + 8 * r by omega, Nat.pow_add]
      grind
    have e2 : (256 * D + v) * 256 ^ place = D * 256 ^ (place + 1) + v * 256 ^ place := by
      rw [Nat.pow_succ]
      grind
    rw [e1] at hs
    rw [e2]
    omega

theorem rev_take2 (bs : List Nat) (m : Nat) (h : m < bs.length) : dv 256 (bs.take (m + 1)).reverse = 256 * dv 256 (bs.take m).reverse + bs.getD m 0 := by
  rw [List.take_succ_eq_append_getElem h, List.reverse_append, dv_append]
  simp [dv, List.getElem?_eq_getElem h]
  omega

theorem info64 : (Tryd.prog.info? 22).map (fun i => (i.zero, i.size, i.bytes)) = some (some (.int .u64 0), 1, 8) := by kernel_rfl
/-- make of limbs. -/
theorem mk64 (z : Int) (n : Nat) (hz : z = n) (hn : n ≤ 67108864) (W : World) : (Instr.makeSlice 82 (.int .i64 z) (.int .i64 z)).run Tryd.prog W =
    .ok (.slice (some ⟨W.heap.size, 0, none⟩) n n) (W.alloc (.cells (madeCells #[Value.int .u64 0] n) 22)) := by
  obtain ⟨i0, hi, hz0, hz1, hz2⟩ := info_parts info64
  subst hz
  have h := run_make (P := Tryd.prog) W 82 22 i0 (.int .u64 0) Tryd.underlying82 hi hz0 .i64 .i64 n n (by omega) (by omega) (by rw [hz2]; omega) (by omega)
  rw [h, hz1]
  simp [Value.cells]
theorem limbs_top {ls ds : List Nat} {n : Nat} (hd : Can 256 ds n) (hl : ls.length = (ds.length + 7) / 8) (hs : Ds 18446744073709551616 ls) (hv : dv 18446744073709551616 ls = n) : Can 18446744073709551616 ls n := by
  refine ⟨hs, hv, fun h0 hz => ?_⟩
  have hlt := dv_lt_of_tail hs (show ls.length - 1 ≤ ls.length by omega) (fun j hj => by
    by_cases e : j = ls.length - 1
    · rw [e]; exact hz
    · rw [List.getD_eq_getElem?_getD, List.getElem?_eq_none (by omega)]; rfl)
  have hge := hd.ge (by omega)
  rw [hv] at hlt
  have e : (18446744073709551616 : Nat) ^ (ls.length - 1) = 256 ^ (8 * (ls.length - 1)) := by
    rw [show (18446744073709551616 : Nat) = 256 ^ 8 by decide, ← Nat.pow_mul]
  rw [e] at hlt
  have hle : (256 : Nat) ^ (8 * (ls.length - 1)) ≤ 256 ^ (ds.length - 1) := Nat.pow_le_pow_right (by omega) (by omega)
  omega
/-- A new slice of limbs of a number. -/
def RetLimbs (n K : Nat) (w : World) (e : Ending) (w' : World) : Prop := ∃ G ls, e = .returned (.slice (some ⟨G, 0, none⟩) ls.length ls.length) ∧ Row .u64 w' G 22 ls ∧ w.heap.size ≤ G ∧ Can 18446744073709551616 ls n ∧ ls.length ≤ K ∧ Below w.heap.size w w'
set_option maxRecDepth 100000 in
set_option maxHeartbeats 6400000 in
theorem toLimbs_c {A : Option Addr} {c : Nat} {bs : List Nat} (w : World) (h : Rd .u8 w A c bs) (hb : Ds 256 bs) (hl : bs.length ≤ 8388608) :
    Calls Tryd.prog 77 #[.slice A bs.length c] w (RetLimbs (dv 256 bs.reverse) ((bs.length + 7) / 8) w) := by
  have hsc := Lib.hid (strip_c w h hb (by omega))
  have HCAN := Lib.hid (sd_can hb)
  have HSD := Lib.hid (sd_ds hb)
  have HSL := Lib.hid (sd_len bs)
  have HL0 := Lib.hid hl
  clear h hb hl
  go_enter Tryd.func77, Tryd.ntmps77
  go_wp2_with fail
  (with_reducible refine hsc.out.mono ?_)
  rintro e w1 ⟨A1, c1, rfl, hrd, hw1⟩
  rw [hw1]
  clear hw1 hsc
  obtain ⟨xs, hxs⟩ : ∃ xs, xs = sd bs := ⟨_, rfl⟩
  have HXS := Lib.hid hxs
  have HR := Lib.hid hrd
  rw [← hxs] at HR
  obtain ⟨L, hL⟩ : ∃ L, L = xs.length := ⟨_, rfl⟩
  have HL := Lib.hid hL
  have hL8 : L ≤ 8388608 := by have := HSL.out; have := HL0.out; rw [hL, hxs]; omega
  rw [← hxs, ← hL]
  obtain ⟨K, hK⟩ : ∃ K, K = (L + 7) / 8 := ⟨_, rfl⟩
  have e1 : ((L : Int) + 7) / 8 = (K : Int) := by omega
  have e2 : ((L : Int) + 7).tdiv 8 = (K : Int) := by rw [Int.tdiv_eq_ediv_of_nonneg (by omega)]; omega
  have hmk := mk64 (K : Int) K rfl (by omega)
  have hrow := Row.made (k := .u64) w 22 K
  have hbel := (Below.refl w.heap.size w).alloc (Nat.le_refl _) (.cells (madeCells #[Value.int .u64 0] K) 22)
  have HKK := Lib.hid hK
  clear hrd hxs hL hK
  go_upto_region 3 with (fail)
  generalize w.alloc (.cells (madeCells #[Value.int .u64 0] K) 22) = X at *
  clear hmk e1 e2
  go_wp2_with fail
  go_loopw [16] (fun i wr => ∃ (m : Nat) (cs : List Nat), m ≤ L ∧ i = .int .i64 (m : Int) ∧ Hid (cs.length = K) ∧ Hid (Ds 18446744073709551616 cs) ∧ Hid (dv 18446744073709551616 cs = dv 256 (xs.take m).reverse * 256 ^ (L - m)) ∧ Row .u64 wr w.heap.size 22 cs ∧ Hid (Below w.heap.size w wr))
    (fun i _ => (L - intOf i).toNat)
  case atStart =>
    exact ⟨0, List.replicate K 0, by omega, rfl, List.length_replicate, Ds.zeros (by omega) _, by show dv _ _ = _; simp [dv_zeros, dv], hrow, hbel⟩
  case round =>
    obtain ⟨m, cs, hm, rfl, HCL, hlim, hinv, harr, hbel⟩ := hrel
    clear hrow
    by_cases hlt : (m : Int) < (L : Int)
    · obtain ⟨b, o, rfl, hbb, hcell⟩ := HR.out.at_ (by have := HL.out; omega)
      have cv := (hbel.out.cell (p := ⟨b, o + m, none⟩) hbb).trans (hcell m (by have := HL.out; omega))
      obtain ⟨v, ev⟩ : ∃ v, v = xs.getD m 0 := ⟨_, rfl⟩
      have hv : v < 256 := by rw [ev, HXS.out]; exact HSD.out.get (by omega) m
      rw [← ev] at cv
      obtain ⟨p, hp⟩ : ∃ p : Nat, (L : Int) - 1 - (m : Int) = (p : Int) := ⟨L - 1 - m, by omega⟩
      have hwp : IntKind.i64.wrap ((L : Int) - 1 - (m : Int)) = (p : Int) := by rw [IntWalk.i64_in _ (by omega)]; exact hp
      have hst := gfrom_step (cs := cs) (D := dv 256 (xs.take m).reverse) (place := p) (v := v) (by rw [HCL.out]; have := HKK.out; omega) hlim.out (by rw [hinv.out, show L - m = p + 1 by omega]) hv
      obtain ⟨q, hq⟩ : ∃ q, q = p / 8 := ⟨_, rfl⟩
      obtain ⟨r, hr⟩ : ∃ r, r = p % 8 := ⟨_, rfl⟩
      obtain ⟨s, hs⟩ : ∃ s, s = 8 * r := ⟨_, rfl⟩
      rw [← hq, ← hr, ← hs] at hst
      have e1 : (p : Int) / 8 = (q : Int) := by omega
      have e2 : (p : Int) % 8 = (r : Int) := by omega
      have e3 : (p : Int).tmod 8 = (r : Int) := by rw [Int.tmod_eq_emod_of_nonneg (by omega)]; omega
      have e3' : (p : Int).tdiv 8 = (q : Int) := by rw [Int.tdiv_eq_ediv_of_nonneg (by omega)]; omega
      have e4 : IntKind.i64.wrap ((r : Int) * 8) = (s : Int) := by rw [IntWalk.i64_in _ (by omega)]; omega
      have hqK : (q : Int) < (K : Int) := by have := HKK.out; omega
      have hs63 : (s : Int) ≤ 63 := by omega
      have cx := harr.cell q (by rw [HCL.out]; omega)
      have fx := harr.frozen q
      obtain ⟨x, ex⟩ : ∃ x, x = cs.getD q 0 := ⟨_, rfl⟩
      rw [← ex] at cx hst
      obtain ⟨y, ey⟩ : ∃ y, y = v * 2 ^ s := ⟨_, rfl⟩
      have vy : IntKind.u64.wrap ((v : Int) * 2 ^ s) = (y : Int) := by
        have e : ((v : Int) * 2 ^ s) = ((v * 2 ^ s : Nat) : Int) := by simp
        rw [e, wrapU, ey, Nat.mod_eq_of_lt hst.2.1]
      rw [← ey] at hst
      obtain ⟨z, ez⟩ : ∃ z, z = x + y := ⟨_, rfl⟩
      rw [← ez] at hst
      have vz := hst.1
      have hnext : dv 18446744073709551616 (cs.set q z) = dv 256 (xs.take (m + 1)).reverse * 256 ^ (L - (m + 1)) := by
        rw [hst.2.2.2, rev_take2 xs m (by have := HL.out; omega), ← ev, show L - (m + 1) = p by omega]
      have HN := Lib.hid hnext
      have HZ := Lib.hid hst.2.2.1
      have HA := Lib.hid harr
      have vv : IntKind.u64.wrap (v : Int) = (v : Int) := by rw [wrapU, Nat.mod_eq_of_lt (by omega)]
      clear hst hq hr hs ex ey ez hnext harr hinv ev hcell hbb
      go_wp2_with fail
      go_region
      go_wp2_with fail
      go_roundw
      case rel =>
        exact ⟨m + 1, cs.set q z, by omega, by go_num, by show (cs.set q z).length = K; rw [List.length_set]; exact HCL.out, hlim.out.set q z HZ.out, HN.out, HA.out.set q z, (hbel.out.setCell (p := ⟨w.heap.size, q, none⟩) (Nat.le_refl _) _).drew⟩
      case measure => simp [intOf]; omega
    · obtain rfl : m = L := by omega
      have hv := hinv.out
      rw [Nat.sub_self, Nat.pow_zero, Nat.mul_one, List.take_of_length_le (by have := HL.out; omega)] at hv
      have hcan := HCAN.out
      rw [← HXS.out] at hcan
      have hv2 : dv 18446744073709551616 cs = dv 256 bs.reverse := by rw [hv]; exact hcan.2.1
      have hfin := limbs_top (ls := cs) hcan (by rw [List.length_reverse, HCL.out, ← HL.out, ← HKK.out]) hlim.out hv2
      have HF := Lib.hid hfin
      have HA := Lib.hid harr
      have hKl : K ≤ (bs.length + 7) / 8 := by have := HSL.out; have := HL.out; have := HXS.out; have := HKK.out; rw [this, HL.out, HXS.out]; omega
      have HKl := Lib.hid hKl
      clear hv hcan hv2 hfin harr hinv hKl
      go_wp2_with fail
      go_ret
      exact ⟨_, cs, by rw [HCL.out]; rfl, HA.out, Nat.le_refl _, HF.out, by rw [HCL.out]; exact HKl.out, hbel.out⟩
end Go.Proofs.YteaafnjflghlhaaDoor
