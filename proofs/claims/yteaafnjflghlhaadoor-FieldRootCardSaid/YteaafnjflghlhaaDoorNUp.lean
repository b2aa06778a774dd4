/- The contract of package nat's shiftUp. -/
import Derived.Test.YteaafnjflghlhaaDoorNLimbs
import Derived.Deep.DeepCutAuto
namespace Go.Proofs.YteaafnjflghlhaaDoor
open Go.RowKit

theorem shup_step {cs : List Nat} {m v n : Nat} (hm : m + 1 < cs.length) (hn : n ≤ 63) (hv : v < 18446744073709551616) (hu : cs.getD m 0 < 2 ^ n) (hz : cs.getD (m + 1) 0 = 0) :
    bits .or .u64 ((cs.getD m 0 : Nat) : Int) ((v * 2 ^ n % 18446744073709551616 : Nat) : Int) = ((cs.getD m 0 + v * 2 ^ n % 18446744073709551616 : Nat) : Int) ∧
    cs.getD m 0 + v * 2 ^ n % 18446744073709551616 < 18446744073709551616 ∧ v / 2 ^ (64 - n) < 2 ^ n ∧
    dv 18446744073709551616 ((cs.set m (cs.getD m 0 + v * 2 ^ n % 18446744073709551616)).set (m + 1) (v / 2 ^ (64 - n))) = dv 18446744073709551616 cs + 18446744073709551616 ^ m * (v * 2 ^ n) := by
  have hB : (18446744073709551616 : Nat) = 2 ^ (64 - n) * 2 ^ n := by rw [← Nat.pow_add, show 64 - n + n = 64 by omega]
  obtain ⟨u, eu⟩ : ∃ u, u = cs.getD m 0 := ⟨_, rfl⟩
  rw [← eu] at hu ⊢
  obtain ⟨r, er⟩ : ∃ r, r = v % 2 ^ (64 - n) := ⟨_, rfl⟩
  obtain ⟨z, ez⟩ : ∃ z, z = v / 2 ^ (64 - n) := ⟨_, rfl⟩
  have ey : v * 2 ^ n % 18446744073709551616 = 2 ^ n * r := by
    conv => lhs; rw [hB, Nat.mul_mod_mul_right]
    rw [er, Nat.mul_comm]
  have hr : r + 1 ≤ 2 ^ (64 - n) := by rw [er]; exact Nat.mod_lt _ (Nat.two_pow_pos _)
  have hle : 2 ^ n * r + 2 ^ n ≤ 18446744073709551616 := by
    have := Nat.mul_le_mul_left (2 ^ n) hr
    rw [Nat.mul_comm (2 ^ n) (2 ^ (64 - n)), ← hB] at this
    rw [Nat.mul_add, Nat.mul_one] at this
    exact this
  have hz2 : z < 2 ^ n := by
    rw [ez]
    exact Nat.div_lt_of_lt_mul (by rw [← hB]; exact hv)
  have hvz : v * 2 ^ n = 18446744073709551616 * z + 2 ^ n * r := by
    have h1 := Nat.div_add_mod v (2 ^ (64 - n))
    rw [← ez, ← er] at h1
    rw [← h1, hB]
    grind
  rw [ey, ← ez]
  refine ⟨?_, by omega, hz2, ?_⟩
  · rw [bits_or_u64_nat _ _ (by omega) (by omega), Nat.add_comm u, Nat.two_pow_add_eq_or_of_lt hu, Nat.or_comm]
  · have h1 := dv_set (B := 18446744073709551616) cs m (u + 2 ^ n * r) (by omega)
    have h2 := dv_set (B := 18446744073709551616) (cs.set m (u + 2 ^ n * r)) (m + 1) z (by rw [List.length_set]; omega)
    have e : (cs.set m (u + 2 ^ n * r)).getD (m + 1) 0 = 0 := by
      rw [List.getD_eq_getElem?_getD, List.getElem?_set_ne (by omega), ← List.getD_eq_getElem?_getD]; exact hz
    rw [e, Nat.mul_zero, Nat.add_zero] at h2
    rw [h2, hvz, Nat.pow_succ]
    rw [← eu, Nat.mul_add] at h1
    rw [Nat.mul_add, show 18446744073709551616 ^ m * (18446744073709551616 * z) = 18446744073709551616 ^ m * 18446744073709551616 * z by rw [Nat.mul_assoc]]
    omega
/-- A new slice of limbs, one more than before. -/
def RetUp (n K : Nat) (w : World) (e : Ending) (w' : World) : Prop := ∃ G ls, e = .returned (.slice (some ⟨G, 0, none⟩) ls.length ls.length) ∧ Row .u64 w' G 22 ls ∧ w.heap.size ≤ G ∧ Ds 18446744073709551616 ls ∧ dv 18446744073709551616 ls = n ∧ ls.length = K ∧ Below w.heap.size w w'
set_option maxRecDepth 100000 in
set_option maxHeartbeats 6400000 in
theorem shiftUp_c {A : Option Addr} {c : Nat} {ls : List Nat} (w : World) (h : Rd .u64 w A c ls) (hx : Ds 18446744073709551616 ls) (hl : ls.length ≤ 8388608) (n : Nat) (hn : n ≤ 63) :
    Calls Tryd.prog 79 #[.slice A ls.length c, .int .i64 (n : Nat)] w (RetUp (dv 18446744073709551616 ls * 2 ^ n) (ls.length + 1) w) := by
  have HR := Lib.hid h
  have HX := Lib.hid hx
  obtain ⟨L, hL⟩ : ∃ L, L = ls.length := ⟨_, rfl⟩
  have HL := Lib.hid hL
  rw [← hL] at hl ⊢
  have hmk := mk64 ((L : Int) + 1) (L + 1) (by omega) (by omega)
  have hrow := Row.made (k := .u64) w 22 (L + 1)
  have hbel := (Below.refl w.heap.size w).alloc (Nat.le_refl _) (.cells (madeCells #[Value.int .u64 0] (L + 1)) 22)
  obtain ⟨t, ht⟩ : ∃ t : Nat, t = 64 - n := ⟨_, rfl⟩
  have ht1 : 64 - (n : Int) = (t : Int) := by omega
  have ht2 : IntKind.i64.wrap (64 - (n : Int)) = (t : Int) := by rw [IntWalk.i64_in _ (by omega)]; exact ht1
  have ht3 : (t : Int) ≤ 64 := by omega
  have hn63 : (n : Int) ≤ 63 := by omega
  have HT := Lib.hid ht
  have HN := Lib.hid hn
  clear h hx hL ht hn
  go_enter Tryd.func79, Tryd.ntmps79
  go_upto_region 2 with (fail)
  generalize w.alloc (.cells (madeCells #[Value.int .u64 0] (L + 1)) 22) = X at *
  clear hmk
  go_wp2_with fail
  go_loopw [14] (fun i wr => ∃ (m : Nat) (cs : List Nat), m ≤ L ∧ i = .int .i64 (m : Int) ∧ Hid (cs.length = L + 1) ∧ Hid (Ds 18446744073709551616 cs) ∧ Hid (dv 18446744073709551616 cs = dv 18446744073709551616 (ls.take m) * 2 ^ n) ∧ Hid (cs.getD m 0 < 2 ^ n) ∧ Hid (∀ j, m < j → cs.getD j 0 = 0) ∧ Row .u64 wr w.heap.size 22 cs ∧ Hid (Below w.heap.size w wr))
    (fun i _ => (L - intOf i).toNat)
  case atStart =>
    have z0 : ∀ j, (List.replicate (L + 1) 0).getD j 0 = 0 := fun j => by
      rw [List.getD_eq_getElem?_getD, List.getElem?_replicate]; split <;> rfl
    exact ⟨0, List.replicate (L + 1) 0, by omega, rfl, List.length_replicate, Ds.zeros (by omega) _, by show dv _ _ = _; simp [dv_zeros, dv], by show _ < _; rw [z0]; exact Nat.two_pow_pos _, fun j _ => z0 j, hrow, hbel⟩
  case round =>
    clear hrow hbel
    obtain ⟨m, cs, hm, rfl, HCL, hlim, hinv, hlow, htail, harr, hbel⟩ := hrel
    by_cases hlt : (m : Int) < (L : Int)
    · obtain ⟨b, o, rfl, hbb, hcell⟩ := HR.out.at_ (by have := HL.out; omega)
      have cv := (hbel.out.cell (p := ⟨b, o + m, none⟩) hbb).trans (hcell m (by have := HL.out; omega))
      obtain ⟨v, ev⟩ : ∃ v, v = ls.getD m 0 := ⟨_, rfl⟩
      have hv : v < 18446744073709551616 := by rw [ev]; exact HX.out.get (by omega) m
      rw [← ev] at cv
      have hst := shup_step (cs := cs) (m := m) (v := v) (n := n) (by rw [HCL.out]; omega) HN.out hv hlow.out (htail.out _ (by omega))
      rw [← HT.out] at hst
      have cx := harr.cell m (by rw [HCL.out]; omega)
      have fx := harr.frozen m
      obtain ⟨x, ex⟩ : ∃ x, x = cs.getD m 0 := ⟨_, rfl⟩
      rw [← ex] at cx hst
      obtain ⟨y, ey⟩ : ∃ y, y = v * 2 ^ n % 18446744073709551616 := ⟨_, rfl⟩
      have vy : IntKind.u64.wrap ((v : Int) * 2 ^ n) = (y : Int) := by
        have e : ((v : Int) * 2 ^ n) = ((v * 2 ^ n : Nat) : Int) := by simp
        rw [e, wrapU, ey]
      rw [← ey] at hst
      obtain ⟨s, es⟩ : ∃ s, s = x + y := ⟨_, rfl⟩
      rw [← es] at hst
      obtain ⟨g, eg⟩ : ∃ g, g = v / 2 ^ t := ⟨_, rfl⟩
      have vg : (v : Int) / 2 ^ t = (g : Int) := by rw [eg]; simp
      rw [← eg] at hst
      have vs := hst.1
      have hnext : dv 18446744073709551616 ((cs.set m s).set (m + 1) g) = dv 18446744073709551616 (ls.take (m + 1)) * 2 ^ n := by
        rw [hst.2.2.2, dv_take_succ ls m (by have := HL.out; omega), ← ev, hinv.out, Nat.add_mul, Nat.mul_assoc]
      have HNX := Lib.hid hnext
      have HS := Lib.hid hst.2.1
      have HG := Lib.hid hst.2.2.1
      have hg64 : g < 18446744073709551616 := by rw [eg]; exact Nat.lt_of_le_of_lt (Nat.div_le_self _ _) hv
      have HG64 := Lib.hid hg64
      have harr2 : Row .u64 ((wr.setCell ⟨w.heap.size, m, none⟩ (.int .u64 (s : Nat))).drew) w.heap.size 22 (cs.set m s) := harr.set m s
      have hbel2 : Below w.heap.size w ((wr.setCell ⟨w.heap.size, m, none⟩ (.int .u64 (s : Nat))).drew) := (hbel.out.setCell (p := ⟨w.heap.size, m, none⟩) (Nat.le_refl _) _).drew
      have HA2 := Lib.hid harr2
      have HB2 := Lib.hid hbel2
      have hm1 : (m : Int) + 1 < (L : Int) + 1 := by omega
      clear hst hnext harr harr2 hbel2 hinv ev ex ey es eg hg64 hv hcell hbb hlow
      go_wp2_with fail
      go_region
      clear cx fx cv vy vs
      have cx := HA2.out.cell (m + 1) (by rw [List.length_set, HCL.out]; omega)
      have fx := HA2.out.frozen (m + 1)
      generalize (wr.setCell ⟨w.heap.size, m, none⟩ (.int .u64 (s : Nat))).drew = Y at *
      go_wp2_with fail
      go_roundw
      case rel =>
        refine ⟨m + 1, (cs.set m s).set (m + 1) g, by omega, by go_num, by show ((cs.set m s).set (m + 1) g).length = L + 1; rw [List.length_set, List.length_set]; exact HCL.out, (hlim.out.set m s HS.out).set (m + 1) g HG64.out, HNX.out, ?_, ?_, HA2.out.set (m + 1) g, HB2.out.setCell (p := ⟨w.heap.size, m + 1, none⟩) (Nat.le_refl _) _⟩
        · show _ < _
          rw [List.getD_eq_getElem?_getD, List.getElem?_set, if_pos rfl, if_pos (by rw [List.length_set, HCL.out]; omega)]
          exact HG.out
        · intro j hj
          rw [List.getD_eq_getElem?_getD, List.getElem?_set_ne (by omega), List.getElem?_set_ne (by omega), ← List.getD_eq_getElem?_getD]
          exact htail.out j (by omega)
      case measure => simp [intOf]; omega
    · obtain rfl : m = L := by omega
      have hv := hinv.out
      rw [List.take_of_length_le (by have := HL.out; omega)] at hv
      have HV := Lib.hid hv
      have HA := Lib.hid harr
      clear hv harr hinv
      go_wp2_with fail
      go_ret
      exact ⟨_, cs, by rw [HCL.out]; rfl, HA.out, Nat.le_refl _, hlim.out, HV.out, HCL.out, hbel.out⟩
end Go.Proofs.YteaafnjflghlhaaDoor
