/- The reference's Num: the limbs of a number below 2^384. -/
import Derived.Test.YtghnhgdnfmglpaaDoorFlText
import Derived.Test.YtghnhgdnfmglpaaDoorNLimbs
namespace Go.Proofs.YtghnhgdnfmglpaaDoor
open Go.RowKit

/-- One digit of 32 bits more: how the limb goes, and the whole. -/
theorem num_step {cs : List Nat} {m v : Nat} (hl : m / 2 < cs.length) (hc : Ds 18446744073709551616 cs) (h : dv 18446744073709551616 cs < 4294967296 ^ m) (hv : v < 4294967296) :
    bits .or .u64 ((cs.getD (m / 2) 0 : Nat) : Int) ((v * 2 ^ (32 * (m % 2)) : Nat) : Int) = ((cs.getD (m / 2) 0 + v * 2 ^ (32 * (m % 2)) : Nat) : Int) ∧
    v * 2 ^ (32 * (m % 2)) < 18446744073709551616 ∧ cs.getD (m / 2) 0 + v * 2 ^ (32 * (m % 2)) < 18446744073709551616 ∧
    dv 18446744073709551616 (cs.set (m / 2) (cs.getD (m / 2) 0 + v * 2 ^ (32 * (m % 2)))) = dv 18446744073709551616 cs + 4294967296 ^ m * v := by
  obtain ⟨q, hq⟩ : ∃ q, q = m / 2 := ⟨_, rfl⟩
  obtain ⟨r, hr⟩ : ∃ r, r = m % 2 := ⟨_, rfl⟩
  rw [← hq] at hl
  rw [← hq, ← hr]
  have hm : m = 2 * q + r := by omega
  have hpow : (4294967296 : Nat) ^ m = 18446744073709551616 ^ q * 2 ^ (32 * r) := by
    rw [hm, Nat.pow_add, Nat.pow_mul, show (4294967296 : Nat) ^ 2 = 18446744073709551616 by decide, show (4294967296 : Nat) = 2 ^ 32 by decide, ← Nat.pow_mul]
  have hx : cs.getD q 0 < 2 ^ (32 * r) := by
    rw [← dv_digit hc (by omega) q]
    refine Nat.lt_of_le_of_lt (Nat.mod_le _ _) (Nat.div_lt_of_lt_mul ?_)
    rw [← hpow]
    exact h
  have hs := dv_set (B := 18446744073709551616) cs q (cs.getD q 0 + v * 2 ^ (32 * r)) (by omega)
  have hset : dv 18446744073709551616 (cs.set q (cs.getD q 0 + v * 2 ^ (32 * r))) = dv 18446744073709551616 cs + 4294967296 ^ m * v := by
    rw [Nat.mul_add] at hs
    have e1 : 18446744073709551616 ^ q * (v * 2 ^ (32 * r)) = 4294967296 ^ m * v := by rw [hpow]; grind
    rw [e1] at hs
    omega
  rcases (show r = 0 ∨ r = 1 by omega) with rfl | rfl
  · have hx0 : cs.getD q 0 = 0 := by simp at hx ⊢; omega
    refine ⟨?_, ?_, ?_, hset⟩
    · rw [bits_or_u64_nat _ _ (by omega) (by simp; omega), hx0]
      simp
    · simp; omega
    · rw [hx0]; simp; omega
  · have hx1 : cs.getD q 0 < 4294967296 := by simpa using hx
    refine ⟨?_, ?_, ?_, hset⟩
    · rw [bits_or_u64_nat _ _ (by omega) (by simp; omega), Nat.mul_comm v, Nat.or_comm, ← Nat.two_pow_add_eq_or_of_lt hx, Nat.add_comm]
    · show v * 2 ^ (32 * 1) < _
      rw [show (2 : Nat) ^ (32 * 1) = 4294967296 by decide]
      omega
    · show cs.getD q 0 + v * 2 ^ (32 * 1) < _
      rw [show (2 : Nat) ^ (32 * 1) = 4294967296 by decide]
      omega

set_option maxRecDepth 100000 in
set_option maxHeartbeats 6400000 in
theorem rnum_c {A : Option Addr} {c a : Nat} {xs : List Nat} (w : World) (h : Rd .u32 w A c xs) (hx : Can 4294967296 xs a) (hl : xs.length ≤ 12) :
    Calls Tryd.prog 22 #[.slice A xs.length c] w fun e w' => ∃ x0 x1 x2 x3 x4 x5, e = .returned (W6 x0 x1 x2 x3 x4 x5) ∧ Lim6 x0 x1 x2 x3 x4 x5 ∧ n6 x0 x1 x2 x3 x4 x5 = a ∧ Below w.heap.size w w' := by
  have HR := Lib.hid h
  have HSD := Lib.hid hx
  obtain ⟨L, hL⟩ : ∃ L, L = xs.length := ⟨_, rfl⟩
  have HL := Lib.hid hL
  rw [← hL]
  have hL8 : L ≤ 12 := by omega
  clear h hx hL hl
  have g2 := Row.new (k := .u64) (w.alloc (.cells #[Value.int .u64 0, Value.int .u64 0, Value.int .u64 0, Value.int .u64 0, Value.int .u64 0, Value.int .u64 0] 24)) 24 [0, 0, 0, 0, 0, 0]
  have g1 : Row .u64 ((w.alloc (.cells #[Value.int .u64 0, Value.int .u64 0, Value.int .u64 0, Value.int .u64 0, Value.int .u64 0, Value.int .u64 0] 24)).alloc (.cells #[Value.int .u64 0, Value.int .u64 0, Value.int .u64 0, Value.int .u64 0, Value.int .u64 0, Value.int .u64 0] 24)) w.heap.size 24 [0, 0, 0, 0, 0, 0] :=
    (((Below.refl (w.heap.size + 1) (w.alloc (.cells #[Value.int .u64 0, Value.int .u64 0, Value.int .u64 0, Value.int .u64 0, Value.int .u64 0, Value.int .u64 0] 24))).alloc (by simp) (.cells #[Value.int .u64 0, Value.int .u64 0, Value.int .u64 0, Value.int .u64 0, Value.int .u64 0, Value.int .u64 0] 24)).block w.heap.size (Nat.lt_succ_self _)).trans (Row.new (k := .u64) w 24 [0, 0, 0, 0, 0, 0])
  rw [show (w.alloc (.cells #[Value.int .u64 0, Value.int .u64 0, Value.int .u64 0, Value.int .u64 0, Value.int .u64 0, Value.int .u64 0] 24)).heap.size = w.heap.size + 1 by simp] at g2
  have gW := ((Below.refl w.heap.size w).alloc (Nat.le_refl _) (.cells #[Value.int .u64 0, Value.int .u64 0, Value.int .u64 0, Value.int .u64 0, Value.int .u64 0, Value.int .u64 0] 24)).alloc (by simp) (.cells #[Value.int .u64 0, Value.int .u64 0, Value.int .u64 0, Value.int .u64 0, Value.int .u64 0, Value.int .u64 0] 24)
  have g2' : Row .u64 ((w.alloc (.cells #[Value.int .u64 0, Value.int .u64 0, Value.int .u64 0, Value.int .u64 0, Value.int .u64 0, Value.int .u64 0] 24)).alloc (.cells #[Value.int .u64 0, Value.int .u64 0, Value.int .u64 0, Value.int .u64 0, Value.int .u64 0, Value.int .u64 0] 24)) (w.heap.size + 1) 24 [0, 0, 0, 0, 0, 0] := g2
  clear g2
  go_enter Tryd.func22, Tryd.ntmps22
  go_upto_region 2 with (fail)
  generalize (w.alloc (.cells #[Value.int .u64 0, Value.int .u64 0, Value.int .u64 0, Value.int .u64 0, Value.int .u64 0, Value.int .u64 0] 24)).alloc (.cells #[Value.int .u64 0, Value.int .u64 0, Value.int .u64 0, Value.int .u64 0, Value.int .u64 0, Value.int .u64 0] 24) = X at *
  go_wp2_with fail
  go_loopw [4] (fun i wr => ∃ (m : Nat) (cs : List Nat), m ≤ L ∧ i = .int .i64 (m : Int) ∧ Hid (cs.length = 6) ∧ Hid (Ds 18446744073709551616 cs) ∧ Hid (dv 18446744073709551616 cs = dv 4294967296 (xs.take m)) ∧ Hid (Row .u64 wr w.heap.size 24 [0, 0, 0, 0, 0, 0]) ∧ Row .u64 wr (w.heap.size + 1) 24 cs ∧ Hid (Below w.heap.size w wr))
    (fun i _ => (L - intOf i).toNat)
  case atStart =>
    exact ⟨0, [0, 0, 0, 0, 0, 0], by omega, rfl, rfl, (show Ds 18446744073709551616 [0, 0, 0, 0, 0, 0] from Ds.zeros (by omega) 6), by show dv _ _ = _; simp [dv], g1, g2', gW⟩
  case round =>
    obtain ⟨m, cs, hm, rfl, HCL, hlim, hinv, hres, harr, hbel⟩ := hrel
    clear g1 g2' gW
    by_cases hlt : (m : Int) < (L : Int)
    · obtain ⟨b, o, rfl, hbb, hcell⟩ := HR.out.at_ (by have := HL.out; omega)
      have cv := (hbel.out.cell (p := ⟨b, o + m, none⟩) hbb).trans (hcell m (by have := HL.out; omega))
      obtain ⟨v, ev⟩ : ∃ v, v = xs.getD m 0 := ⟨_, rfl⟩
      have hv : v < 4294967296 := by rw [ev]; exact HSD.out.1.get (by omega) m
      rw [← ev] at cv
      have h12 : (m : Int) < 12 := by omega
      have hst := num_step (cs := cs) (m := m) (v := v) (by rw [HCL.out]; omega) hlim.out (by rw [hinv.out]; exact dv_take_lt HSD.out.1 m (by have := HL.out; omega)) hv
      obtain ⟨q, hq⟩ : ∃ q, q = m / 2 := ⟨_, rfl⟩
      obtain ⟨r, hr⟩ : ∃ r, r = m % 2 := ⟨_, rfl⟩
      obtain ⟨s, hs⟩ : ∃ s, s = 32 * r := ⟨_, rfl⟩
      rw [← hq, ← hr, ← hs] at hst
      have e1 : (m : Int) / 2 = (q : Int) := by omega
      have e2 : (m : Int) % 2 = (r : Int) := by omega
      have e3 : (m : Int).tmod 2 = (r : Int) := by rw [Int.tmod_eq_emod_of_nonneg (by omega)]; omega
      have e3' : (m : Int).tdiv 2 = (q : Int) := by rw [Int.tdiv_eq_ediv_of_nonneg (by omega)]; omega
      have e4 : IntKind.i64.wrap (32 * (r : Int)) = (s : Int) := by rw [IntWalk.i64_in _ (by omega)]; omega
      have hq6 : (q : Int) < 6 := by omega
      have hs63 : (s : Int) ≤ 63 := by omega
      have cx := harr.cell q (by rw [HCL.out]; omega)
      have fx := harr.frozen q
      obtain ⟨x, ex⟩ : ∃ x, x = cs.getD q 0 := ⟨_, rfl⟩
      rw [← ex] at cx hst
      obtain ⟨y, ey⟩ : ∃ y, y = v * 2 ^ s := ⟨_, rfl⟩
      have vy : IntKind.u64.wrap ((v : Int) * 2 ^ s) = (y : Int) := by
        have e : ((v : Int) * 2 ^ s) = ((v * 2 ^ s : Nat) : Int) := by simp
        rw [e, wrapU, ey, Nat.mod_eq_of_lt hst.2.1]
      rw [← ey] at hst
      obtain ⟨z, ez⟩ : ∃ z, z = x + y := ⟨_, rfl⟩
      rw [← ez] at hst
      have vz := hst.1
      have hnext : dv 18446744073709551616 (cs.set q z) = dv 4294967296 (xs.take (m + 1)) := by
        rw [hst.2.2.2, hinv.out, dv_take_succ _ _ (by have := HL.out; omega), ← ev]
      have HN := Lib.hid hnext
      have HZ := Lib.hid hst.2.2.1
      have HA := Lib.hid harr
      have vv : IntKind.u64.wrap (v : Int) = (v : Int) := by rw [wrapU, Nat.mod_eq_of_lt (by omega)]
      have h12d : decide ((m : Int) < 12) = true := decide_eq_true h12
      clear hst hq hr hs ex ey ez hnext harr hinv ev hcell hbb
      go_wp2_with fail
      go_region
      go_wp2_with fail
      go_roundw
      case rel =>
        exact ⟨m + 1, cs.set q z, by omega, by go_num, by show (cs.set q z).length = 6; rw [List.length_set]; exact HCL.out, hlim.out.set q z HZ.out, HN.out, hres.out.far (p := ⟨w.heap.size + 1, q, none⟩) (by simp) _, HA.out.set q z, (hbel.out.setCell (p := ⟨w.heap.size + 1, q, none⟩) (by simp <;> omega) _).drew⟩
      case measure => simp [intOf]; omega
    · obtain rfl : m = L := by omega
      have hltd : decide ((m : Int) < (m : Int)) = false := decide_eq_false (by omega)
      obtain ⟨c0, c1, c2, c3, c4, c5, rfl⟩ : ∃ c0 c1 c2 c3 c4 c5, cs = [c0, c1, c2, c3, c4, c5] := by
        have h6 := HCL.out
        match cs, h6 with
        | [c0, c1, c2, c3, c4, c5], _ => exact ⟨c0, c1, c2, c3, c4, c5, rfl⟩
      have hv := hinv.out
      rw [List.take_of_length_le (by have := HL.out; omega), vl6, HSD.out.2.1] at hv
      have HV := Lib.hid hv
      have gW := hbel.out
      clear hv hinv
      have x0 : wr.cell? ⟨w.heap.size + 1, 0, none⟩ = some (.int .u64 (c0 : Nat)) := harr.cell 0 (by simp)
      have x1 : wr.cell? ⟨w.heap.size + 1, 1, none⟩ = some (.int .u64 (c1 : Nat)) := harr.cell 1 (by simp)
      have x2 : wr.cell? ⟨w.heap.size + 1, 2, none⟩ = some (.int .u64 (c2 : Nat)) := harr.cell 2 (by simp)
      have x3 : wr.cell? ⟨w.heap.size + 1, 3, none⟩ = some (.int .u64 (c3 : Nat)) := harr.cell 3 (by simp)
      have x4 : wr.cell? ⟨w.heap.size + 1, 4, none⟩ = some (.int .u64 (c4 : Nat)) := harr.cell 4 (by simp)
      have x5 : wr.cell? ⟨w.heap.size + 1, 5, none⟩ = some (.int .u64 (c5 : Nat)) := harr.cell 5 (by simp)
      have y0 : wr.cell? ⟨w.heap.size, 0, none⟩ = some (.int .u64 0) := hres.out.cell 0 (by simp)
      have y1 : wr.cell? ⟨w.heap.size, 1, none⟩ = some (.int .u64 0) := hres.out.cell 1 (by simp)
      have y2 : wr.cell? ⟨w.heap.size, 2, none⟩ = some (.int .u64 0) := hres.out.cell 2 (by simp)
      have y3 : wr.cell? ⟨w.heap.size, 3, none⟩ = some (.int .u64 0) := hres.out.cell 3 (by simp)
      have y4 : wr.cell? ⟨w.heap.size, 4, none⟩ = some (.int .u64 0) := hres.out.cell 4 (by simp)
      have y5 : wr.cell? ⟨w.heap.size, 5, none⟩ = some (.int .u64 0) := hres.out.cell 5 (by simp)
      have f0 := hres.out.frozen 0
      have f1 := hres.out.frozen 1
      have f2 := hres.out.frozen 2
      have f3 := hres.out.frozen 3
      have f4 := hres.out.frozen 4
      have f5 := hres.out.frozen 5
      have l6 : Hid (Lim6 c0 c1 c2 c3 c4 c5) := by
        have h := hlim.out
        exact ⟨h c0 (by simp), h c1 (by simp), h c2 (by simp), h c3 (by simp), h c4 (by simp), h c5 (by simp)⟩
      by_cases h12 : (m : Int) < 12
      · have h12d : decide ((m : Int) < 12) = true := decide_eq_true h12
        go_wp2_with fail
        refine bodyPost_ret (v := W6 c0 c1 c2 c3 c4 c5) (by simp [results, Tryd.results22, go_sem, y0, y1, y2, y3, y4, y5]) rfl ⟨c0, c1, c2, c3, c4, c5, rfl, l6.out, HV.out, ?_⟩
        repeat (first | exact gW | refine Below.setCell ?_ (by simp; try omega) _)
      · have h12d : decide ((m : Int) < 12) = false := decide_eq_false h12
        go_wp2_with fail
        refine bodyPost_ret (v := W6 c0 c1 c2 c3 c4 c5) (by simp [results, Tryd.results22, go_sem, y0, y1, y2, y3, y4, y5]) rfl ⟨c0, c1, c2, c3, c4, c5, rfl, l6.out, HV.out, ?_⟩
        repeat (first | exact gW | refine Below.setCell ?_ (by simp; try omega) _)
end Go.Proofs.YtghnhgdnfmglpaaDoor
