/- Package field's number: what bytes are, the highest first. -/
import Derived.Test.YteaafnjflghlhaaDoorFlText
namespace Go.Proofs.YteaafnjflghlhaaDoor
open Go.RowKit

set_option maxRecDepth 100000 in
set_option maxHeartbeats 6400000 in
theorem fnumber_c {A : Option Addr} {c : Nat} {xs : List Nat} (w : World) (h : Rd .u8 w A c xs) (hb : Ds 256 xs) (hl : xs.length ≤ 48) :
    Calls Tryd.prog 44 #[.slice A xs.length c] w fun e w' => ∃ x0 x1 x2 x3 x4 x5, e = .returned (W6 x0 x1 x2 x3 x4 x5) ∧ Lim6 x0 x1 x2 x3 x4 x5 ∧ n6 x0 x1 x2 x3 x4 x5 = dv 256 xs.reverse ∧ Below w.heap.size w w' := by
  have HR := Lib.hid h
  have HSD := Lib.hid hb
  obtain ⟨L, hL⟩ : ∃ L, L = xs.length := ⟨_, rfl⟩
  have HL := Lib.hid hL
  rw [← hL]
  have hL8 : L ≤ 48 := by omega
  clear h hb hL hl
  have g2 := Row.new (k := .u64) (w.alloc (.cells #[Value.int .u64 0, Value.int .u64 0, Value.int .u64 0, Value.int .u64 0, Value.int .u64 0, Value.int .u64 0] 24)) 24 [0, 0, 0, 0, 0, 0]
  have g1 : Row .u64 ((w.alloc (.cells #[Value.int .u64 0, Value.int .u64 0, Value.int .u64 0, Value.int .u64 0, Value.int .u64 0, Value.int .u64 0] 24)).alloc (.cells #[Value.int .u64 0, Value.int .u64 0, Value.int .u64 0, Value.int .u64 0, Value.int .u64 0, Value.int .u64 0] 24)) w.heap.size 24 [0, 0, 0, 0, 0, 0] :=
    (((Below.refl (w.heap.size + 1) (w.alloc (.cells #[Value.int .u64 0, Value.int .u64 0, Value.int .u64 0, Value.int .u64 0, Value.int .u64 0, Value.int .u64 0] 24))).alloc (by simp) (.cells #[Value.int .u64 0, Value.int .u64 0, Value.int .u64 0, Value.int .u64 0, Value.int .u64 0, Value.int .u64 0] 24)).block w.heap.size (Nat.lt_succ_self _)).trans (Row.new (k := .u64) w 24 [0, 0, 0, 0, 0, 0])
  rw [show (w.alloc (.cells #[Value.int .u64 0, Value.int .u64 0, Value.int .u64 0, Value.int .u64 0, Value.int .u64 0, Value.int .u64 0] 24)).heap.size = w.heap.size + 1 by simp] at g2
  have gW := ((Below.refl w.heap.size w).alloc (Nat.le_refl _) (.cells #[Value.int .u64 0, Value.int .u64 0, Value.int .u64 0, Value.int .u64 0, Value.int .u64 0, Value.int .u64 0] 24)).alloc (by simp) (.cells #[Value.int .u64 0, Value.int .u64 0, Value.int .u64 0, Value.int .u64 0, Value.int .u64 0, Value.int .u64 0] 24)
  have g2' : Row .u64 ((w.alloc (.cells #[Value.int .u64 0, Value.int .u64 0, Value.int .u64 0, Value.int .u64 0, Value.int .u64 0, Value.int .u64 0] 24)).alloc (.cells #[Value.int .u64 0, Value.int .u64 0, Value.int .u64 0, Value.int .u64 0, Value.int .u64 0, Value.int .u64 0] 24)) (w.heap.size + 1) 24 [0, 0, 0, 0, 0, 0] := g2
  clear g2
  go_enter Tryd.func44, Tryd.ntmps44
  go_upto_region 2 with (fail)
  generalize (w.alloc (.cells #[Value.int .u64 0, Value.int .u64 0, Value.int .u64 0, Value.int .u64 0, Value.int .u64 0, Value.int .u64 0] 24)).alloc (.cells #[Value.int .u64 0, Value.int .u64 0, Value.int .u64 0, Value.int .u64 0, Value.int .u64 0, Value.int .u64 0] 24) = X at *
  go_wp2_with fail
  go_loopw [9] (fun i wr => ∃ (m : Nat) (cs : List Nat), m ≤ L ∧ i = .int .i64 (m : Int) ∧ Hid (cs.length = 6) ∧ Hid (Ds 18446744073709551616 cs) ∧ Hid (dv 18446744073709551616 cs = dv 256 (xs.take m).reverse * 256 ^ (L - m)) ∧ Hid (Row .u64 wr w.heap.size 24 [0, 0, 0, 0, 0, 0]) ∧ Row .u64 wr (w.heap.size + 1) 24 cs ∧ Hid (Below w.heap.size w wr))
    (fun i _ => (L - intOf i).toNat)
  case atStart =>
    exact ⟨0, [0, 0, 0, 0, 0, 0], by omega, rfl, rfl, (show Ds 18446744073709551616 [0, 0, 0, 0, 0, 0] from Ds.zeros (by omega) 6), by show dv _ _ = _; simp [dv], g1, g2', gW⟩
  case round =>
    obtain ⟨m, cs, hm, rfl, HCL, hlim, hinv, hres, harr, hbel⟩ := hrel
    clear g1 g2' gW
    by_cases hlt : (m : Int) < (L : Int)
    · obtain ⟨b, o, rfl, hbb, hcell⟩ := HR.out.at_ (by have := HL.out; omega)
      have cv := (hbel.out.cell (p := ⟨b, o + m, none⟩) hbb).trans (hcell m (by have := HL.out; omega))
      obtain ⟨v, ev⟩ : ∃ v, v = xs.getD m 0 := ⟨_, rfl⟩
      have hv : v < 256 := by rw [ev]; exact HSD.out.get (by omega) m
      rw [← ev] at cv
      obtain ⟨p, hp⟩ : ∃ p : Nat, (L : Int) - 1 - (m : Int) = (p : Int) := ⟨L - 1 - m, by omega⟩
      have hwp : IntKind.i64.wrap ((L : Int) - 1 - (m : Int)) = (p : Int) := by rw [IntWalk.i64_in _ (by omega)]; exact hp
      have hst := gfrom_step (cs := cs) (D := dv 256 (xs.take m).reverse) (place := p) (v := v) (by rw [HCL.out]; omega) hlim.out (by rw [hinv.out, show L - m = p + 1 by omega]) hv
      obtain ⟨q, hq⟩ : ∃ q, q = p / 8 := ⟨_, rfl⟩
      obtain ⟨r, hr⟩ : ∃ r, r = p % 8 := ⟨_, rfl⟩
      obtain ⟨s, hs⟩ : ∃ s, s = 8 * r := ⟨_, rfl⟩
      rw [← hq, ← hr, ← hs] at hst
      have e1 : (p : Int) / 8 = (q : Int) := by omega
      have e2 : (p : Int) % 8 = (r : Int) := by omega
      have e3 : (p : Int).tmod 8 = (r : Int) := by rw [Int.tmod_eq_emod_of_nonneg (by omega)]; omega
      have e3' : (p : Int).tdiv 8 = (q : Int) := by rw [Int.tdiv_eq_ediv_of_nonneg (by omega)]; omega
      have e4 : IntKind.i64.wrap ((r : Int) * 8) = (s : Int) := by rw [IntWalk.i64_in _ (by omega)]; omega
      have hq6 : (q : Int) < 6 := by omega
      have hs63 : (s : Int) ≤ 63 := by omega
      have cx := harr.cell q (by rw [HCL.out]; omega)
      have fx := harr.frozen q
      obtain ⟨x, ex⟩ : ∃ x, x = cs.getD q 0 := ⟨_, rfl⟩
      rw [← ex] at cx hst
      obtain ⟨y, ey⟩ : ∃ y, y = v * 2 ^ s := ⟨_, rfl⟩
      have vy : IntKind.u64.wrap ((v : Int) * 2 ^ s) = (y : Int) := by
        have e : ((v : Int) * 2 ^ s) = ((v * 2 ^ s : Nat) : Int) := by simp
        rw [e, wrapU, ey, Nat.mod_eq_of_lt hst.2.1]
      rw [← ey] at hst
      obtain ⟨z, ez⟩ : ∃ z, z = x + y := ⟨_, rfl⟩
      rw [← ez] at hst
      have vz := hst.1
      have hnext : dv 18446744073709551616 (cs.set q z) = dv 256 (xs.take (m + 1)).reverse * 256 ^ (L - (m + 1)) := by
        rw [hst.2.2.2, rev_take2 xs m (by have := HL.out; omega), ← ev, show L - (m + 1) = p by omega]
      have HN := Lib.hid hnext
      have HZ := Lib.hid hst.2.2.1
      have HA := Lib.hid harr
      have vv : IntKind.u64.wrap (v : Int) = (v : Int) := by rw [wrapU, Nat.mod_eq_of_lt (by omega)]
      clear hst hq hr hs ex ey ez hnext harr hinv ev hcell hbb
      go_wp2_with fail
      go_region
      go_wp2_with fail
      go_roundw
      case rel =>
        exact ⟨m + 1, cs.set q z, by omega, by go_num, by show (cs.set q z).length = 6; rw [List.length_set]; exact HCL.out, hlim.out.set q z HZ.out, HN.out, hres.out.far (p := ⟨w.heap.size + 1, q, none⟩) (by simp) _, HA.out.set q z, (hbel.out.setCell (p := ⟨w.heap.size + 1, q, none⟩) (by simp <;> omega) _).drew⟩
      case measure => simp [intOf]; omega
    · obtain rfl : m = L := by omega
      obtain ⟨c0, c1, c2, c3, c4, c5, rfl⟩ : ∃ c0 c1 c2 c3 c4 c5, cs = [c0, c1, c2, c3, c4, c5] := by
        have h6 := HCL.out
        match cs, h6 with
        | [c0, c1, c2, c3, c4, c5], _ => exact ⟨c0, c1, c2, c3, c4, c5, rfl⟩
      have hv := hinv.out
      rw [Nat.sub_self, Nat.pow_zero, Nat.mul_one, List.take_of_length_le (by have := HL.out; omega), vl6] at hv
      have HV := Lib.hid hv
      have gW := hbel.out
      clear hv hinv
      have x0 : wr.cell? ⟨w.heap.size + 1, 0, none⟩ = some (.int .u64 (c0 : Nat)) := harr.cell 0 (by simp)
      have x1 : wr.cell? ⟨w.heap.size + 1, 1, none⟩ = some (.int .u64 (c1 : Nat)) := harr.cell 1 (by simp)
      have x2 : wr.cell? ⟨w.heap.size + 1, 2, none⟩ = some (.int .u64 (c2 : Nat)) := harr.cell 2 (by simp)
      have x3 : wr.cell? ⟨w.heap.size + 1, 3, none⟩ = some (.int .u64 (c3 : Nat)) := harr.cell 3 (by simp)
      have x4 : wr.cell? ⟨w.heap.size + 1, 4, none⟩ = some (.int .u64 (c4 : Nat)) := harr.cell 4 (by simp)
      have x5 : wr.cell? ⟨w.heap.size + 1, 5, none⟩ = some (.int .u64 (c5 : Nat)) := harr.cell 5 (by simp)
      have y0 : wr.cell? ⟨w.heap.size, 0, none⟩ = some (.int .u64 0) := hres.out.cell 0 (by simp)
      have y1 : wr.cell? ⟨w.heap.size, 1, none⟩ = some (.int .u64 0) := hres.out.cell 1 (by simp)
      have y2 : wr.cell? ⟨w.heap.size, 2, none⟩ = some (.int .u64 0) := hres.out.cell 2 (by simp)
      have y3 : wr.cell? ⟨w.heap.size, 3, none⟩ = some (.int .u64 0) := hres.out.cell 3 (by simp)
      have y4 : wr.cell? ⟨w.heap.size, 4, none⟩ = some (.int .u64 0) := hres.out.cell 4 (by simp)
      have y5 : wr.cell? ⟨w.heap.size, 5, none⟩ = some (.int .u64 0) := hres.out.cell 5 (by simp)
      have f0 := hres.out.frozen 0
      have f1 := hres.out.frozen 1
      have f2 := hres.out.frozen 2
      have f3 := hres.out.frozen 3
      have f4 := hres.out.frozen 4
      have f5 := hres.out.frozen 5
      have l6 : Hid (Lim6 c0 c1 c2 c3 c4 c5) := by
        have h := hlim.out
        exact ⟨h c0 (by simp), h c1 (by simp), h c2 (by simp), h c3 (by simp), h c4 (by simp), h c5 (by simp)⟩
      go_wp2_with fail
      refine bodyPost_ret (v := W6 c0 c1 c2 c3 c4 c5) (by simp [results, Tryd.results44, go_sem, y0, y1, y2, y3, y4, y5]) rfl ⟨c0, c1, c2, c3, c4, c5, rfl, l6.out, HV.out, ?_⟩
      repeat (first | exact gW | refine Below.setCell ?_ (by simp; try omega) _)
end Go.Proofs.YteaafnjflghlhaaDoor
