/- Package field's text: a number's bytes, the highest first. -/
import Derived.Test.YteaafnjflghlhaaDoorFlBelow
import Derived.Test.YteaafnjflghlhaaDoorNBytes
namespace Go.Proofs.YteaafnjflghlhaaDoor
open Go.RowKit

abbrev W6 (a b c d e f : Nat) : Value := .agg #[.int .u64 a, .int .u64 b, .int .u64 c, .int .u64 d, .int .u64 e, .int .u64 f]
theorem lims6 {x0 x1 x2 x3 x4 x5 : Nat} (h : Lim6 x0 x1 x2 x3 x4 x5) : Ds 18446744073709551616 [x0, x1, x2, x3, x4, x5] := by
  obtain ⟨h0, h1, h2, h3, h4, h5⟩ := h
  intro x hx
  simp at hx
  rcases hx with rfl | rfl | rfl | rfl | rfl | rfl <;> assumption
theorem vl6 (x0 x1 x2 x3 x4 x5 : Nat) : dv 18446744073709551616 [x0, x1, x2, x3, x4, x5] = n6 x0 x1 x2 x3 x4 x5 := by
  unfold n6
  simp [dv]

set_option maxRecDepth 100000 in
set_option maxHeartbeats 6400000 in
theorem ftext_c {x0 x1 x2 x3 x4 x5 N : Nat} (w : World) (lx : Lim6 x0 x1 x2 x3 x4 x5) (hN : N ≤ 48) :
    Calls Tryd.prog 45 #[W6 x0 x1 x2 x3 x4 x5, .int .i64 (N : Nat)] w fun e w' => e = .returned (.slice (some ⟨w.heap.size + 1, 0, none⟩) N N) ∧ ∃ zs, zs.length = N ∧ Ds 256 zs ∧ (∀ j, j < N → zs.getD j 0 = n6 x0 x1 x2 x3 x4 x5 / 256 ^ (N - 1 - j) % 256) ∧ Row .u8 w' (w.heap.size + 1) 5 zs ∧ Below w.heap.size w w' := by
  have HLX := Lib.hid lx
  have HN := Lib.hid hN
  have hN1 : (N : Int) ≤ 48 := by omega
  have hN0 : (0 : Int) ≤ (N : Int) := by omega
  have hmk := mk8 (N : Int) N rfl (by omega)
  obtain ⟨xs, hxs⟩ : ∃ xs, xs = [x0, x1, x2, x3, x4, x5] := ⟨_, rfl⟩
  have HXS := Lib.hid hxs
  have hd6 := lims6 lx
  rw [← hxs] at hd6
  have HD6 := Lib.hid hd6
  have hvl := vl6 x0 x1 x2 x3 x4 x5
  rw [← hxs] at hvl
  have HVL := Lib.hid hvl
  have hr1 := Row.new (k := .u64) w 24 [x0, x1, x2, x3, x4, x5]
  rw [← hxs] at hr1
  have hb1 := (Below.refl w.heap.size w).alloc (Nat.le_refl _) (.cells #[Value.int .u64 x0, Value.int .u64 x1, Value.int .u64 x2, Value.int .u64 x3, Value.int .u64 x4, Value.int .u64 x5] 24)
  have e1 : (w.alloc (.cells #[Value.int .u64 x0, Value.int .u64 x1, Value.int .u64 x2, Value.int .u64 x3, Value.int .u64 x4, Value.int .u64 x5] 24)).heap.size = w.heap.size + 1 := by simp
  have hr1' : Row .u64 (w.alloc (.cells #[Value.int .u64 x0, Value.int .u64 x1, Value.int .u64 x2, Value.int .u64 x3, Value.int .u64 x4, Value.int .u64 x5] 24)) w.heap.size 24 xs := by rw [hxs] at hr1 ⊢; exact hr1
  clear hr1 hxs hd6 hvl lx hN
  go_enter Tryd.func45, Tryd.ntmps45
  go_upto_region 2 with (fail)
  generalize w.alloc (.cells #[Value.int .u64 x0, Value.int .u64 x1, Value.int .u64 x2, Value.int .u64 x3, Value.int .u64 x4, Value.int .u64 x5] 24) = X1 at *
  have hrow := Row.made (k := .u8) X1 5 N
  have hbel := (Below.refl X1.heap.size X1).alloc (Nat.le_refl _) (.cells (madeCells #[Value.int .u8 0] N) 5)
  rw [e1] at hrow hbel
  have HR1 := Lib.hid hr1'
  have HB1 := Lib.hid hb1
  generalize X1.alloc (.cells (madeCells #[Value.int .u8 0] N) 5) = X at *
  have HBX := Lib.hid hbel
  clear hmk hr1' hb1 e1 hbel
  go_wp2_with fail
  go_loopw [12] (fun i wr => ∃ (m : Nat) (zs : List Nat), m ≤ N ∧ i = .int .i64 (m : Int) ∧ Hid (zs.length = N) ∧ Hid (Ds 256 zs) ∧ Hid (∀ j, j < m → zs.getD j 0 = dv 18446744073709551616 xs / 256 ^ (N - 1 - j) % 256) ∧ Row .u8 wr (w.heap.size + 1) 5 zs ∧ Hid (Below (w.heap.size + 1) X1 wr))
    (fun i _ => (N - intOf i).toNat)
  case atStart =>
    exact ⟨0, List.replicate N 0, by omega, rfl, List.length_replicate, Ds.zeros (by omega) _, fun j hj => by omega, hrow, HBX⟩
  case round =>
    clear hrow
    obtain ⟨m, zs, hm, rfl, HZL, HZD, hinv, hrow, hbel⟩ := hrel
    by_cases hlt : (m : Int) < (N : Int)
    · obtain ⟨p, hp⟩ : ∃ p : Nat, (N : Int) - 1 - (m : Int) = (p : Int) := ⟨N - 1 - m, by omega⟩
      have hwp : IntKind.i64.wrap ((N : Int) - 1 - (m : Int)) = (p : Int) := by rw [IntWalk.i64_in _ (by omega)]; exact hp
      obtain ⟨q, hq⟩ : ∃ q, q = p / 8 := ⟨_, rfl⟩
      obtain ⟨r, hr⟩ : ∃ r, r = p % 8 := ⟨_, rfl⟩
      obtain ⟨s, hs⟩ : ∃ s, s = 8 * r := ⟨_, rfl⟩
      have e1 : (p : Int) / 8 = (q : Int) := by omega
      have e2 : (p : Int) % 8 = (r : Int) := by omega
      have e3 : (p : Int).tmod 8 = (r : Int) := by rw [Int.tmod_eq_emod_of_nonneg (by omega)]; omega
      have e3' : (p : Int).tdiv 8 = (q : Int) := by rw [Int.tdiv_eq_ediv_of_nonneg (by omega)]; omega
      have e4 : IntKind.i64.wrap ((r : Int) * 8) = (s : Int) := by rw [IntWalk.i64_in _ (by omega)]; omega
      have hq6 : (q : Int) < 6 := by omega
      have hs63 : (s : Int) ≤ 63 := by omega
      have cx := (hbel.out.cell (p := ⟨w.heap.size, q, none⟩) (Nat.lt_succ_self _)).trans (HR1.out.cell q (by rw [HXS.out]; simp; omega))
      obtain ⟨x, ex⟩ : ∃ x, x = xs.getD q 0 := ⟨_, rfl⟩
      rw [← ex] at cx
      obtain ⟨y, ey⟩ : ∃ y, y = x / 2 ^ s := ⟨_, rfl⟩
      obtain ⟨u, eu⟩ : ∃ u, u = y % 256 := ⟨_, rfl⟩
      have hbyte : u = dv 18446744073709551616 xs / 256 ^ (N - 1 - m) % 256 := by
        rw [eu, ey, ex, hs, byte_of_limb HD6.out q r (by omega), vl_dv, show 8 * q + r = N - 1 - m by omega]
      have vy : (x : Int) / 2 ^ s = (y : Int) := by rw [ey]; simp
      have vb : IntKind.u8.wrap (y : Int) = (u : Int) := by rw [IntKind.wrap_u8']; omega
      have cb := hrow.cell m (by rw [HZL.out]; omega)
      have fb := hrow.frozen m
      have hnext := tob_step HZL.out (by omega) hinv.out hbyte
      have HNX := Lib.hid hnext
      have HU := Lib.hid (show u < 256 by omega)
      have hrow' := Lib.hid hrow
      clear hq hr hs ex ey eu hbyte hnext hinv hrow hp
      go_wp2_with fail
      go_roundw
      case rel =>
        exact ⟨m + 1, zs.set m u, by omega, by go_num, by show (zs.set m u).length = N; rw [List.length_set]; exact HZL.out, HZD.out.set m u HU.out, HNX.out, hrow'.out.set m u, hbel.out.setCell (p := ⟨w.heap.size + 1, m, none⟩) (Nat.le_refl _) _⟩
      case measure => simp [intOf]; omega
    · obtain rfl : m = N := by omega
      have HRW := Lib.hid hrow
      clear hrow
      go_wp2_with fail
      go_ret
      exact ⟨rfl, zs, HZL.out, HZD.out, by rw [← HVL.out]; exact hinv.out, HRW.out, HB1.out.trans (hbel.out.mono (Nat.le_succ _))⟩
end Go.Proofs.YteaafnjflghlhaaDoor
