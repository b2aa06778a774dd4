/- The contract of package nat's toBytes. -/
import Derived.Test.YteaafnjflghlhaaDoorNStrip
import Derived.Test.YteaafnjflghlhaaDoorNLimbs
import Derived.Test.YteaafnjflghlhaaDoorNAdd
import Derived.Test.YteaafnjflghlhaaDoorRefN
import Derived.Deep.DeepCutAuto
namespace Go.Proofs.YteaafnjflghlhaaDoor
open Go.RowKit

theorem tob_step {zs : List Nat} {V N m b : Nat} (hl : zs.length = N) (hm : m < N) (h : ∀ j, j < m → zs.getD j 0 = V / 256 ^ (N - 1 - j) % 256) (hb : b = V / 256 ^ (N - 1 - m) % 256) :
    ∀ j, j < m + 1 → (zs.set m b).getD j 0 = V / 256 ^ (N - 1 - j) % 256 := by
  intro j hj
  rw [List.getD_eq_getElem?_getD, List.getElem?_set]
  by_cases e : m = j
  · rw [if_pos e, if_pos (by omega), ← e]; exact hb
  · rw [if_neg e, ← List.getD_eq_getElem?_getD]; exact h j (by omega)
theorem tob_end {zs ls : List Nat} {N : Nat} (hd : Ds 18446744073709551616 ls) (hN : N = 8 * ls.length) (hl : zs.length = N) (h : ∀ j, j < N → zs.getD j 0 = dv 18446744073709551616 ls / 256 ^ (N - 1 - j) % 256) :
    dv 256 zs.reverse = dv 18446744073709551616 ls := by
  refine dv_of_digits (fun i hi => ?_) ?_
  · rw [List.length_reverse] at hi
    rw [rev_get _ _ hi, h _ (by omega), show N - 1 - (zs.length - 1 - i) = i by omega]
  · have := dv_lt ls hd
    rw [List.length_reverse, hl, hN, Nat.pow_mul]
    exact this
set_option maxRecDepth 100000 in
set_option maxHeartbeats 6400000 in
theorem toBytes_o {A : Option Addr} {c : Nat} {ls : List Nat} (w : World) (h : Rd .u64 w A c ls) (hx : Ds 18446744073709551616 ls) (hl : ls.length ≤ 1048576) :
    Calls Tryd.prog 82 #[.slice A ls.length c] w (RetR (fun w' v => NBO w.heap.size w' v (dv 18446744073709551616 ls)) w) := by
  have HR := Lib.hid h
  have HX := Lib.hid hx
  obtain ⟨L, hL⟩ : ∃ L, L = ls.length := ⟨_, rfl⟩
  have HL := Lib.hid hL
  rw [← hL] at hl ⊢
  obtain ⟨N, hN⟩ : ∃ N, N = 8 * L := ⟨_, rfl⟩
  have hN8 : N ≤ 8388608 := by omega
  have HN := Lib.hid hN
  have e1 : 8 * (L : Int) = (N : Int) := by omega
  have hmk := mk8 (N : Int) N rfl (by omega)
  have hrow := Row.made (k := .u8) w 5 N
  have hbel := (Below.refl w.heap.size w).alloc (Nat.le_refl _) (.cells (madeCells #[Value.int .u8 0] N) 5)
  clear h hx hL hN
  go_enter Tryd.func82, Tryd.ntmps82
  go_upto_region 2 with (fail)
  generalize w.alloc (.cells (madeCells #[Value.int .u8 0] N) 5) = X at *
  clear hmk e1
  go_wp2_with fail
  go_loopw [12] (fun i wr => ∃ (m : Nat) (zs : List Nat), m ≤ N ∧ i = .int .i64 (m : Int) ∧ Hid (zs.length = N) ∧ Hid (Ds 256 zs) ∧ Hid (∀ j, j < m → zs.getD j 0 = dv 18446744073709551616 ls / 256 ^ (N - 1 - j) % 256) ∧ Row .u8 wr w.heap.size 5 zs ∧ Hid (Below w.heap.size w wr))
    (fun i _ => (N - intOf i).toNat)
  case atStart =>
    exact ⟨0, List.replicate N 0, by omega, rfl, List.length_replicate, Ds.zeros (by omega) _, fun j hj => by omega, hrow, hbel⟩
  case round =>
    clear hrow hbel
    obtain ⟨m, zs, hm, rfl, HZL, HZD, hinv, hrow, hbel⟩ := hrel
    by_cases hlt : (m : Int) < (N : Int)
    · obtain ⟨b, o, rfl, hbb, hcell⟩ := HR.out.at_ (by have := HL.out; have := HN.out; omega)
      obtain ⟨p, hp⟩ : ∃ p : Nat, (N : Int) - 1 - (m : Int) = (p : Int) := ⟨N - 1 - m, by omega⟩
      have hwp : IntKind.i64.wrap ((N : Int) - 1 - (m : Int)) = (p : Int) := by rw [IntWalk.i64_in _ (by omega)]; exact hp
      obtain ⟨q, hq⟩ : ∃ q, q = p / 8 := ⟨_, rfl⟩
      obtain ⟨r, hr⟩ : ∃ r, r = p % 8 := ⟨_, rfl⟩
      obtain ⟨s, hs⟩ : ∃ s, s = 8 * r := ⟨_, rfl⟩
      have e1 : (p : Int) / 8 = (q : Int) := by omega
      have e2 : (p : Int) % 8 = (r : Int) := by omega
      have e3 : (p : Int).tmod 8 = (r : Int) := by rw [Int.tmod_eq_emod_of_nonneg (by omega)]; omega
      have e3' : (p : Int).tdiv 8 = (q : Int) := by rw [Int.tdiv_eq_ediv_of_nonneg (by omega)]; omega
      have e4 : IntKind.i64.wrap ((r : Int) * 8) = (s : Int) := by rw [IntWalk.i64_in _ (by omega)]; omega
      have hqL : (q : Int) < (L : Int) := by have := HN.out; omega
      have hs63 : (s : Int) ≤ 63 := by omega
      have cx := (hbel.out.cell (p := ⟨b, o + q, none⟩) hbb).trans (hcell q (by have := HL.out; omega))
      obtain ⟨x, ex⟩ : ∃ x, x = ls.getD q 0 := ⟨_, rfl⟩
      rw [← ex] at cx
      obtain ⟨y, ey⟩ : ∃ y, y = x / 2 ^ s := ⟨_, rfl⟩
      obtain ⟨u, eu⟩ : ∃ u, u = y % 256 := ⟨_, rfl⟩
      have hbyte : u = dv 18446744073709551616 ls / 256 ^ (N - 1 - m) % 256 := by
        rw [eu, ey, ex, hs, byte_of_limb HX.out q r (by omega), vl_dv, show 8 * q + r = N - 1 - m by omega]
      have vy : (x : Int) / 2 ^ s = (y : Int) := by rw [ey]; simp
      have vb : IntKind.u8.wrap (y : Int) = (u : Int) := by rw [IntKind.wrap_u8']; omega
      have cb := hrow.cell m (by rw [HZL.out]; omega)
      have fb := hrow.frozen m
      have hnext := tob_step HZL.out (by omega) hinv.out hbyte
      have HNX := Lib.hid hnext
      have HU := Lib.hid (show u < 256 by omega)
      have hrow' := Lib.hid hrow
      clear hq hr hs ex ey eu hbyte hnext hinv hrow hp hcell hbb
      go_wp2_with fail
      go_roundw
      case rel =>
        exact ⟨m + 1, zs.set m u, by omega, by go_num, by show (zs.set m u).length = N; rw [List.length_set]; exact HZL.out, HZD.out.set m u HU.out, HNX.out, hrow'.out.set m u, hbel.out.setCell (p := ⟨w.heap.size, m, none⟩) (Nat.le_refl _) _⟩
      case measure => simp [intOf]; omega
    · obtain rfl : m = N := by omega
      have hend := tob_end HX.out (by rw [← HL.out]; exact HN.out) HZL.out hinv.out
      have hrd := hrow.rd0
      have hsc := strip_o _ hrd HZD.out (by rw [HZL.out]; omega)
      have HROW := Lib.hid hrow
      rw [HZL.out] at hsc
      have hcan := sd_can HZD.out
      rw [hend] at hcan
      have HSC := Lib.hid hsc
      have HCAN := Lib.hid hcan
      have HSD := Lib.hid (sd_ds HZD.out)
      clear hend hrd hsc hcan hrow hinv
      go_wp2_with fail
      (with_reducible refine HSC.out.mono ?_)
      rintro e w1 ⟨A1, c1, rfl, hrd1, hw1, hsu⟩
      have HOW := Lib.hid (sub_own HROW.out (by rw [HZL.out]; omega) (by rw [HZL.out]; exact hsu) hrd1 HSD.out)
      rw [hw1]
      clear hw1 hrd1 HSC hsu HROW
      go_wp2_with fail
      go_ret
      exact ⟨_, rfl, ⟨_, HOW.out, HCAN.out⟩, hbel.out⟩
theorem toBytes_c {A : Option Addr} {c : Nat} {ls : List Nat} (w : World) (h : Rd .u64 w A c ls) (hx : Ds 18446744073709551616 ls) (hl : ls.length ≤ 1048576) :
    Calls Tryd.prog 82 #[.slice A ls.length c] w (RetR (fun w' v => ∃ zs, Byt w' v zs ∧ Can 256 zs.reverse (dv 18446744073709551616 ls)) w) := (toBytes_o w h hx hl).mono fun _ _ ⟨v, e, h, hb⟩ => ⟨v, e, h.byt, hb⟩
end Go.Proofs.YteaafnjflghlhaaDoor
