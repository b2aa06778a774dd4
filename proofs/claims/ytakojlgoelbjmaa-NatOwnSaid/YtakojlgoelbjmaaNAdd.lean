/- The contract of package nat's Add. -/
import Derived.Test.YtakojlgoelbjmaaNStrip
import Derived.Test.YtakojlgoelbjmaaRAdd
namespace Go.Proofs.Ytakojlgoelbjmaa
open Go.RowKit

theorem rev_set (zs : List Nat) (p v : Nat) (h : p < zs.length) : (zs.set p v).reverse = zs.reverse.set (zs.length - 1 - p) v := by
  refine List.ext_getElem (by simp) fun i h1 h2 => ?_
  simp at h1 h2
  rw [List.getElem_reverse, List.getElem_set, List.getElem_set, List.getElem_reverse]
  by_cases e : p = zs.length - 1 - i
  · rw [if_pos (by simp; omega), if_pos (by omega)]
  · rw [if_neg (by simp; omega), if_neg (by omega)]
    simp
set_option maxRecDepth 100000 in
set_option maxHeartbeats 6400000 in
theorem add_o {A B : Option Addr} {c d : Nat} {xs ys : List Nat} (w : World) (h : Rd .u8 w A c xs) (h' : Rd .u8 w B d ys) (hx : Ds 256 xs) (hy : Ds 256 ys) (hl : xs.length ≤ 8388608) (hl' : ys.length ≤ 8388608) :
    Calls Try.prog 11 #[.slice A xs.length c, .slice B ys.length d] w (RetR (fun w' v => NBO w.heap.size w' v (dv 256 xs.reverse + dv 256 ys.reverse)) w) := by
  have RX := Lib.hid h
  have RY := Lib.hid h'
  have HX := Lib.hid hx
  have HY := Lib.hid hy
  obtain ⟨L, hL⟩ : ∃ L, L = xs.length := ⟨_, rfl⟩
  obtain ⟨M, hM⟩ : ∃ M, M = ys.length := ⟨_, rfl⟩
  have HL := Lib.hid hL
  have HM := Lib.hid hM
  rw [← hL] at hl ⊢
  rw [← hM] at hl' ⊢
  obtain ⟨N, hN⟩ : ∃ N, N = max L M := ⟨_, rfl⟩
  have hmx : max (L : Int) (M : Int) = (N : Int) := by omega
  have hN8 : N ≤ 8388608 := by omega
  have HN := Lib.hid hN
  have hmk := mk8 ((N : Int) + 1) (N + 1) (by omega) (by omega)
  have hrow := Row.made (k := .u8) w 5 (N + 1)
  have hbel := (Below.refl w.heap.size w).alloc (Nat.le_refl _) (.cells (madeCells #[Value.int .u8 0] (N + 1)) 5)
  clear h h' hx hy hL hM hN
  rcases Nat.lt_or_ge L M with hLM | hLM
  · have e1 : (M : Int) = (N : Int) := by have := HN.out; omega
    have e2 : (L : Int) < (N : Int) := by have := HN.out; omega
    have e3 : (L : Int) ≤ (N : Int) := by omega
    clear hLM
    go_enter Try.func11, Try.ntmps11
    go_upto_region 3 with (fail)
    clear e1 e2 e3
    generalize w.alloc (.cells (madeCells #[Value.int .u8 0] (N + 1)) 5) = X at *
    clear hmk hmx
    go_wp2_with fail
    go_loopw [7, 19] (fun cr i wr => ∃ (k cc : Nat) (zs : List Nat), k ≤ N ∧ cr = .int .i64 (cc : Int) ∧ i = .int .i64 (k : Int) ∧ cc ≤ 1 ∧ Hid (zs.length = N + 1) ∧ Hid (Ds 256 zs) ∧ Hid (SumInv 256 xs.reverse ys.reverse k cc zs.reverse) ∧ Row .u8 wr w.heap.size 5 zs ∧ Hid (Below w.heap.size w wr))
      (fun _ i _ => (N - intOf i).toNat)
    case atStart =>
      exact ⟨0, 0, List.replicate (N + 1) 0, by omega, rfl, rfl, by omega, List.length_replicate, Ds.zeros (by omega) _, by show SumInv _ _ _ _ _ _; simp [SumInv, dv], hrow, hbel⟩
    case round =>
      clear hrow hbel
      obtain ⟨k, cc, zs, hk, rfl, rfl, hcc, HZL, HZD, hinv, hrow, hbel⟩ := hrel
      by_cases hlt : (k : Int) < (N : Int)
      · obtain ⟨x, ex⟩ : ∃ x, x = xs.reverse.getD k 0 := ⟨_, rfl⟩
        obtain ⟨y, ey⟩ : ∃ y, y = ys.reverse.getD k 0 := ⟨_, rfl⟩
        have hx256 : x < 256 := by rw [ex]; exact HX.out.reverse.get (by omega) k
        have hy256 : y < 256 := by rw [ey]; exact HY.out.reverse.get (by omega) k
        have c1 := digit_c wr (RX.out.below hbel.out) HX.out (by have := HL.out; omega) k (by omega)
        have c2 := digit_c wr (RY.out.below hbel.out) HY.out (by have := HM.out; omega) k (by omega)
        rw [← ex, ← HL.out] at c1
        rw [← ey, ← HM.out] at c2
        have C1 := Lib.hid c1
        have C2 := Lib.hid c2
        obtain ⟨s, es⟩ : ∃ s, s = cc + x + y := ⟨_, rfl⟩
        have hxy : (x : Int) + (y : Int) + (cc : Int) = (s : Int) := by omega
        obtain ⟨r, er⟩ : ∃ r, r = s % 256 := ⟨_, rfl⟩
        obtain ⟨q, eq⟩ : ∃ q, q = s / 256 := ⟨_, rfl⟩
        have hr : IntKind.u8.wrap (s : Int) = (r : Int) := by rw [IntKind.wrap_u8']; omega
        have hq1 : (s : Int) / 256 = (q : Int) := by omega
        have hq2 : (s : Int) / 2 ^ 8 = (q : Int) := by omega
        obtain ⟨p, ep⟩ : ∃ p, p = N - k := ⟨_, rfl⟩
        have hp1 : (N : Int) - (k : Int) = (p : Int) := by omega
        have hpN : (p : Int) < (N : Int) + 1 := by omega
        have hnext : SumInv 256 xs.reverse ys.reverse (k + 1) q (zs.set p r).reverse := by
          have hh := sum_step hinv.out (show k < zs.reverse.length by rw [List.length_reverse, HZL.out]; omega)
          rw [← ex, ← ey, ← es, ← er, ← eq] at hh
          rw [rev_set _ _ _ (by rw [HZL.out]; omega), HZL.out, show N + 1 - 1 - p = k by omega]
          exact hh
        have HNX := Lib.hid hnext
        have hq : q ≤ 1 := by omega
        have HR := Lib.hid (show r < 256 by omega)
        have cb := hrow.cell p (by rw [HZL.out]; omega)
        have fb := hrow.frozen p
        have hrow' := Lib.hid hrow
        clear c1 c2 ex ey es er eq ep hnext hrow hinv
        go_wp2_with fail
        (with_reducible refine C1.out.mono ?_)
        rintro e w1 ⟨rfl, hw1⟩
        rw [hw1]
        clear hw1
        go_wp2_with fail
        (with_reducible refine C2.out.mono ?_)
        rintro e w1 ⟨rfl, hw1⟩
        rw [hw1]
        clear hw1 C1 C2
        go_wp2_with fail
        go_roundw
        case rel =>
          exact ⟨k + 1, q, zs.set p r, by omega, by go_num, by go_num, hq, by show (zs.set p r).length = N + 1; rw [List.length_set]; exact HZL.out, HZD.out.set p r HR.out, HNX.out, hrow'.out.set p r, hbel.out.setCell (p := ⟨w.heap.size, p, none⟩) (Nat.le_refl _) _⟩
        case measure => simp [intOf]; omega
      · obtain rfl : k = N := by omega
        have hst := sum_step hinv.out (show k < zs.reverse.length by rw [List.length_reverse, HZL.out]; omega)
        rw [show xs.reverse.getD k 0 = 0 by rw [List.getD_eq_getElem?_getD, List.getElem?_eq_none (by rw [List.length_reverse]; have := HL.out; have := HN.out; omega)]; rfl,
          show ys.reverse.getD k 0 = 0 by rw [List.getD_eq_getElem?_getD, List.getElem?_eq_none (by rw [List.length_reverse]; have := HM.out; have := HN.out; omega)]; rfl] at hst
        rw [show (cc + 0 + 0) / 256 = 0 by omega, show (cc + 0 + 0) % 256 = cc by omega] at hst
        have hend := sum_end (by omega) hst (by rw [List.length_set, List.length_reverse]; exact HZL.out) HX.out.reverse HY.out.reverse (by rw [List.length_reverse]; have := HL.out; have := HN.out; omega) (by rw [List.length_reverse]; have := HM.out; have := HN.out; omega)
        have hre : (zs.set 0 cc).reverse = zs.reverse.set k cc := by
          rw [rev_set _ _ _ (by rw [HZL.out]; omega), HZL.out, show k + 1 - 1 - 0 = k by omega]
        rw [← hre] at hend
        have cb := hrow.cell 0 (by rw [HZL.out]; omega)
        have fb := hrow.frozen 0
        have hr : IntKind.u8.wrap (cc : Int) = (cc : Int) := by rw [IntKind.wrap_u8']; omega
        have hzs : Ds 256 (zs.set 0 cc) := HZD.out.set 0 cc (by omega)
        have hrow2 := hrow.set 0 cc
        have hbel2 := hbel.out.setCell (p := ⟨w.heap.size, 0, none⟩) (Nat.le_refl _) (.int .u8 (cc : Int))
        have hlen : (zs.set 0 cc).length = k + 1 := by rw [List.length_set]; exact HZL.out
        have hrd := hrow2.rd0
        have hsc := strip_o _ hrd hzs (by rw [hlen]; omega)
        have HROW := Lib.hid hrow2
        have HLEN := Lib.hid hlen
        rw [hlen] at hsc
        have hcan := sd_can hzs
        rw [hend] at hcan
        have HSC := Lib.hid hsc
        have HCAN := Lib.hid hcan
        have HSD := Lib.hid (sd_ds hzs)
        have HB2 := Lib.hid hbel2
        have hk1 : (0 : Int) < (k : Int) + 1 := by omega
        clear hst hend hre hzs hrow2 hlen hrd hsc hcan hbel2 hrow hinv hbel
        go_wp2_with fail
        (with_reducible refine HSC.out.mono ?_)
        rintro e w1 ⟨A1, c1, rfl, hrd1, hw1, hsu⟩
        have HOW := Lib.hid (sub_own HROW.out (by rw [HLEN.out]; omega) (by rw [HLEN.out]; exact hsu) hrd1 HSD.out)
        rw [hw1]
        clear hw1 hrd1 HSC hsu HROW HLEN
        go_wp2_with fail
        go_ret
        exact ⟨_, rfl, ⟨_, HOW.out, HCAN.out⟩, HB2.out⟩
  · have e1 : (L : Int) = (N : Int) := by have := HN.out; omega
    have e2 : ¬ ((N : Int) < (M : Int)) := by have := HN.out; omega
    have e3 : (M : Int) ≤ (N : Int) := by omega
    clear hLM
    go_enter Try.func11, Try.ntmps11
    go_upto_region 3 with (fail)
    clear e1 e2 e3
    generalize w.alloc (.cells (madeCells #[Value.int .u8 0] (N + 1)) 5) = X at *
    clear hmk hmx
    go_wp2_with fail
    go_loopw [7, 19] (fun cr i wr => ∃ (k cc : Nat) (zs : List Nat), k ≤ N ∧ cr = .int .i64 (cc : Int) ∧ i = .int .i64 (k : Int) ∧ cc ≤ 1 ∧ Hid (zs.length = N + 1) ∧ Hid (Ds 256 zs) ∧ Hid (SumInv 256 xs.reverse ys.reverse k cc zs.reverse) ∧ Row .u8 wr w.heap.size 5 zs ∧ Hid (Below w.heap.size w wr))
      (fun _ i _ => (N - intOf i).toNat)
    case atStart =>
      exact ⟨0, 0, List.replicate (N + 1) 0, by omega, rfl, rfl, by omega, List.length_replicate, Ds.zeros (by omega) _, by show SumInv _ _ _ _ _ _; simp [SumInv, dv], hrow, hbel⟩
    case round =>
      clear hrow hbel
      obtain ⟨k, cc, zs, hk, rfl, rfl, hcc, HZL, HZD, hinv, hrow, hbel⟩ := hrel
      by_cases hlt : (k : Int) < (N : Int)
      · obtain ⟨x, ex⟩ : ∃ x, x = xs.reverse.getD k 0 := ⟨_, rfl⟩
        obtain ⟨y, ey⟩ : ∃ y, y = ys.reverse.getD k 0 := ⟨_, rfl⟩
        have hx256 : x < 256 := by rw [ex]; exact HX.out.reverse.get (by omega) k
        have hy256 : y < 256 := by rw [ey]; exact HY.out.reverse.get (by omega) k
        have c1 := digit_c wr (RX.out.below hbel.out) HX.out (by have := HL.out; omega) k (by omega)
        have c2 := digit_c wr (RY.out.below hbel.out) HY.out (by have := HM.out; omega) k (by omega)
        rw [← ex, ← HL.out] at c1
        rw [← ey, ← HM.out] at c2
        have C1 := Lib.hid c1
        have C2 := Lib.hid c2
        obtain ⟨s, es⟩ : ∃ s, s = cc + x + y := ⟨_, rfl⟩
        have hxy : (x : Int) + (y : Int) + (cc : Int) = (s : Int) := by omega
        obtain ⟨r, er⟩ : ∃ r, r = s % 256 := ⟨_, rfl⟩
        obtain ⟨q, eq⟩ : ∃ q, q = s / 256 := ⟨_, rfl⟩
        have hr : IntKind.u8.wrap (s : Int) = (r : Int) := by rw [IntKind.wrap_u8']; omega
        have hq1 : (s : Int) / 256 = (q : Int) := by omega
        have hq2 : (s : Int) / 2 ^ 8 = (q : Int) := by omega
        obtain ⟨p, ep⟩ : ∃ p, p = N - k := ⟨_, rfl⟩
        have hp1 : (N : Int) - (k : Int) = (p : Int) := by omega
        have hpN : (p : Int) < (N : Int) + 1 := by omega
        have hnext : SumInv 256 xs.reverse ys.reverse (k + 1) q (zs.set p r).reverse := by
          have hh := sum_step hinv.out (show k < zs.reverse.length by rw [List.length_reverse, HZL.out]; omega)
          rw [← ex, ← ey, ← es, ← er, ← eq] at hh
          rw [rev_set _ _ _ (by rw [HZL.out]; omega), HZL.out, show N + 1 - 1 - p = k by omega]
          exact hh
        have HNX := Lib.hid hnext
        have hq : q ≤ 1 := by omega
        have HR := Lib.hid (show r < 256 by omega)
        have cb := hrow.cell p (by rw [HZL.out]; omega)
        have fb := hrow.frozen p
        have hrow' := Lib.hid hrow
        clear c1 c2 ex ey es er eq ep hnext hrow hinv
        go_wp2_with fail
        (with_reducible refine C1.out.mono ?_)
        rintro e w1 ⟨rfl, hw1⟩
        rw [hw1]
        clear hw1
        go_wp2_with fail
        (with_reducible refine C2.out.mono ?_)
        rintro e w1 ⟨rfl, hw1⟩
        rw [hw1]
        clear hw1 C1 C2
        go_wp2_with fail
        go_roundw
        case rel =>
          exact ⟨k + 1, q, zs.set p r, by omega, by go_num, by go_num, hq, by show (zs.set p r).length = N + 1; rw [List.length_set]; exact HZL.out, HZD.out.set p r HR.out, HNX.out, hrow'.out.set p r, hbel.out.setCell (p := ⟨w.heap.size, p, none⟩) (Nat.le_refl _) _⟩
        case measure => simp [intOf]; omega
      · obtain rfl : k = N := by omega
        have hst := sum_step hinv.out (show k < zs.reverse.length by rw [List.length_reverse, HZL.out]; omega)
        rw [show xs.reverse.getD k 0 = 0 by rw [List.getD_eq_getElem?_getD, List.getElem?_eq_none (by rw [List.length_reverse]; have := HL.out; have := HN.out; omega)]; rfl,
          show ys.reverse.getD k 0 = 0 by rw [List.getD_eq_getElem?_getD, List.getElem?_eq_none (by rw [List.length_reverse]; have := HM.out; have := HN.out; omega)]; rfl] at hst
        rw [show (cc + 0 + 0) / 256 = 0 by omega, show (cc + 0 + 0) % 256 = cc by omega] at hst
        have hend := sum_end (by omega) hst (by rw [List.length_set, List.length_reverse]; exact HZL.out) HX.out.reverse HY.out.reverse (by rw [List.length_reverse]; have := HL.out; have := HN.out; omega) (by rw [List.length_reverse]; have := HM.out; have := HN.out; omega)
        have hre : (zs.set 0 cc).reverse = zs.reverse.set k cc := by
          rw [rev_set _ _ _ (by rw [HZL.out]; omega), HZL.out, show k + 1 - 1 - 0 = k by omega]
        rw [← hre] at hend
        have cb := hrow.cell 0 (by rw [HZL.out]; omega)
        have fb := hrow.frozen 0
        have hr : IntKind.u8.wrap (cc : Int) = (cc : Int) := by rw [IntKind.wrap_u8']; omega
        have hzs : Ds 256 (zs.set 0 cc) := HZD.out.set 0 cc (by omega)
        have hrow2 := hrow.set 0 cc
        have hbel2 := hbel.out.setCell (p := ⟨w.heap.size, 0, none⟩) (Nat.le_refl _) (.int .u8 (cc : Int))
        have hlen : (zs.set 0 cc).length = k + 1 := by rw [List.length_set]; exact HZL.out
        have hrd := hrow2.rd0
        have hsc := strip_o _ hrd hzs (by rw [hlen]; omega)
        have HROW := Lib.hid hrow2
        have HLEN := Lib.hid hlen
        rw [hlen] at hsc
        have hcan := sd_can hzs
        rw [hend] at hcan
        have HSC := Lib.hid hsc
        have HCAN := Lib.hid hcan
        have HSD := Lib.hid (sd_ds hzs)
        have HB2 := Lib.hid hbel2
        have hk1 : (0 : Int) < (k : Int) + 1 := by omega
        clear hst hend hre hzs hrow2 hlen hrd hsc hcan hbel2 hrow hinv hbel
        go_wp2_with fail
        (with_reducible refine HSC.out.mono ?_)
        rintro e w1 ⟨A1, c1, rfl, hrd1, hw1, hsu⟩
        have HOW := Lib.hid (sub_own HROW.out (by rw [HLEN.out]; omega) (by rw [HLEN.out]; exact hsu) hrd1 HSD.out)
        rw [hw1]
        clear hw1 hrd1 HSC hsu HROW HLEN
        go_wp2_with fail
        go_ret
        exact ⟨_, rfl, ⟨_, HOW.out, HCAN.out⟩, HB2.out⟩
theorem add_n {A B : Option Addr} {c d : Nat} {xs ys : List Nat} (w : World) (h : Rd .u8 w A c xs) (h' : Rd .u8 w B d ys) (hx : Ds 256 xs) (hy : Ds 256 ys) (hl : xs.length ≤ 8388608) (hl' : ys.length ≤ 8388608) :
    Calls Try.prog 11 #[.slice A xs.length c, .slice B ys.length d] w (RetR (fun w' v => ∃ zs, Byt w' v zs ∧ Can 256 zs.reverse (dv 256 xs.reverse + dv 256 ys.reverse)) w) := (add_o w h h' hx hy hl hl').mono fun _ _ ⟨v, e, h, hb⟩ => ⟨v, e, h.byt, hb⟩
end Go.Proofs.Ytakojlgoelbjmaa
