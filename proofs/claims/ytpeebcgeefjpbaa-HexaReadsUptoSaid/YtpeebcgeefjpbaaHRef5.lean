/- The contracts of the reference's Address and Hash: layer 4. -/
import Derived.Test.YtpeebcgeefjpbaaHAddr
import Derived.Test.YtpeebcgeefjpbaaHSame
namespace Go.Proofs.Ytpeebcgeefjpbaa
open Go.RowKit

theorem bres_ok (s : ByteArray) (h : (bres s).2.1 = 0) : (bres s).2.2 = 0 := by
  obtain ⟨-, h2, h3⟩ := bytes_same s
  rw [h] at h2
  unfold rres rresQ at h2 h3
  split at h2
  · simp at h2
  · split at h2
    · simp at h2
    · rename_i h4 h5
      rw [if_neg h4, if_neg h5] at h3
      simp at h3; omega
theorem set_step {zs xs : List Nat} {m b : Nat} (hm : m < zs.length) (h : ∀ j, j < m → zs.getD j 0 = xs.getD j 0) (hb : b = xs.getD m 0) : ∀ j, j < m + 1 → (zs.set m b).getD j 0 = xs.getD j 0 := fun j hj => by
  by_cases e : m = j
  · subst e; rw [getD_set_self hm]; exact hb
  · rw [getD_set_ne e]; exact h j (by omega)

set_option maxRecDepth 100000 in
set_option maxHeartbeats 6400000 in
theorem raddress_h (s : ByteArray) (w : World) (hs : s.size ≤ 1073741824) : Calls Try.prog 12 #[.string s] w fun e w' =>
    e = .returned (.tuple #[BV (fbytes 20 s), .agg #[.int .i64 ((fres 20 s).1 : Nat), .int .i64 ((fres 20 s).2 : Nat)]]) ∧ Below w.heap.size w w' := by
  have hok := bres_ok s
  have k1 := fun w : World => rbytes_h s w hs
  obtain ⟨q, hqq⟩ : ∃ q, q = bres s := ⟨_, rfl⟩
  have hfr : fres 20 s = if q.2.1 = 0 then (if q.1.length = 20 then (0, 0) else (6, 0)) else (q.2.1, q.2.2) := by unfold fres; rw [← hqq]
  have hfb : fbytes 20 s = if q.2.1 = 0 ∧ q.1.length = 20 then q.1 else List.replicate 20 0 := by unfold fbytes; rw [← hqq]
  rw [← hqq] at k1 hok
  obtain ⟨F, hF⟩ : ∃ F, F = fres 20 s := ⟨_, rfl⟩
  obtain ⟨Y, hY⟩ : ∃ Y, Y = fbytes 20 s := ⟨_, rfl⟩
  rw [← hF, ← hY]
  rw [← hF] at hfr
  rw [← hY] at hfb
  have K1 := Lib.hid k1
  have HFR := Lib.hid hfr
  have HFB := Lib.hid hfb
  have HOK := Lib.hid hok
  clear k1 hF hY hfr hfb hok hqq
  go_enter Try.func12, Try.ntmps12
  go_upto_region 2 with (fail)
  have r0 : Row .u8 (w.alloc (.cells #[.int .u8 0, .int .u8 0, .int .u8 0, .int .u8 0, .int .u8 0, .int .u8 0, .int .u8 0, .int .u8 0, .int .u8 0, .int .u8 0, .int .u8 0, .int .u8 0, .int .u8 0, .int .u8 0, .int .u8 0, .int .u8 0, .int .u8 0, .int .u8 0, .int .u8 0, .int .u8 0] 34)) w.heap.size 34 (List.replicate 20 0) := Row.new (k := .u8) w 34 (List.replicate 20 0)
  have r1 : Row .u8 (((w.alloc (.cells #[.int .u8 0, .int .u8 0, .int .u8 0, .int .u8 0, .int .u8 0, .int .u8 0, .int .u8 0, .int .u8 0, .int .u8 0, .int .u8 0, .int .u8 0, .int .u8 0, .int .u8 0, .int .u8 0, .int .u8 0, .int .u8 0, .int .u8 0, .int .u8 0, .int .u8 0, .int .u8 0] 34)).alloc (.cells #[.int .i64 0, .int .i64 0] 25)).alloc (.cells #[.int .u8 0, .int .u8 0, .int .u8 0, .int .u8 0, .int .u8 0, .int .u8 0, .int .u8 0, .int .u8 0, .int .u8 0, .int .u8 0, .int .u8 0, .int .u8 0, .int .u8 0, .int .u8 0, .int .u8 0, .int .u8 0, .int .u8 0, .int .u8 0, .int .u8 0, .int .u8 0] 34)) w.heap.size 34 (List.replicate 20 0) := (r0.alloc (.cells #[.int .i64 0, .int .i64 0] 25)).alloc (.cells #[.int .u8 0, .int .u8 0, .int .u8 0, .int .u8 0, .int .u8 0, .int .u8 0, .int .u8 0, .int .u8 0, .int .u8 0, .int .u8 0, .int .u8 0, .int .u8 0, .int .u8 0, .int .u8 0, .int .u8 0, .int .u8 0, .int .u8 0, .int .u8 0, .int .u8 0, .int .u8 0] 34)
  have hn2 : ((w.alloc (.cells #[.int .u8 0, .int .u8 0, .int .u8 0, .int .u8 0, .int .u8 0, .int .u8 0, .int .u8 0, .int .u8 0, .int .u8 0, .int .u8 0, .int .u8 0, .int .u8 0, .int .u8 0, .int .u8 0, .int .u8 0, .int .u8 0, .int .u8 0, .int .u8 0, .int .u8 0, .int .u8 0] 34)).alloc (.cells #[.int .i64 0, .int .i64 0] 25)).heap.size = w.heap.size + 1 + 1 := by simp
  have r2 : Row .u8 (((w.alloc (.cells #[.int .u8 0, .int .u8 0, .int .u8 0, .int .u8 0, .int .u8 0, .int .u8 0, .int .u8 0, .int .u8 0, .int .u8 0, .int .u8 0, .int .u8 0, .int .u8 0, .int .u8 0, .int .u8 0, .int .u8 0, .int .u8 0, .int .u8 0, .int .u8 0, .int .u8 0, .int .u8 0] 34)).alloc (.cells #[.int .i64 0, .int .i64 0] 25)).alloc (.cells #[.int .u8 0, .int .u8 0, .int .u8 0, .int .u8 0, .int .u8 0, .int .u8 0, .int .u8 0, .int .u8 0, .int .u8 0, .int .u8 0, .int .u8 0, .int .u8 0, .int .u8 0, .int .u8 0, .int .u8 0, .int .u8 0, .int .u8 0, .int .u8 0, .int .u8 0, .int .u8 0] 34)) (w.heap.size + 1 + 1) 34 (List.replicate 20 0) := by
    have h := Row.new (k := .u8) ((w.alloc (.cells #[.int .u8 0, .int .u8 0, .int .u8 0, .int .u8 0, .int .u8 0, .int .u8 0, .int .u8 0, .int .u8 0, .int .u8 0, .int .u8 0, .int .u8 0, .int .u8 0, .int .u8 0, .int .u8 0, .int .u8 0, .int .u8 0, .int .u8 0, .int .u8 0, .int .u8 0, .int .u8 0] 34)).alloc (.cells #[.int .i64 0, .int .i64 0] 25)) 34 (List.replicate 20 0)
    rw [hn2] at h
    exact h
  have f1 : (((w.alloc (.cells #[.int .u8 0, .int .u8 0, .int .u8 0, .int .u8 0, .int .u8 0, .int .u8 0, .int .u8 0, .int .u8 0, .int .u8 0, .int .u8 0, .int .u8 0, .int .u8 0, .int .u8 0, .int .u8 0, .int .u8 0, .int .u8 0, .int .u8 0, .int .u8 0, .int .u8 0, .int .u8 0] 34)).alloc (.cells #[.int .i64 0, .int .i64 0] 25)).alloc (.cells #[.int .u8 0, .int .u8 0, .int .u8 0, .int .u8 0, .int .u8 0, .int .u8 0, .int .u8 0, .int .u8 0, .int .u8 0, .int .u8 0, .int .u8 0, .int .u8 0, .int .u8 0, .int .u8 0, .int .u8 0, .int .u8 0, .int .u8 0, .int .u8 0, .int .u8 0, .int .u8 0] 34)).heap[w.heap.size + 1]? = some (.cells #[.int .i64 0, .int .i64 0] 25 (0, 0)) := by
    rw [Below.heap_alloc _ _ _ (by simp)]
    have := heap_alloc_new (w.alloc (.cells #[.int .u8 0, .int .u8 0, .int .u8 0, .int .u8 0, .int .u8 0, .int .u8 0, .int .u8 0, .int .u8 0, .int .u8 0, .int .u8 0, .int .u8 0, .int .u8 0, .int .u8 0, .int .u8 0, .int .u8 0, .int .u8 0, .int .u8 0, .int .u8 0, .int .u8 0, .int .u8 0] 34)) (.cells #[.int .i64 0, .int .i64 0] 25)
    simpa using this
  have b1 := (((Below.refl w.heap.size w).alloc (Nat.le_refl _) (.cells #[.int .u8 0, .int .u8 0, .int .u8 0, .int .u8 0, .int .u8 0, .int .u8 0, .int .u8 0, .int .u8 0, .int .u8 0, .int .u8 0, .int .u8 0, .int .u8 0, .int .u8 0, .int .u8 0, .int .u8 0, .int .u8 0, .int .u8 0, .int .u8 0, .int .u8 0, .int .u8 0] 34)).alloc (by simp) (.cells #[.int .i64 0, .int .i64 0] 25)).alloc (by simp; omega) (.cells #[.int .u8 0, .int .u8 0, .int .u8 0, .int .u8 0, .int .u8 0, .int .u8 0, .int .u8 0, .int .u8 0, .int .u8 0, .int .u8 0, .int .u8 0, .int .u8 0, .int .u8 0, .int .u8 0, .int .u8 0, .int .u8 0, .int .u8 0, .int .u8 0, .int .u8 0, .int .u8 0] 34)
  generalize ((w.alloc (.cells #[.int .u8 0, .int .u8 0, .int .u8 0, .int .u8 0, .int .u8 0, .int .u8 0, .int .u8 0, .int .u8 0, .int .u8 0, .int .u8 0, .int .u8 0, .int .u8 0, .int .u8 0, .int .u8 0, .int .u8 0, .int .u8 0, .int .u8 0, .int .u8 0, .int .u8 0, .int .u8 0] 34)).alloc (.cells #[.int .i64 0, .int .i64 0] 25)).alloc (.cells #[.int .u8 0, .int .u8 0, .int .u8 0, .int .u8 0, .int .u8 0, .int .u8 0, .int .u8 0, .int .u8 0, .int .u8 0, .int .u8 0, .int .u8 0, .int .u8 0, .int .u8 0, .int .u8 0, .int .u8 0, .int .u8 0, .int .u8 0, .int .u8 0, .int .u8 0, .int .u8 0] 34) = X at *
  have C1 := Lib.hid (K1.out X)
  have R1 := Lib.hid r1
  have R2 := Lib.hid r2
  have HF1 := Lib.hid f1
  have B1 := Lib.hid b1
  have hXs : w.heap.size + 3 ≤ X.heap.size := r2.lt
  clear r0 r1 r2 f1 b1 hn2 K1
  go_wp2_with fail
  (with_reducible refine C1.out.mono ?_)
  rintro e w1 ⟨v, rfl, hacc, hb⟩
  have r3 := R1.out.below hb (by omega)
  have y3 := R2.out.below hb (by omega)
  have f3 := (hb.block (w.heap.size + 1) (by omega)).trans HF1.out
  have B2 := Lib.hid (B1.out.trans (hb.mono (by omega)))
  have hs1 : w.heap.size + 3 ≤ w1.heap.size := Nat.le_trans hXs hb.size
  obtain ⟨A, c, rfl⟩ := hacc.form
  obtain ⟨L, hL⟩ : ∃ L, L = q.1.length := ⟨_, rfl⟩
  rw [← hL]
  obtain ⟨y, hy⟩ : ∃ y, y = q.2.1 := ⟨_, rfl⟩
  obtain ⟨z, hz⟩ : ∃ z, z = q.2.2 := ⟨_, rfl⟩
  rw [← hy, ← hz]
  have HL := Lib.hid hL
  have HYY := Lib.hid hy
  have HZ := Lib.hid hz
  have hz0 : y = 0 → z = 0 := fun h => by rw [hz]; exact HOK.out (by rw [← hy]; exact h)
  have HZ0 := Lib.hid hz0
  have v4 := heap_alloc_new w1 (.cells #[.int .i64 (y : Nat), .int .i64 (z : Nat)] 25)
  have V4 := Lib.hid v4
  have R4 := Lib.hid (r3.alloc (.cells #[.int .i64 (y : Nat), .int .i64 (z : Nat)] 25))
  have Y4 := Lib.hid (y3.alloc (.cells #[.int .i64 (y : Nat), .int .i64 (z : Nat)] 25))
  have F4 := Lib.hid ((Below.heap_alloc w1 (.cells #[.int .i64 (y : Nat), .int .i64 (z : Nat)] 25) (w.heap.size + 1) (by omega)).trans f3)
  have HRD := Lib.hid (hacc.rd.alloc (.cells #[.int .i64 (y : Nat), .int .i64 (z : Nat)] 25))
  have B4 := Lib.hid (B2.out.alloc (by omega) (.cells #[.int .i64 (y : Nat), .int .i64 (z : Nat)] 25))
  obtain ⟨d0, d1, g0, g1⟩ := two_cells v4
  have HLZ : Hid ((List.replicate 20 0).length = 20) := by show _ = _; simp
  have hS4 : (w1.alloc (.cells #[.int .i64 (y : Nat), .int .i64 (z : Nat)] 25)).heap.size = w1.heap.size + 1 := by simp
  have HS4 := Lib.hid hS4
  have hown : ∀ k, (Value.slice A q.1.length c).ownBlock = some k → w.heap.size + 3 ≤ k := fun k hk => Nat.le_trans hXs (hacc.own k hk)
  clear C1 R1 R2 HF1 B1 hacc hb r3 y3 f3 B2 v4 hXs hL hy hz hz0 hS4
  by_cases hy0 : y = 0
  · have hy1 : ((y : Int) != 0) = false := by rw [hy0]; rfl
    have HY0 := Lib.hid hy0
    clear hy0
    by_cases hLN : L = 20
    · have e1 : F = (y, z) := by rw [HFR.out, if_pos (by rw [← HYY.out]; exact HY0.out), if_pos (by rw [← HL.out]; exact hLN), HY0.out, HZ0.out HY0.out]
      have e2 : Y = q.1 := by rw [HFB.out, if_pos ⟨by rw [← HYY.out]; exact HY0.out, by rw [← HL.out]; exact hLN⟩]
      have E1 := Lib.hid e1
      have E2 := Lib.hid e2
      have hne : ((L : Int) != 20) = false := by rw [hLN]; rfl
      have hLN' : (L : Int) = 20 := by omega
      have HLN := Lib.hid hLN
      obtain ⟨b, o, rfl, hbb, hcell⟩ := HRD.out.at_ (by have := HL.out; omega)
      have HCELL := Lib.hid hcell
      have hb3 : w.heap.size + 3 ≤ b := hown b rfl
      clear e1 e2 hcell hLN
      have hL0 : (L : Int) ≤ 20 := by omega
      clear hLN'
      generalize hW4 : w1.alloc (.cells #[.int .i64 (y : Nat), .int .i64 (z : Nat)] 25) = W4' at *
      have hs4 : w1.heap.size < W4'.heap.size := by have := HS4.out; omega
      clear HS4
      go_wp2_with fail
      go_loopw [7] (fun i wr => ∃ (m : Nat) (zs : List Nat), i = .int .i64 (m : Int) ∧ m ≤ 20 ∧ Hid (zs.length = 20) ∧ Hid (∀ j, j < m → zs.getD j 0 = q.1.getD j 0) ∧ Hid (Row .u8 wr (w.heap.size + 1 + 1) 34 zs) ∧ Hid (Row .u8 wr w.heap.size 34 (List.replicate 20 0)) ∧ Hid (wr.heap[w.heap.size + 1]? = some (.cells #[.int .i64 0, .int .i64 0] 25 (0, 0))) ∧ Hid (wr.heap[w1.heap.size]? = some (.cells #[.int .i64 (y : Nat), .int .i64 (z : Nat)] 25 (0, 0))) ∧ Hid (Below w.heap.size w wr) ∧ Hid (∀ j, j < L → wr.cell? ⟨b, o + j, none⟩ = some (.int .u8 (q.1.getD j 0 : Nat))))
        (fun i _ => 20 - (intOf i).toNat)
      case atStart => exact ⟨0, List.replicate 20 0, rfl, by omega, HLZ.out, fun j hj => by omega, Y4.out, R4.out, F4.out, V4.out, B4.out, fun j hj => HCELL.out j (by have := HL.out; omega)⟩
      case round =>
        clear R4 F4 V4 B4 HCELL HRD Y4
        obtain ⟨m, zs, rfl, hm, hzl, hzj, hrow, hr0, hf0, hv0, hbel, hcl⟩ := hrel
        by_cases hlt : (m : Int) < 20
        · have hmL : (m : Int) < (L : Int) := by have := HLN.out; omega
          have cx := hcl.out m (by omega)
          obtain ⟨x, ex⟩ : ∃ x, x = q.1.getD m 0 := ⟨_, rfl⟩
          rw [← ex] at cx
          have cz := hrow.out.cell m (by rw [hzl.out]; omega)
          have fz := hrow.out.frozen m
          have HN := Lib.hid (set_step (b := x) (by rw [hzl.out]; omega) hzj.out ex)
          have hrow' := Lib.hid (hrow.out.set m x)
          have hr' := Lib.hid (hr0.out.far (p := ⟨w.heap.size + 1 + 1, m, none⟩) (by show w.heap.size ≠ w.heap.size + 1 + 1; omega) (.int .u8 (x : Int)))
          have hf' := Lib.hid ((Below.heap_setCell wr ⟨w.heap.size + 1 + 1, m, none⟩ (.int .u8 (x : Int)) (w.heap.size + 1) (by show w.heap.size + 1 ≠ w.heap.size + 1 + 1; omega)).trans hf0.out)
          have hv' := Lib.hid ((Below.heap_setCell wr ⟨w.heap.size + 1 + 1, m, none⟩ (.int .u8 (x : Int)) w1.heap.size (by show w1.heap.size ≠ w.heap.size + 1 + 1; omega)).trans hv0.out)
          have hb' := Lib.hid (hbel.out.setCell (p := ⟨w.heap.size + 1 + 1, m, none⟩) (by show w.heap.size ≤ w.heap.size + 1 + 1; omega) (.int .u8 (x : Int)))
          have hc' : Hid (∀ j, j < L → (wr.setCell ⟨w.heap.size + 1 + 1, m, none⟩ (.int .u8 (x : Int))).cell? ⟨b, o + j, none⟩ = some (.int .u8 (q.1.getD j 0 : Nat))) := fun j hj =>
            (World.cell?_of_block (a := ⟨b, o + j, none⟩) (Below.heap_setCell wr ⟨w.heap.size + 1 + 1, m, none⟩ (.int .u8 (x : Int)) b (by show b ≠ w.heap.size + 1 + 1; omega))).trans (hcl.out j hj)
          have hzl' : Hid ((zs.set m x).length = 20) := by show _ = _; rw [List.length_set]; exact hzl.out
          clear hrow hr0 hf0 hv0 hbel hcl hzj hzl ex
          go_wp2_with fail
          go_roundw
          case rel => exact ⟨m + 1, zs.set m x, by go_num, by omega, hzl'.out, HN.out, hrow'.out, hr'.out, hf'.out, hv'.out, hb'.out, hc'.out⟩
          case measure => simp [intOf]; omega
        · obtain rfl : m = 20 := by omega
          have hzq : zs = q.1 := list_ext (by rw [hzl.out, ← HL.out, HLN.out]) fun i hi => hzj.out i (by rw [hzl.out] at hi; exact hi)
          have R4 := Lib.hid hr0.out
          have Y4 := Lib.hid hrow.out
          have F4 := Lib.hid hf0.out
          have V4 := Lib.hid hv0.out
          have B4 := Lib.hid hbel.out
          have HZQ := Lib.hid hzq
          clear hr0 hrow hf0 hv0 hbel hcl hzj hzq
          go_wp2_with fail
          have r5 : Row .u8 wr.drew w.heap.size 34 (List.replicate 20 0) := R4.out
          have y5 : Row .u8 wr.drew (w.heap.size + 1 + 1) 34 zs := Y4.out
          have f5 : wr.drew.heap[w.heap.size + 1]? = some (.cells #[.int .i64 0, .int .i64 0] 25 (0, 0)) := F4.out
          have v5 : wr.drew.heap[w1.heap.size]? = some (.cells #[.int .i64 (y : Nat), .int .i64 (z : Nat)] 25 (0, 0)) := V4.out
          have f6 : (wr.drew.setRow w.heap.size (Cs8 zs)).heap[w.heap.size + 1]? = some (.cells #[.int .i64 0, .int .i64 0] 25 (0, 0)) := (setRow_other _ _ _ _ (by omega)).trans f5
          have v6 : (wr.drew.setRow w.heap.size (Cs8 zs)).heap[w1.heap.size]? = some (.cells #[.int .i64 (y : Nat), .int .i64 (z : Nat)] 25 (0, 0)) := (setRow_other _ _ _ _ (by omega)).trans v5
          have r7 : Row .u8 ((wr.drew.setRow w.heap.size (Cs8 zs)).setRow (w.heap.size + 1) #[.int .i64 (y : Nat), .int .i64 (z : Nat)]) w.heap.size 34 zs := (setRow_other _ _ _ _ (by omega)).trans (r5.toSet zs)
          have f7 : ((wr.drew.setRow w.heap.size (Cs8 zs)).setRow (w.heap.size + 1) #[.int .i64 (y : Nat), .int .i64 (z : Nat)]).heap[w.heap.size + 1]? = some (.cells #[.int .i64 (y : Nat), .int .i64 (z : Nat)] 25 (0, 0)) := setRow_heap _ _ _ #[.int .i64 (y : Nat), .int .i64 (z : Nat)] 25 (0, 0) f6
          have B7 := below_setRow (below_setRow B4.out.drew (Nat.le_refl w.heap.size) (Cs8 zs)) (show w.heap.size ≤ w.heap.size + 1 by omega) #[.int .i64 (y : Nat), .int .i64 (z : Nat)]
          have R5 := Lib.hid r5
          have Y5 := Lib.hid y5
          have V5 := Lib.hid v5
          have F6 := Lib.hid f6
          have V6 := Lib.hid v6
          have R7 := Lib.hid r7
          have F7 := Lib.hid f7
          have HB7 := Lib.hid B7
          clear r5 y5 f5 v5 f6 v6 r7 f7 B7 V4 R4 F4 Y4 B4
          refine wp_region_any (by kernel_rfl) ?_
          change wpAny _ _ _ _ _ _ _ (World.drew _)
          refine wpAny_ready (rs := [0, 1]) (by kernel_rfl) (by simp) ?_
          refine (AllReady.cons rfl (fun K hK => ?_) (AllReady.cons rfl (fun K hK => ?_) AllReady.nil))
          · rw [if_pos (wanted_none rfl)]
            refine wp_load_row 34 (.tmp 4) rfl (w.heap.size + 1 + 1) (by go_simp) 34 (Cs8 zs) (0, 0) _ Y5.out Try.underlying34 rfl (by rw [infoAddress, cs8_size, hzl.out]) ?_
            refine hK _ _ ?_
            clear hK K
            refine wpAny_ready (rs := [1, 2]) (by kernel_rfl) (by simp) ?_
            refine (AllReady.cons rfl (fun K hK => ?_) (AllReady.cons rfl (fun K hK => ?_) AllReady.nil))
            · rw [if_pos (wanted_none rfl)]
              refine wp_load_row 25 (.tmp 6) rfl (w1.heap.size) (by go_simp) 25 #[.int .i64 (y : Nat), .int .i64 (z : Nat)] (0, 0) _ V5.out Try.underlying25 rfl infoF ?_
              refine hK _ _ ?_
              clear hK K
              refine wpAny_ready (rs := [2]) (by kernel_rfl) (by simp) ?_
              refine (AllReady.cons rfl (fun K hK => ?_) AllReady.nil)
              rw [if_pos (wanted_none rfl)]
              refine wp_store_row 34 (.tmp 2) (.tmp 33) rfl w.heap.size (Cs8 zs) (by go_simp) (by go_simp; try rfl) 34 _ R5.out (by rw [infoAddress, cs8_size, hzl.out]) (by first | (simp only [cs8_size]; done) | (simp only [cs8_size]; rw [hzl.out]; simp)) (cs8_one _) ?_
              refine hK _ _ ?_
              clear hK K
              refine wpAny_ready (rs := [3]) (by kernel_rfl) (by simp) ?_
              refine (AllReady.cons rfl (fun K hK => ?_) AllReady.nil)
              rw [if_pos (wanted_none rfl)]
              refine wp_store_row 25 (.tmp 3) (.tmp 34) rfl (w.heap.size + 1) #[.int .i64 (y : Nat), .int .i64 (z : Nat)] (by go_simp) (by go_simp) 25 _ F6.out infoF rfl (by simp [Value.oneCell']) ?_
              refine hK _ _ ?_
              clear hK K
              refine wpAny_done (by kernel_rfl) ?_ _
              go_simp
              go_wp2_with fail
              refine bodyPost_ret (v := .tuple #[BV zs, .agg #[.int .i64 (y : Nat), .int .i64 (z : Nat)]]) (results_two_rows Try.results12 _ _ (by rfl) (run_loadVar_row ((wr.drew.setRow w.heap.size (Cs8 zs)).setRow (w.heap.size + 1) #[.int .i64 (y : Nat), .int .i64 (z : Nat)]) _ _ _ (Cs8 zs) (0, 0) _ R7.out Try.underlying34 rfl (by rw [infoAddress, cs8_size, hzl.out])) (by rfl) (run_loadVar_row ((wr.drew.setRow w.heap.size (Cs8 zs)).setRow (w.heap.size + 1) #[.int .i64 (y : Nat), .int .i64 (z : Nat)]) _ _ _ _ (0, 0) _ F7.out Try.underlying25 rfl infoF)) rfl ⟨?_, HB7.out⟩
              rw [E1.out, E2.out, HZQ.out]
            · rw [if_pos (wanted_none rfl)]
              refine wp_store_row 34 (.tmp 2) (.tmp 33) rfl w.heap.size (Cs8 zs) (by go_simp) (by go_simp; try rfl) 34 _ R5.out (by rw [infoAddress, cs8_size, hzl.out]) (by first | (simp only [cs8_size]; done) | (simp only [cs8_size]; rw [hzl.out]; simp)) (cs8_one _) ?_
              refine hK _ _ ?_
              clear hK K
              refine wpAny_ready (rs := [1]) (by kernel_rfl) (by simp) ?_
              refine (AllReady.cons rfl (fun K hK => ?_) AllReady.nil)
              rw [if_pos (wanted_none rfl)]
              refine wp_load_row 25 (.tmp 6) rfl (w1.heap.size) (by go_simp) 25 #[.int .i64 (y : Nat), .int .i64 (z : Nat)] (0, 0) _ V6.out Try.underlying25 rfl infoF ?_
              refine hK _ _ ?_
              clear hK K
              refine wpAny_ready (rs := [3]) (by kernel_rfl) (by simp) ?_
              refine (AllReady.cons rfl (fun K hK => ?_) AllReady.nil)
              rw [if_pos (wanted_none rfl)]
              refine wp_store_row 25 (.tmp 3) (.tmp 34) rfl (w.heap.size + 1) #[.int .i64 (y : Nat), .int .i64 (z : Nat)] (by go_simp) (by go_simp) 25 _ F6.out infoF rfl (by simp [Value.oneCell']) ?_
              refine hK _ _ ?_
              clear hK K
              refine wpAny_done (by kernel_rfl) ?_ _
              go_simp
              go_wp2_with fail
              refine bodyPost_ret (v := .tuple #[BV zs, .agg #[.int .i64 (y : Nat), .int .i64 (z : Nat)]]) (results_two_rows Try.results12 _ _ (by rfl) (run_loadVar_row ((wr.drew.setRow w.heap.size (Cs8 zs)).setRow (w.heap.size + 1) #[.int .i64 (y : Nat), .int .i64 (z : Nat)]) _ _ _ (Cs8 zs) (0, 0) _ R7.out Try.underlying34 rfl (by rw [infoAddress, cs8_size, hzl.out])) (by rfl) (run_loadVar_row ((wr.drew.setRow w.heap.size (Cs8 zs)).setRow (w.heap.size + 1) #[.int .i64 (y : Nat), .int .i64 (z : Nat)]) _ _ _ _ (0, 0) _ F7.out Try.underlying25 rfl infoF)) rfl ⟨?_, HB7.out⟩
              rw [E1.out, E2.out, HZQ.out]
          · rw [if_pos (wanted_none rfl)]
            refine wp_load_row 25 (.tmp 6) rfl (w1.heap.size) (by go_simp) 25 #[.int .i64 (y : Nat), .int .i64 (z : Nat)] (0, 0) _ V5.out Try.underlying25 rfl infoF ?_
            refine hK _ _ ?_
            clear hK K
            refine wpAny_ready (rs := [0]) (by kernel_rfl) (by simp) ?_
            refine (AllReady.cons rfl (fun K hK => ?_) AllReady.nil)
            rw [if_pos (wanted_none rfl)]
            refine wp_load_row 34 (.tmp 4) rfl (w.heap.size + 1 + 1) (by go_simp) 34 (Cs8 zs) (0, 0) _ Y5.out Try.underlying34 rfl (by rw [infoAddress, cs8_size, hzl.out]) ?_
            refine hK _ _ ?_
            clear hK K
            refine wpAny_ready (rs := [2]) (by kernel_rfl) (by simp) ?_
            refine (AllReady.cons rfl (fun K hK => ?_) AllReady.nil)
            rw [if_pos (wanted_none rfl)]
            refine wp_store_row 34 (.tmp 2) (.tmp 33) rfl w.heap.size (Cs8 zs) (by go_simp) (by go_simp; try rfl) 34 _ R5.out (by rw [infoAddress, cs8_size, hzl.out]) (by first | (simp only [cs8_size]; done) | (simp only [cs8_size]; rw [hzl.out]; simp)) (cs8_one _) ?_
            refine hK _ _ ?_
            clear hK K
            refine wpAny_ready (rs := [3]) (by kernel_rfl) (by simp) ?_
            refine (AllReady.cons rfl (fun K hK => ?_) AllReady.nil)
            rw [if_pos (wanted_none rfl)]
            refine wp_store_row 25 (.tmp 3) (.tmp 34) rfl (w.heap.size + 1) #[.int .i64 (y : Nat), .int .i64 (z : Nat)] (by go_simp) (by go_simp) 25 _ F6.out infoF rfl (by simp [Value.oneCell']) ?_
            refine hK _ _ ?_
            clear hK K
            refine wpAny_done (by kernel_rfl) ?_ _
            go_simp
            go_wp2_with fail
            refine bodyPost_ret (v := .tuple #[BV zs, .agg #[.int .i64 (y : Nat), .int .i64 (z : Nat)]]) (results_two_rows Try.results12 _ _ (by rfl) (run_loadVar_row ((wr.drew.setRow w.heap.size (Cs8 zs)).setRow (w.heap.size + 1) #[.int .i64 (y : Nat), .int .i64 (z : Nat)]) _ _ _ (Cs8 zs) (0, 0) _ R7.out Try.underlying34 rfl (by rw [infoAddress, cs8_size, hzl.out])) (by rfl) (run_loadVar_row ((wr.drew.setRow w.heap.size (Cs8 zs)).setRow (w.heap.size + 1) #[.int .i64 (y : Nat), .int .i64 (z : Nat)]) _ _ _ _ (0, 0) _ F7.out Try.underlying25 rfl infoF)) rfl ⟨?_, HB7.out⟩
            rw [E1.out, E2.out, HZQ.out]
    · have hne : ((L : Int) != 20) = true := by simp; omega
      have hne2 : ¬ (L : Int) = 20 := by omega
      have e1 : F = (6, 0) := by rw [HFR.out, if_pos (by rw [← HYY.out]; exact HY0.out), if_neg (by rw [← HL.out]; exact hLN)]
      have e2 : Y = List.replicate 20 0 := by rw [HFB.out, if_neg (by rw [← HL.out]; intro ⟨_, h⟩; exact hLN h)]
      have E1 := Lib.hid e1
      have E2 := Lib.hid e2
      clear e1 e2
      have k6 : ∀ w, Calls Try.prog 28 #[.int .i64 6, .int .i64 0] w (RetV (.agg #[.int .i64 6, .int .i64 0]) w) := fun w => rfault_c 6 0 w
      have K6 := Lib.hid k6
      clear k6
      go_wp2_with fail
      generalize hW4 : w1.alloc (.cells #[.int .i64 (y : Nat), .int .i64 (z : Nat)] 25) = W4' at *
      clear hW4 d0 d1 g0 g1
      refine wp_region_see 2 [21, 22] [(21, .is (BV (List.replicate 20 0))), (22, .is (.agg #[.int .i64 6, .int .i64 0]))] (by kernel_rfl) (by kernel_rfl) (by rfl) ?_ ?_
      · refine seeOps_cons ?_ (seeOps_cons ?_ seeOps_nil)
        · intro w' hb' fr hout hin
          have e4 : fr.tmps.getD 4 undef = .pointer (some ⟨w.heap.size + 1 + 1, 0, none⟩) := hout 4 (by decide)
          clear hout hin
          exact op_loadRow (.tmp 4) rfl e4 (run_loadVar_row w' _ _ _ (Cs8 (List.replicate 20 0)) (0, 0) _ (Y4.out.below hb' Y4.out.lt) Try.underlying34 rfl (by rw [infoAddress, cs8_size, HLZ.out])) (wanted_none rfl) rfl
        · intro w' hb' fr hout hin
          clear hout hin
          exact relStep_callV 28 #[.int .i64 6, .int .i64 0] (wanted_none rfl) (K6.out _) (fun _ => rfl) (by go_simp)
      · intro w' hb'
        refine relAsk_in (by rfl) ?_
        intro v9 h9
        obtain rfl : v9 = BV (List.replicate 20 0) := h9
        refine relAsk_in (by rfl) ?_
        intro v10 h10
        obtain rfl : v10 = .agg #[.int .i64 6, .int .i64 0] := h10
        refine relAsk_nil ?_
        have r5 : Row .u8 w' w.heap.size 34 (List.replicate 20 0) := (hb'.block _ (by have := HS4.out; omega)).trans R4.out
        have f5 := (hb'.block (w.heap.size + 1) (by have := HS4.out; omega)).trans F4.out
        refine wpList_store_row rfl 34 (.tmp 2) (.tmp 21) rfl w.heap.size (Cs8 (List.replicate 20 0)) (by go_simp) (by go_simp; try rfl) 34 _ r5 (by rw [infoAddress, cs8_size, HLZ.out]) (by simp only [cs8_size]) (cs8_one _) ?_
        have r6 := r5.toSet (List.replicate 20 0)
        have f6 := (setRow_other w' w.heap.size (w.heap.size + 1) (Cs8 (List.replicate 20 0)) (by omega)).trans f5
        have B6 := below_setRow (B4.out.trans (hb'.mono (by have := HS4.out; omega))) (Nat.le_refl w.heap.size) (Cs8 (List.replicate 20 0))
        generalize w'.setRow w.heap.size (Cs8 (List.replicate 20 0)) = W6 at *
        refine wpList_store_row rfl 25 (.tmp 3) (.tmp 22) rfl (w.heap.size + 1) #[.int .i64 6, .int .i64 0] (by go_simp) (by go_simp) 25 _ f6 infoF rfl (by simp [Value.oneCell']) ?_
        have r7 : Row .u8 (W6.setRow (w.heap.size + 1) #[.int .i64 6, .int .i64 0]) w.heap.size 34 (List.replicate 20 0) := (setRow_other W6 (w.heap.size + 1) w.heap.size _ (by omega)).trans r6
        have f7 := setRow_heap W6 (w.heap.size + 1) _ #[.int .i64 6, .int .i64 0] 25 (0, 0) f6
        have B7 := below_setRow B6 (show w.heap.size ≤ w.heap.size + 1 by omega) #[.int .i64 6, .int .i64 0]
        generalize W6.setRow (w.heap.size + 1) #[.int .i64 6, .int .i64 0] = W7 at *
        refine wpList_nil ?_
        have R7 := Lib.hid r7
        have F7 := Lib.hid f7
        have B7 := Lib.hid B7
        clear r5 f5 r6 f6 r7 f7 hb' V4 R4 F4 Y4 B4 HS4 K6
        go_simp
        go_wp2_with fail
        refine bodyPost_ret (v := .tuple #[BV (List.replicate 20 0), .agg #[.int .i64 6, .int .i64 0]]) (results_two_rows Try.results12 _ _ (by rfl) (run_loadVar_row W7 _ _ _ (Cs8 (List.replicate 20 0)) (0, 0) _ R7.out Try.underlying34 rfl (by rw [infoAddress, cs8_size, HLZ.out])) (by rfl) (run_loadVar_row W7 _ _ _ _ (0, 0) _ F7.out Try.underlying25 rfl infoF)) rfl ⟨?_, B7.out⟩
        rw [E1.out, E2.out]; rfl
  · have hne : ((y : Int) != 0) = true := by simp; omega
    have e1 : F = (y, z) := by rw [HFR.out, if_neg (by rw [← HYY.out]; exact hy0), HYY.out, HZ.out]
    have e2 : Y = List.replicate 20 0 := by rw [HFB.out, if_neg (by rw [← HYY.out]; intro ⟨h, _⟩; exact hy0 h)]
    have E1 := Lib.hid e1
    have E2 := Lib.hid e2
    clear e1 e2 hy0
    go_wp2_with fail
    generalize hW4 : w1.alloc (.cells #[.int .i64 (y : Nat), .int .i64 (z : Nat)] 25) = W4' at *
    clear hW4 d0 d1 g0 g1
    have r5 : Row .u8 W4'.drew w.heap.size 34 (List.replicate 20 0) := R4.out
    have y5 : Row .u8 W4'.drew (w.heap.size + 1 + 1) 34 (List.replicate 20 0) := Y4.out
    have f5 : W4'.drew.heap[w.heap.size + 1]? = some (.cells #[.int .i64 0, .int .i64 0] 25 (0, 0)) := F4.out
    have v5 : W4'.drew.heap[w1.heap.size]? = some (.cells #[.int .i64 (y : Nat), .int .i64 (z : Nat)] 25 (0, 0)) := V4.out
    have f6 : (W4'.drew.setRow w.heap.size (Cs8 (List.replicate 20 0))).heap[w.heap.size + 1]? = some (.cells #[.int .i64 0, .int .i64 0] 25 (0, 0)) := (setRow_other _ _ _ _ (by omega)).trans f5
    have v6 : (W4'.drew.setRow w.heap.size (Cs8 (List.replicate 20 0))).heap[w1.heap.size]? = some (.cells #[.int .i64 (y : Nat), .int .i64 (z : Nat)] 25 (0, 0)) := (setRow_other _ _ _ _ (by omega)).trans v5
    have r7 : Row .u8 ((W4'.drew.setRow w.heap.size (Cs8 (List.replicate 20 0))).setRow (w.heap.size + 1) #[.int .i64 (y : Nat), .int .i64 (z : Nat)]) w.heap.size 34 (List.replicate 20 0) := (setRow_other _ _ _ _ (by omega)).trans (r5.toSet (List.replicate 20 0))
    have f7 : ((W4'.drew.setRow w.heap.size (Cs8 (List.replicate 20 0))).setRow (w.heap.size + 1) #[.int .i64 (y : Nat), .int .i64 (z : Nat)]).heap[w.heap.size + 1]? = some (.cells #[.int .i64 (y : Nat), .int .i64 (z : Nat)] 25 (0, 0)) := setRow_heap _ _ _ #[.int .i64 (y : Nat), .int .i64 (z : Nat)] 25 (0, 0) f6
    have B7 := below_setRow (below_setRow B4.out.drew (Nat.le_refl w.heap.size) (Cs8 (List.replicate 20 0))) (show w.heap.size ≤ w.heap.size + 1 by omega) #[.int .i64 (y : Nat), .int .i64 (z : Nat)]
    have R5 := Lib.hid r5
    have Y5 := Lib.hid y5
    have V5 := Lib.hid v5
    have F6 := Lib.hid f6
    have V6 := Lib.hid v6
    have R7 := Lib.hid r7
    have F7 := Lib.hid f7
    have HB7 := Lib.hid B7
    clear r5 y5 f5 v5 f6 v6 r7 f7 B7 V4 R4 F4 Y4 B4
    refine wp_region_any (by kernel_rfl) ?_
    change wpAny _ _ _ _ _ _ _ (World.drew _)
    refine wpAny_ready (rs := [0, 1]) (by kernel_rfl) (by simp) ?_
    refine (AllReady.cons rfl (fun K hK => ?_) (AllReady.cons rfl (fun K hK => ?_) AllReady.nil))
    · rw [if_pos (wanted_none rfl)]
      refine wp_load_row 34 (.tmp 4) rfl (w.heap.size + 1 + 1) (by go_simp) 34 (Cs8 (List.replicate 20 0)) (0, 0) _ Y5.out Try.underlying34 rfl (by rw [infoAddress, cs8_size, HLZ.out]) ?_
      refine hK _ _ ?_
      clear hK K
      refine wpAny_ready (rs := [1, 2]) (by kernel_rfl) (by simp) ?_
      refine (AllReady.cons rfl (fun K hK => ?_) (AllReady.cons rfl (fun K hK => ?_) AllReady.nil))
      · rw [if_pos (wanted_none rfl)]
        refine wp_load_row 25 (.tmp 6) rfl (w1.heap.size) (by go_simp) 25 #[.int .i64 (y : Nat), .int .i64 (z : Nat)] (0, 0) _ V5.out Try.underlying25 rfl infoF ?_
        refine hK _ _ ?_
        clear hK K
        refine wpAny_ready (rs := [2]) (by kernel_rfl) (by simp) ?_
        refine (AllReady.cons rfl (fun K hK => ?_) AllReady.nil)
        rw [if_pos (wanted_none rfl)]
        refine wp_store_row 34 (.tmp 2) (.tmp 16) rfl w.heap.size (Cs8 (List.replicate 20 0)) (by go_simp) (by go_simp; try rfl) 34 _ R5.out (by rw [infoAddress, cs8_size, HLZ.out]) (by first | (simp only [cs8_size]; done) | (simp only [cs8_size]; rw [HLZ.out]; simp)) (cs8_one _) ?_
        refine hK _ _ ?_
        clear hK K
        refine wpAny_ready (rs := [3]) (by kernel_rfl) (by simp) ?_
        refine (AllReady.cons rfl (fun K hK => ?_) AllReady.nil)
        rw [if_pos (wanted_none rfl)]
        refine wp_store_row 25 (.tmp 3) (.tmp 17) rfl (w.heap.size + 1) #[.int .i64 (y : Nat), .int .i64 (z : Nat)] (by go_simp) (by go_simp) 25 _ F6.out infoF rfl (by simp [Value.oneCell']) ?_
        refine hK _ _ ?_
        clear hK K
        refine wpAny_done (by kernel_rfl) ?_ _
        go_simp
        go_wp2_with fail
        refine bodyPost_ret (v := .tuple #[BV (List.replicate 20 0), .agg #[.int .i64 (y : Nat), .int .i64 (z : Nat)]]) (results_two_rows Try.results12 _ _ (by rfl) (run_loadVar_row ((W4'.drew.setRow w.heap.size (Cs8 (List.replicate 20 0))).setRow (w.heap.size + 1) #[.int .i64 (y : Nat), .int .i64 (z : Nat)]) _ _ _ (Cs8 (List.replicate 20 0)) (0, 0) _ R7.out Try.underlying34 rfl (by rw [infoAddress, cs8_size, HLZ.out])) (by rfl) (run_loadVar_row ((W4'.drew.setRow w.heap.size (Cs8 (List.replicate 20 0))).setRow (w.heap.size + 1) #[.int .i64 (y : Nat), .int .i64 (z : Nat)]) _ _ _ _ (0, 0) _ F7.out Try.underlying25 rfl infoF)) rfl ⟨?_, HB7.out⟩
        rw [E1.out, E2.out]
      · rw [if_pos (wanted_none rfl)]
        refine wp_store_row 34 (.tmp 2) (.tmp 16) rfl w.heap.size (Cs8 (List.replicate 20 0)) (by go_simp) (by go_simp; try rfl) 34 _ R5.out (by rw [infoAddress, cs8_size, HLZ.out]) (by first | (simp only [cs8_size]; done) | (simp only [cs8_size]; rw [HLZ.out]; simp)) (cs8_one _) ?_
        refine hK _ _ ?_
        clear hK K
        refine wpAny_ready (rs := [1]) (by kernel_rfl) (by simp) ?_
        refine (AllReady.cons rfl (fun K hK => ?_) AllReady.nil)
        rw [if_pos (wanted_none rfl)]
        refine wp_load_row 25 (.tmp 6) rfl (w1.heap.size) (by go_simp) 25 #[.int .i64 (y : Nat), .int .i64 (z : Nat)] (0, 0) _ V6.out Try.underlying25 rfl infoF ?_
        refine hK _ _ ?_
        clear hK K
        refine wpAny_ready (rs := [3]) (by kernel_rfl) (by simp) ?_
        refine (AllReady.cons rfl (fun K hK => ?_) AllReady.nil)
        rw [if_pos (wanted_none rfl)]
        refine wp_store_row 25 (.tmp 3) (.tmp 17) rfl (w.heap.size + 1) #[.int .i64 (y : Nat), .int .i64 (z : Nat)] (by go_simp) (by go_simp) 25 _ F6.out infoF rfl (by simp [Value.oneCell']) ?_
        refine hK _ _ ?_
        clear hK K
        refine wpAny_done (by kernel_rfl) ?_ _
        go_simp
        go_wp2_with fail
        refine bodyPost_ret (v := .tuple #[BV (List.replicate 20 0), .agg #[.int .i64 (y : Nat), .int .i64 (z : Nat)]]) (results_two_rows Try.results12 _ _ (by rfl) (run_loadVar_row ((W4'.drew.setRow w.heap.size (Cs8 (List.replicate 20 0))).setRow (w.heap.size + 1) #[.int .i64 (y : Nat), .int .i64 (z : Nat)]) _ _ _ (Cs8 (List.replicate 20 0)) (0, 0) _ R7.out Try.underlying34 rfl (by rw [infoAddress, cs8_size, HLZ.out])) (by rfl) (run_loadVar_row ((W4'.drew.setRow w.heap.size (Cs8 (List.replicate 20 0))).setRow (w.heap.size + 1) #[.int .i64 (y : Nat), .int .i64 (z : Nat)]) _ _ _ _ (0, 0) _ F7.out Try.underlying25 rfl infoF)) rfl ⟨?_, HB7.out⟩
        rw [E1.out, E2.out]
    · rw [if_pos (wanted_none rfl)]
      refine wp_load_row 25 (.tmp 6) rfl (w1.heap.size) (by go_simp) 25 #[.int .i64 (y : Nat), .int .i64 (z : Nat)] (0, 0) _ V5.out Try.underlying25 rfl infoF ?_
      refine hK _ _ ?_
      clear hK K
      refine wpAny_ready (rs := [0]) (by kernel_rfl) (by simp) ?_
      refine (AllReady.cons rfl (fun K hK => ?_) AllReady.nil)
      rw [if_pos (wanted_none rfl)]
      refine wp_load_row 34 (.tmp 4) rfl (w.heap.size + 1 + 1) (by go_simp) 34 (Cs8 (List.replicate 20 0)) (0, 0) _ Y5.out Try.underlying34 rfl (by rw [infoAddress, cs8_size, HLZ.out]) ?_
      refine hK _ _ ?_
      clear hK K
      refine wpAny_ready (rs := [2]) (by kernel_rfl) (by simp) ?_
      refine (AllReady.cons rfl (fun K hK => ?_) AllReady.nil)
      rw [if_pos (wanted_none rfl)]
      refine wp_store_row 34 (.tmp 2) (.tmp 16) rfl w.heap.size (Cs8 (List.replicate 20 0)) (by go_simp) (by go_simp; try rfl) 34 _ R5.out (by rw [infoAddress, cs8_size, HLZ.out]) (by first | (simp only [cs8_size]; done) | (simp only [cs8_size]; rw [HLZ.out]; simp)) (cs8_one _) ?_
      refine hK _ _ ?_
      clear hK K
      refine wpAny_ready (rs := [3]) (by kernel_rfl) (by simp) ?_
      refine (AllReady.cons rfl (fun K hK => ?_) AllReady.nil)
      rw [if_pos (wanted_none rfl)]
      refine wp_store_row 25 (.tmp 3) (.tmp 17) rfl (w.heap.size + 1) #[.int .i64 (y : Nat), .int .i64 (z : Nat)] (by go_simp) (by go_simp) 25 _ F6.out infoF rfl (by simp [Value.oneCell']) ?_
      refine hK _ _ ?_
      clear hK K
      refine wpAny_done (by kernel_rfl) ?_ _
      go_simp
      go_wp2_with fail
      refine bodyPost_ret (v := .tuple #[BV (List.replicate 20 0), .agg #[.int .i64 (y : Nat), .int .i64 (z : Nat)]]) (results_two_rows Try.results12 _ _ (by rfl) (run_loadVar_row ((W4'.drew.setRow w.heap.size (Cs8 (List.replicate 20 0))).setRow (w.heap.size + 1) #[.int .i64 (y : Nat), .int .i64 (z : Nat)]) _ _ _ (Cs8 (List.replicate 20 0)) (0, 0) _ R7.out Try.underlying34 rfl (by rw [infoAddress, cs8_size, HLZ.out])) (by rfl) (run_loadVar_row ((W4'.drew.setRow w.heap.size (Cs8 (List.replicate 20 0))).setRow (w.heap.size + 1) #[.int .i64 (y : Nat), .int .i64 (z : Nat)]) _ _ _ _ (0, 0) _ F7.out Try.underlying25 rfl infoF)) rfl ⟨?_, HB7.out⟩
      rw [E1.out, E2.out]

set_option maxRecDepth 100000 in
set_option maxHeartbeats 6400000 in
theorem rhash_h (s : ByteArray) (w : World) (hs : s.size ≤ 1073741824) : Calls Try.prog 14 #[.string s] w fun e w' =>
    e = .returned (.tuple #[BV (fbytes 32 s), .agg #[.int .i64 ((fres 32 s).1 : Nat), .int .i64 ((fres 32 s).2 : Nat)]]) ∧ Below w.heap.size w w' := by
  have hok := bres_ok s
  have k1 := fun w : World => rbytes_h s w hs
  obtain ⟨q, hqq⟩ : ∃ q, q = bres s := ⟨_, rfl⟩
  have hfr : fres 32 s = if q.2.1 = 0 then (if q.1.length = 32 then (0, 0) else (6, 0)) else (q.2.1, q.2.2) := by unfold fres; rw [← hqq]
  have hfb : fbytes 32 s = if q.2.1 = 0 ∧ q.1.length = 32 then q.1 else List.replicate 32 0 := by unfold fbytes; rw [← hqq]
  rw [← hqq] at k1 hok
  obtain ⟨F, hF⟩ : ∃ F, F = fres 32 s := ⟨_, rfl⟩
  obtain ⟨Y, hY⟩ : ∃ Y, Y = fbytes 32 s := ⟨_, rfl⟩
  rw [← hF, ← hY]
  rw [← hF] at hfr
  rw [← hY] at hfb
  have K1 := Lib.hid k1
  have HFR := Lib.hid hfr
  have HFB := Lib.hid hfb
  have HOK := Lib.hid hok
  clear k1 hF hY hfr hfb hok hqq
  go_enter Try.func14, Try.ntmps14
  go_upto_region 2 with (fail)
  have r0 : Row .u8 (w.alloc (.cells #[.int .u8 0, .int .u8 0, .int .u8 0, .int .u8 0, .int .u8 0, .int .u8 0, .int .u8 0, .int .u8 0, .int .u8 0, .int .u8 0, .int .u8 0, .int .u8 0, .int .u8 0, .int .u8 0, .int .u8 0, .int .u8 0, .int .u8 0, .int .u8 0, .int .u8 0, .int .u8 0, .int .u8 0, .int .u8 0, .int .u8 0, .int .u8 0, .int .u8 0, .int .u8 0, .int .u8 0, .int .u8 0, .int .u8 0, .int .u8 0, .int .u8 0, .int .u8 0] 38)) w.heap.size 38 (List.replicate 32 0) := Row.new (k := .u8) w 38 (List.replicate 32 0)
  have r1 : Row .u8 (((w.alloc (.cells #[.int .u8 0, .int .u8 0, .int .u8 0, .int .u8 0, .int .u8 0, .int .u8 0, .int .u8 0, .int .u8 0, .int .u8 0, .int .u8 0, .int .u8 0, .int .u8 0, .int .u8 0, .int .u8 0, .int .u8 0, .int .u8 0, .int .u8 0, .int .u8 0, .int .u8 0, .int .u8 0, .int .u8 0, .int .u8 0, .int .u8 0, .int .u8 0, .int .u8 0, .int .u8 0, .int .u8 0, .int .u8 0, .int .u8 0, .int .u8 0, .int .u8 0, .int .u8 0] 38)).alloc (.cells #[.int .i64 0, .int .i64 0] 25)).alloc (.cells #[.int .u8 0, .int .u8 0, .int .u8 0, .int .u8 0, .int .u8 0, .int .u8 0, .int .u8 0, .int .u8 0, .int .u8 0, .int .u8 0, .int .u8 0, .int .u8 0, .int .u8 0, .int .u8 0, .int .u8 0, .int .u8 0, .int .u8 0, .int .u8 0, .int .u8 0, .int .u8 0, .int .u8 0, .int .u8 0, .int .u8 0, .int .u8 0, .int .u8 0, .int .u8 0, .int .u8 0, .int .u8 0, .int .u8 0, .int .u8 0, .int .u8 0, .int .u8 0] 38)) w.heap.size 38 (List.replicate 32 0) := (r0.alloc (.cells #[.int .i64 0, .int .i64 0] 25)).alloc (.cells #[.int .u8 0, .int .u8 0, .int .u8 0, .int .u8 0, .int .u8 0, .int .u8 0, .int .u8 0, .int .u8 0, .int .u8 0, .int .u8 0, .int .u8 0, .int .u8 0, .int .u8 0, .int .u8 0, .int .u8 0, .int .u8 0, .int .u8 0, .int .u8 0, .int .u8 0, .int .u8 0, .int .u8 0, .int .u8 0, .int .u8 0, .int .u8 0, .int .u8 0, .int .u8 0, .int .u8 0, .int .u8 0, .int .u8 0, .int .u8 0, .int .u8 0, .int .u8 0] 38)
  have hn2 : ((w.alloc (.cells #[.int .u8 0, .int .u8 0, .int .u8 0, .int .u8 0, .int .u8 0, .int .u8 0, .int .u8 0, .int .u8 0, .int .u8 0, .int .u8 0, .int .u8 0, .int .u8 0, .int .u8 0, .int .u8 0, .int .u8 0, .int .u8 0, .int .u8 0, .int .u8 0, .int .u8 0, .int .u8 0, .int .u8 0, .int .u8 0, .int .u8 0, .int .u8 0, .int .u8 0, .int .u8 0, .int .u8 0, .int .u8 0, .int .u8 0, .int .u8 0, .int .u8 0, .int .u8 0] 38)).alloc (.cells #[.int .i64 0, .int .i64 0] 25)).heap.size = w.heap.size + 1 + 1 := by simp
  have r2 : Row .u8 (((w.alloc (.cells #[.int .u8 0, .int .u8 0, .int .u8 0, .int .u8 0, .int .u8 0, .int .u8 0, .int .u8 0, .int .u8 0, .int .u8 0, .int .u8 0, .int .u8 0, .int .u8 0, .int .u8 0, .int .u8 0, .int .u8 0, .int .u8 0, .int .u8 0, .int .u8 0, .int .u8 0, .int .u8 0, .int .u8 0, .int .u8 0, .int .u8 0, .int .u8 0, .int .u8 0, .int .u8 0, .int .u8 0, .int .u8 0, .int .u8 0, .int .u8 0, .int .u8 0, .int .u8 0] 38)).alloc (.cells #[.int .i64 0, .int .i64 0] 25)).alloc (.cells #[.int .u8 0, .int .u8 0, .int .u8 0, .int .u8 0, .int .u8 0, .int .u8 0, .int .u8 0, .int .u8 0, .int .u8 0, .int .u8 0, .int .u8 0, .int .u8 0, .int .u8 0, .int .u8 0, .int .u8 0, .int .u8 0, .int .u8 0, .int .u8 0, .int .u8 0, .int .u8 0, .int .u8 0, .int .u8 0, .int .u8 0, .int .u8 0, .int .u8 0, .int .u8 0, .int .u8 0, .int .u8 0, .int .u8 0, .int .u8 0, .int .u8 0, .int .u8 0] 38)) (w.heap.size + 1 + 1) 38 (List.replicate 32 0) := by
    have h := Row.new (k := .u8) ((w.alloc (.cells #[.int .u8 0, .int .u8 0, .int .u8 0, .int .u8 0, .int .u8 0, .int .u8 0, .int .u8 0, .int .u8 0, .int .u8 0, .int .u8 0, .int .u8 0, .int .u8 0, .int .u8 0, .int .u8 0, .int .u8 0, .int .u8 0, .int .u8 0, .int .u8 0, .int .u8 0, .int .u8 0, .int .u8 0, .int .u8 0, .int .u8 0, .int .u8 0, .int .u8 0, .int .u8 0, .int .u8 0, .int .u8 0, .int .u8 0, .int .u8 0, .int .u8 0, .int .u8 0] 38)).alloc (.cells #[.int .i64 0, .int .i64 0] 25)) 38 (List.replicate 32 0)
    rw [hn2] at h
    exact h
  have f1 : (((w.alloc (.cells #[.int .u8 0, .int .u8 0, .int .u8 0, .int .u8 0, .int .u8 0, .int .u8 0, .int .u8 0, .int .u8 0, .int .u8 0, .int .u8 0, .int .u8 0, .int .u8 0, .int .u8 0, .int .u8 0, .int .u8 0, .int .u8 0, .int .u8 0, .int .u8 0, .int .u8 0, .int .u8 0, .int .u8 0, .int .u8 0, .int .u8 0, .int .u8 0, .int .u8 0, .int .u8 0, .int .u8 0, .int .u8 0, .int .u8 0, .int .u8 0, .int .u8 0, .int .u8 0] 38)).alloc (.cells #[.int .i64 0, .int .i64 0] 25)).alloc (.cells #[.int .u8 0, .int .u8 0, .int .u8 0, .int .u8 0, .int .u8 0, .int .u8 0, .int .u8 0, .int .u8 0, .int .u8 0, .int .u8 0, .int .u8 0, .int .u8 0, .int .u8 0, .int .u8 0, .int .u8 0, .int .u8 0, .int .u8 0, .int .u8 0, .int .u8 0, .int .u8 0, .int .u8 0, .int .u8 0, .int .u8 0, .int .u8 0, .int .u8 0, .int .u8 0, .int .u8 0, .int .u8 0, .int .u8 0, .int .u8 0, .int .u8 0, .int .u8 0] 38)).heap[w.heap.size + 1]? = some (.cells #[.int .i64 0, .int .i64 0] 25 (0, 0)) := by
    rw [Below.heap_alloc _ _ _ (by simp)]
    have := heap_alloc_new (w.alloc (.cells #[.int .u8 0, .int .u8 0, .int .u8 0, .int .u8 0, .int .u8 0, .int .u8 0, .int .u8 0, .int .u8 0, .int .u8 0, .int .u8 0, .int .u8 0, .int .u8 0, .int .u8 0, .int .u8 0, .int .u8 0, .int .u8 0, .int .u8 0, .int .u8 0, .int .u8 0, .int .u8 0, .int .u8 0, .int .u8 0, .int .u8 0, .int .u8 0, .int .u8 0, .int .u8 0, .int .u8 0, .int .u8 0, .int .u8 0, .int .u8 0, .int .u8 0, .int .u8 0] 38)) (.cells #[.int .i64 0, .int .i64 0] 25)
    simpa using this
  have b1 := (((Below.refl w.heap.size w).alloc (Nat.le_refl _) (.cells #[.int .u8 0, .int .u8 0, .int .u8 0, .int .u8 0, .int .u8 0, .int .u8 0, .int .u8 0, .int .u8 0, .int .u8 0, .int .u8 0, .int .u8 0, .int .u8 0, .int .u8 0, .int .u8 0, .int .u8 0, .int .u8 0, .int .u8 0, .int .u8 0, .int .u8 0, .int .u8 0, .int .u8 0, .int .u8 0, .int .u8 0, .int .u8 0, .int .u8 0, .int .u8 0, .int .u8 0, .int .u8 0, .int .u8 0, .int .u8 0, .int .u8 0, .int .u8 0] 38)).alloc (by simp) (.cells #[.int .i64 0, .int .i64 0] 25)).alloc (by simp; omega) (.cells #[.int .u8 0, .int .u8 0, .int .u8 0, .int .u8 0, .int .u8 0, .int .u8 0, .int .u8 0, .int .u8 0, .int .u8 0, .int .u8 0, .int .u8 0, .int .u8 0, .int .u8 0, .int .u8 0, .int .u8 0, .int .u8 0, .int .u8 0, .int .u8 0, .int .u8 0, .int .u8 0, .int .u8 0, .int .u8 0, .int .u8 0, .int .u8 0, .int .u8 0, .int .u8 0, .int .u8 0, .int .u8 0, .int .u8 0, .int .u8 0, .int .u8 0, .int .u8 0] 38)
  generalize ((w.alloc (.cells #[.int .u8 0, .int .u8 0, .int .u8 0, .int .u8 0, .int .u8 0, .int .u8 0, .int .u8 0, .int .u8 0, .int .u8 0, .int .u8 0, .int .u8 0, .int .u8 0, .int .u8 0, .int .u8 0, .int .u8 0, .int .u8 0, .int .u8 0, .int .u8 0, .int .u8 0, .int .u8 0, .int .u8 0, .int .u8 0, .int .u8 0, .int .u8 0, .int .u8 0, .int .u8 0, .int .u8 0, .int .u8 0, .int .u8 0, .int .u8 0, .int .u8 0, .int .u8 0] 38)).alloc (.cells #[.int .i64 0, .int .i64 0] 25)).alloc (.cells #[.int .u8 0, .int .u8 0, .int .u8 0, .int .u8 0, .int .u8 0, .int .u8 0, .int .u8 0, .int .u8 0, .int .u8 0, .int .u8 0, .int .u8 0, .int .u8 0, .int .u8 0, .int .u8 0, .int .u8 0, .int .u8 0, .int .u8 0, .int .u8 0, .int .u8 0, .int .u8 0, .int .u8 0, .int .u8 0, .int .u8 0, .int .u8 0, .int .u8 0, .int .u8 0, .int .u8 0, .int .u8 0, .int .u8 0, .int .u8 0, .int .u8 0, .int .u8 0] 38) = X at *
  have C1 := Lib.hid (K1.out X)
  have R1 := Lib.hid r1
  have R2 := Lib.hid r2
  have HF1 := Lib.hid f1
  have B1 := Lib.hid b1
  have hXs : w.heap.size + 3 ≤ X.heap.size := r2.lt
  clear r0 r1 r2 f1 b1 hn2 K1
  go_wp2_with fail
  (with_reducible refine C1.out.mono ?_)
  rintro e w1 ⟨v, rfl, hacc, hb⟩
  have r3 := R1.out.below hb (by omega)
  have y3 := R2.out.below hb (by omega)
  have f3 := (hb.block (w.heap.size + 1) (by omega)).trans HF1.out
  have B2 := Lib.hid (B1.out.trans (hb.mono (by omega)))
  have hs1 : w.heap.size + 3 ≤ w1.heap.size := Nat.le_trans hXs hb.size
  obtain ⟨A, c, rfl⟩ := hacc.form
  obtain ⟨L, hL⟩ : ∃ L, L = q.1.length := ⟨_, rfl⟩
  rw [← hL]
  obtain ⟨y, hy⟩ : ∃ y, y = q.2.1 := ⟨_, rfl⟩
  obtain ⟨z, hz⟩ : ∃ z, z = q.2.2 := ⟨_, rfl⟩
  rw [← hy, ← hz]
  have HL := Lib.hid hL
  have HYY := Lib.hid hy
  have HZ := Lib.hid hz
  have hz0 : y = 0 → z = 0 := fun h => by rw [hz]; exact HOK.out (by rw [← hy]; exact h)
  have HZ0 := Lib.hid hz0
  have v4 := heap_alloc_new w1 (.cells #[.int .i64 (y : Nat), .int .i64 (z : Nat)] 25)
  have V4 := Lib.hid v4
  have R4 := Lib.hid (r3.alloc (.cells #[.int .i64 (y : Nat), .int .i64 (z : Nat)] 25))
  have Y4 := Lib.hid (y3.alloc (.cells #[.int .i64 (y : Nat), .int .i64 (z : Nat)] 25))
  have F4 := Lib.hid ((Below.heap_alloc w1 (.cells #[.int .i64 (y : Nat), .int .i64 (z : Nat)] 25) (w.heap.size + 1) (by omega)).trans f3)
  have HRD := Lib.hid (hacc.rd.alloc (.cells #[.int .i64 (y : Nat), .int .i64 (z : Nat)] 25))
  have B4 := Lib.hid (B2.out.alloc (by omega) (.cells #[.int .i64 (y : Nat), .int .i64 (z : Nat)] 25))
  obtain ⟨d0, d1, g0, g1⟩ := two_cells v4
  have HLZ : Hid ((List.replicate 32 0).length = 32) := by show _ = _; simp
  have hS4 : (w1.alloc (.cells #[.int .i64 (y : Nat), .int .i64 (z : Nat)] 25)).heap.size = w1.heap.size + 1 := by simp
  have HS4 := Lib.hid hS4
  have hown : ∀ k, (Value.slice A q.1.length c).ownBlock = some k → w.heap.size + 3 ≤ k := fun k hk => Nat.le_trans hXs (hacc.own k hk)
  clear C1 R1 R2 HF1 B1 hacc hb r3 y3 f3 B2 v4 hXs hL hy hz hz0 hS4
  by_cases hy0 : y = 0
  · have hy1 : ((y : Int) != 0) = false := by rw [hy0]; rfl
    have HY0 := Lib.hid hy0
    clear hy0
    by_cases hLN : L = 32
    · have e1 : F = (y, z) := by rw [HFR.out, if_pos (by rw [← HYY.out]; exact HY0.out), if_pos (by rw [← HL.out]; exact hLN), HY0.out, HZ0.out HY0.out]
      have e2 : Y = q.1 := by rw [HFB.out, if_pos ⟨by rw [← HYY.out]; exact HY0.out, by rw [← HL.out]; exact hLN⟩]
      have E1 := Lib.hid e1
      have E2 := Lib.hid e2
      have hne : ((L : Int) != 32) = false := by rw [hLN]; rfl
      have hLN' : (L : Int) = 32 := by omega
      have HLN := Lib.hid hLN
      obtain ⟨b, o, rfl, hbb, hcell⟩ := HRD.out.at_ (by have := HL.out; omega)
      have HCELL := Lib.hid hcell
      have hb3 : w.heap.size + 3 ≤ b := hown b rfl
      clear e1 e2 hcell hLN
      have hL0 : (L : Int) ≤ 32 := by omega
      clear hLN'
      generalize hW4 : w1.alloc (.cells #[.int .i64 (y : Nat), .int .i64 (z : Nat)] 25) = W4' at *
      have hs4 : w1.heap.size < W4'.heap.size := by have := HS4.out; omega
      clear HS4
      go_wp2_with fail
      go_loopw [7] (fun i wr => ∃ (m : Nat) (zs : List Nat), i = .int .i64 (m : Int) ∧ m ≤ 32 ∧ Hid (zs.length = 32) ∧ Hid (∀ j, j < m → zs.getD j 0 = q.1.getD j 0) ∧ Hid (Row .u8 wr (w.heap.size + 1 + 1) 38 zs) ∧ Hid (Row .u8 wr w.heap.size 38 (List.replicate 32 0)) ∧ Hid (wr.heap[w.heap.size + 1]? = some (.cells #[.int .i64 0, .int .i64 0] 25 (0, 0))) ∧ Hid (wr.heap[w1.heap.size]? = some (.cells #[.int .i64 (y : Nat), .int .i64 (z : Nat)] 25 (0, 0))) ∧ Hid (Below w.heap.size w wr) ∧ Hid (∀ j, j < L → wr.cell? ⟨b, o + j, none⟩ = some (.int .u8 (q.1.getD j 0 : Nat))))
        (fun i _ => 32 - (intOf i).toNat)
      case atStart => exact ⟨0, List.replicate 32 0, rfl, by omega, HLZ.out, fun j hj => by omega, Y4.out, R4.out, F4.out, V4.out, B4.out, fun j hj => HCELL.out j (by have := HL.out; omega)⟩
      case round =>
        clear R4 F4 V4 B4 HCELL HRD Y4
        obtain ⟨m, zs, rfl, hm, hzl, hzj, hrow, hr0, hf0, hv0, hbel, hcl⟩ := hrel
        by_cases hlt : (m : Int) < 32
        · have hmL : (m : Int) < (L : Int) := by have := HLN.out; omega
          have cx := hcl.out m (by omega)
          obtain ⟨x, ex⟩ : ∃ x, x = q.1.getD m 0 := ⟨_, rfl⟩
          rw [← ex] at cx
          have cz := hrow.out.cell m (by rw [hzl.out]; omega)
          have fz := hrow.out.frozen m
          have HN := Lib.hid (set_step (b := x) (by rw [hzl.out]; omega) hzj.out ex)
          have hrow' := Lib.hid (hrow.out.set m x)
          have hr' := Lib.hid (hr0.out.far (p := ⟨w.heap.size + 1 + 1, m, none⟩) (by show w.heap.size ≠ w.heap.size + 1 + 1; omega) (.int .u8 (x : Int)))
          have hf' := Lib.hid ((Below.heap_setCell wr ⟨w.heap.size + 1 + 1, m, none⟩ (.int .u8 (x : Int)) (w.heap.size + 1) (by show w.heap.size + 1 ≠ w.heap.size + 1 + 1; omega)).trans hf0.out)
          have hv' := Lib.hid ((Below.heap_setCell wr ⟨w.heap.size + 1 + 1, m, none⟩ (.int .u8 (x : Int)) w1.heap.size (by show w1.heap.size ≠ w.heap.size + 1 + 1; omega)).trans hv0.out)
          have hb' := Lib.hid (hbel.out.setCell (p := ⟨w.heap.size + 1 + 1, m, none⟩) (by show w.heap.size ≤ w.heap.size + 1 + 1; omega) (.int .u8 (x : Int)))
          have hc' : Hid (∀ j, j < L → (wr.setCell ⟨w.heap.size + 1 + 1, m, none⟩ (.int .u8 (x : Int))).cell? ⟨b, o + j, none⟩ = some (.int .u8 (q.1.getD j 0 : Nat))) := fun j hj =>
            (World.cell?_of_block (a := ⟨b, o + j, none⟩) (Below.heap_setCell wr ⟨w.heap.size + 1 + 1, m, none⟩ (.int .u8 (x : Int)) b (by show b ≠ w.heap.size + 1 + 1; omega))).trans (hcl.out j hj)
          have hzl' : Hid ((zs.set m x).length = 32) := by show _ = _; rw [List.length_set]; exact hzl.out
          clear hrow hr0 hf0 hv0 hbel hcl hzj hzl ex
          go_wp2_with fail
          go_roundw
          case rel => exact ⟨m + 1, zs.set m x, by go_num, by omega, hzl'.out, HN.out, hrow'.out, hr'.out, hf'.out, hv'.out, hb'.out, hc'.out⟩
          case measure => simp [intOf]; omega
        · obtain rfl : m = 32 := by omega
          have hzq : zs = q.1 := list_ext (by rw [hzl.out, ← HL.out, HLN.out]) fun i hi => hzj.out i (by rw [hzl.out] at hi; exact hi)
          have R4 := Lib.hid hr0.out
          have Y4 := Lib.hid hrow.out
          have F4 := Lib.hid hf0.out
          have V4 := Lib.hid hv0.out
          have B4 := Lib.hid hbel.out
          have HZQ := Lib.hid hzq
          clear hr0 hrow hf0 hv0 hbel hcl hzj hzq
          go_wp2_with fail
          have r5 : Row .u8 wr.drew w.heap.size 38 (List.replicate 32 0) := R4.out
          have y5 : Row .u8 wr.drew (w.heap.size + 1 + 1) 38 zs := Y4.out
          have f5 : wr.drew.heap[w.heap.size + 1]? = some (.cells #[.int .i64 0, .int .i64 0] 25 (0, 0)) := F4.out
          have v5 : wr.drew.heap[w1.heap.size]? = some (.cells #[.int .i64 (y : Nat), .int .i64 (z : Nat)] 25 (0, 0)) := V4.out
          have f6 : (wr.drew.setRow w.heap.size (Cs8 zs)).heap[w.heap.size + 1]? = some (.cells #[.int .i64 0, .int .i64 0] 25 (0, 0)) := (setRow_other _ _ _ _ (by omega)).trans f5
          have v6 : (wr.drew.setRow w.heap.size (Cs8 zs)).heap[w1.heap.size]? = some (.cells #[.int .i64 (y : Nat), .int .i64 (z : Nat)] 25 (0, 0)) := (setRow_other _ _ _ _ (by omega)).trans v5
          have r7 : Row .u8 ((wr.drew.setRow w.heap.size (Cs8 zs)).setRow (w.heap.size + 1) #[.int .i64 (y : Nat), .int .i64 (z : Nat)]) w.heap.size 38 zs := (setRow_other _ _ _ _ (by omega)).trans (r5.toSet zs)
          have f7 : ((wr.drew.setRow w.heap.size (Cs8 zs)).setRow (w.heap.size + 1) #[.int .i64 (y : Nat), .int .i64 (z : Nat)]).heap[w.heap.size + 1]? = some (.cells #[.int .i64 (y : Nat), .int .i64 (z : Nat)] 25 (0, 0)) := setRow_heap _ _ _ #[.int .i64 (y : Nat), .int .i64 (z : Nat)] 25 (0, 0) f6
          have B7 := below_setRow (below_setRow B4.out.drew (Nat.le_refl w.heap.size) (Cs8 zs)) (show w.heap.size ≤ w.heap.size + 1 by omega) #[.int .i64 (y : Nat), .int .i64 (z : Nat)]
          have R5 := Lib.hid r5
          have Y5 := Lib.hid y5
          have V5 := Lib.hid v5
          have F6 := Lib.hid f6
          have V6 := Lib.hid v6
          have R7 := Lib.hid r7
          have F7 := Lib.hid f7
          have HB7 := Lib.hid B7
          clear r5 y5 f5 v5 f6 v6 r7 f7 B7 V4 R4 F4 Y4 B4
          refine wp_region_any (by kernel_rfl) ?_
          change wpAny _ _ _ _ _ _ _ (World.drew _)
          refine wpAny_ready (rs := [0, 1]) (by kernel_rfl) (by simp) ?_
          refine (AllReady.cons rfl (fun K hK => ?_) (AllReady.cons rfl (fun K hK => ?_) AllReady.nil))
          · rw [if_pos (wanted_none rfl)]
            refine wp_load_row 38 (.tmp 4) rfl (w.heap.size + 1 + 1) (by go_simp) 38 (Cs8 zs) (0, 0) _ Y5.out Try.underlying38 rfl (by rw [infoHash, cs8_size, hzl.out]) ?_
            refine hK _ _ ?_
            clear hK K
            refine wpAny_ready (rs := [1, 2]) (by kernel_rfl) (by simp) ?_
            refine (AllReady.cons rfl (fun K hK => ?_) (AllReady.cons rfl (fun K hK => ?_) AllReady.nil))
            · rw [if_pos (wanted_none rfl)]
              refine wp_load_row 25 (.tmp 6) rfl (w1.heap.size) (by go_simp) 25 #[.int .i64 (y : Nat), .int .i64 (z : Nat)] (0, 0) _ V5.out Try.underlying25 rfl infoF ?_
              refine hK _ _ ?_
              clear hK K
              refine wpAny_ready (rs := [2]) (by kernel_rfl) (by simp) ?_
              refine (AllReady.cons rfl (fun K hK => ?_) AllReady.nil)
              rw [if_pos (wanted_none rfl)]
              refine wp_store_row 38 (.tmp 2) (.tmp 33) rfl w.heap.size (Cs8 zs) (by go_simp) (by go_simp; try rfl) 38 _ R5.out (by rw [infoHash, cs8_size, hzl.out]) (by first | (simp only [cs8_size]; done) | (simp only [cs8_size]; rw [hzl.out]; simp)) (cs8_one _) ?_
              refine hK _ _ ?_
              clear hK K
              refine wpAny_ready (rs := [3]) (by kernel_rfl) (by simp) ?_
              refine (AllReady.cons rfl (fun K hK => ?_) AllReady.nil)
              rw [if_pos (wanted_none rfl)]
              refine wp_store_row 25 (.tmp 3) (.tmp 34) rfl (w.heap.size + 1) #[.int .i64 (y : Nat), .int .i64 (z : Nat)] (by go_simp) (by go_simp) 25 _ F6.out infoF rfl (by simp [Value.oneCell']) ?_
              refine hK _ _ ?_
              clear hK K
              refine wpAny_done (by kernel_rfl) ?_ _
              go_simp
              go_wp2_with fail
              refine bodyPost_ret (v := .tuple #[BV zs, .agg #[.int .i64 (y : Nat), .int .i64 (z : Nat)]]) (results_two_rows Try.results14 _ _ (by rfl) (run_loadVar_row ((wr.drew.setRow w.heap.size (Cs8 zs)).setRow (w.heap.size + 1) #[.int .i64 (y : Nat), .int .i64 (z : Nat)]) _ _ _ (Cs8 zs) (0, 0) _ R7.out Try.underlying38 rfl (by rw [infoHash, cs8_size, hzl.out])) (by rfl) (run_loadVar_row ((wr.drew.setRow w.heap.size (Cs8 zs)).setRow (w.heap.size + 1) #[.int .i64 (y : Nat), .int .i64 (z : Nat)]) _ _ _ _ (0, 0) _ F7.out Try.underlying25 rfl infoF)) rfl ⟨?_, HB7.out⟩
              rw [E1.out, E2.out, HZQ.out]
            · rw [if_pos (wanted_none rfl)]
              refine wp_store_row 38 (.tmp 2) (.tmp 33) rfl w.heap.size (Cs8 zs) (by go_simp) (by go_simp; try rfl) 38 _ R5.out (by rw [infoHash, cs8_size, hzl.out]) (by first | (simp only [cs8_size]; done) | (simp only [cs8_size]; rw [hzl.out]; simp)) (cs8_one _) ?_
              refine hK _ _ ?_
              clear hK K
              refine wpAny_ready (rs := [1]) (by kernel_rfl) (by simp) ?_
              refine (AllReady.cons rfl (fun K hK => ?_) AllReady.nil)
              rw [if_pos (wanted_none rfl)]
              refine wp_load_row 25 (.tmp 6) rfl (w1.heap.size) (by go_simp) 25 #[.int .i64 (y : Nat), .int .i64 (z : Nat)] (0, 0) _ V6.out Try.underlying25 rfl infoF ?_
              refine hK _ _ ?_
              clear hK K
              refine wpAny_ready (rs := [3]) (by kernel_rfl) (by simp) ?_
              refine (AllReady.cons rfl (fun K hK => ?_) AllReady.nil)
              rw [if_pos (wanted_none rfl)]
              refine wp_store_row 25 (.tmp 3) (.tmp 34) rfl (w.heap.size + 1) #[.int .i64 (y : Nat), .int .i64 (z : Nat)] (by go_simp) (by go_simp) 25 _ F6.out infoF rfl (by simp [Value.oneCell']) ?_
              refine hK _ _ ?_
              clear hK K
              refine wpAny_done (by kernel_rfl) ?_ _
              go_simp
              go_wp2_with fail
              refine bodyPost_ret (v := .tuple #[BV zs, .agg #[.int .i64 (y : Nat), .int .i64 (z : Nat)]]) (results_two_rows Try.results14 _ _ (by rfl) (run_loadVar_row ((wr.drew.setRow w.heap.size (Cs8 zs)).setRow (w.heap.size + 1) #[.int .i64 (y : Nat), .int .i64 (z : Nat)]) _ _ _ (Cs8 zs) (0, 0) _ R7.out Try.underlying38 rfl (by rw [infoHash, cs8_size, hzl.out])) (by rfl) (run_loadVar_row ((wr.drew.setRow w.heap.size (Cs8 zs)).setRow (w.heap.size + 1) #[.int .i64 (y : Nat), .int .i64 (z : Nat)]) _ _ _ _ (0, 0) _ F7.out Try.underlying25 rfl infoF)) rfl ⟨?_, HB7.out⟩
              rw [E1.out, E2.out, HZQ.out]
          · rw [if_pos (wanted_none rfl)]
            refine wp_load_row 25 (.tmp 6) rfl (w1.heap.size) (by go_simp) 25 #[.int .i64 (y : Nat), .int .i64 (z : Nat)] (0, 0) _ V5.out Try.underlying25 rfl infoF ?_
            refine hK _ _ ?_
            clear hK K
            refine wpAny_ready (rs := [0]) (by kernel_rfl) (by simp) ?_
            refine (AllReady.cons rfl (fun K hK => ?_) AllReady.nil)
            rw [if_pos (wanted_none rfl)]
            refine wp_load_row 38 (.tmp 4) rfl (w.heap.size + 1 + 1) (by go_simp) 38 (Cs8 zs) (0, 0) _ Y5.out Try.underlying38 rfl (by rw [infoHash, cs8_size, hzl.out]) ?_
            refine hK _ _ ?_
            clear hK K
            refine wpAny_ready (rs := [2]) (by kernel_rfl) (by simp) ?_
            refine (AllReady.cons rfl (fun K hK => ?_) AllReady.nil)
            rw [if_pos (wanted_none rfl)]
            refine wp_store_row 38 (.tmp 2) (.tmp 33) rfl w.heap.size (Cs8 zs) (by go_simp) (by go_simp; try rfl) 38 _ R5.out (by rw [infoHash, cs8_size, hzl.out]) (by first | (simp only [cs8_size]; done) | (simp only [cs8_size]; rw [hzl.out]; simp)) (cs8_one _) ?_
            refine hK _ _ ?_
            clear hK K
            refine wpAny_ready (rs := [3]) (by kernel_rfl) (by simp) ?_
            refine (AllReady.cons rfl (fun K hK => ?_) AllReady.nil)
            rw [if_pos (wanted_none rfl)]
            refine wp_store_row 25 (.tmp 3) (.tmp 34) rfl (w.heap.size + 1) #[.int .i64 (y : Nat), .int .i64 (z : Nat)] (by go_simp) (by go_simp) 25 _ F6.out infoF rfl (by simp [Value.oneCell']) ?_
            refine hK _ _ ?_
            clear hK K
            refine wpAny_done (by kernel_rfl) ?_ _
            go_simp
            go_wp2_with fail
            refine bodyPost_ret (v := .tuple #[BV zs, .agg #[.int .i64 (y : Nat), .int .i64 (z : Nat)]]) (results_two_rows Try.results14 _ _ (by rfl) (run_loadVar_row ((wr.drew.setRow w.heap.size (Cs8 zs)).setRow (w.heap.size + 1) #[.int .i64 (y : Nat), .int .i64 (z : Nat)]) _ _ _ (Cs8 zs) (0, 0) _ R7.out Try.underlying38 rfl (by rw [infoHash, cs8_size, hzl.out])) (by rfl) (run_loadVar_row ((wr.drew.setRow w.heap.size (Cs8 zs)).setRow (w.heap.size + 1) #[.int .i64 (y : Nat), .int .i64 (z : Nat)]) _ _ _ _ (0, 0) _ F7.out Try.underlying25 rfl infoF)) rfl ⟨?_, HB7.out⟩
            rw [E1.out, E2.out, HZQ.out]
    · have hne : ((L : Int) != 32) = true := by simp; omega
      have hne2 : ¬ (L : Int) = 32 := by omega
      have e1 : F = (6, 0) := by rw [HFR.out, if_pos (by rw [← HYY.out]; exact HY0.out), if_neg (by rw [← HL.out]; exact hLN)]
      have e2 : Y = List.replicate 32 0 := by rw [HFB.out, if_neg (by rw [← HL.out]; intro ⟨_, h⟩; exact hLN h)]
      have E1 := Lib.hid e1
      have E2 := Lib.hid e2
      clear e1 e2
      have k6 : ∀ w, Calls Try.prog 28 #[.int .i64 6, .int .i64 0] w (RetV (.agg #[.int .i64 6, .int .i64 0]) w) := fun w => rfault_c 6 0 w
      have K6 := Lib.hid k6
      clear k6
      go_wp2_with fail
      generalize hW4 : w1.alloc (.cells #[.int .i64 (y : Nat), .int .i64 (z : Nat)] 25) = W4' at *
      clear hW4 d0 d1 g0 g1
      refine wp_region_see 2 [21, 22] [(21, .is (BV (List.replicate 32 0))), (22, .is (.agg #[.int .i64 6, .int .i64 0]))] (by kernel_rfl) (by kernel_rfl) (by rfl) ?_ ?_
      · refine seeOps_cons ?_ (seeOps_cons ?_ seeOps_nil)
        · intro w' hb' fr hout hin
          have e4 : fr.tmps.getD 4 undef = .pointer (some ⟨w.heap.size + 1 + 1, 0, none⟩) := hout 4 (by decide)
          clear hout hin
          exact op_loadRow (.tmp 4) rfl e4 (run_loadVar_row w' _ _ _ (Cs8 (List.replicate 32 0)) (0, 0) _ (Y4.out.below hb' Y4.out.lt) Try.underlying38 rfl (by rw [infoHash, cs8_size, HLZ.out])) (wanted_none rfl) rfl
        · intro w' hb' fr hout hin
          clear hout hin
          exact relStep_callV 28 #[.int .i64 6, .int .i64 0] (wanted_none rfl) (K6.out _) (fun _ => rfl) (by go_simp)
      · intro w' hb'
        refine relAsk_in (by rfl) ?_
        intro v9 h9
        obtain rfl : v9 = BV (List.replicate 32 0) := h9
        refine relAsk_in (by rfl) ?_
        intro v10 h10
        obtain rfl : v10 = .agg #[.int .i64 6, .int .i64 0] := h10
        refine relAsk_nil ?_
        have r5 : Row .u8 w' w.heap.size 38 (List.replicate 32 0) := (hb'.block _ (by have := HS4.out; omega)).trans R4.out
        have f5 := (hb'.block (w.heap.size + 1) (by have := HS4.out; omega)).trans F4.out
        refine wpList_store_row rfl 38 (.tmp 2) (.tmp 21) rfl w.heap.size (Cs8 (List.replicate 32 0)) (by go_simp) (by go_simp; try rfl) 38 _ r5 (by rw [infoHash, cs8_size, HLZ.out]) (by simp only [cs8_size]) (cs8_one _) ?_
        have r6 := r5.toSet (List.replicate 32 0)
        have f6 := (setRow_other w' w.heap.size (w.heap.size + 1) (Cs8 (List.replicate 32 0)) (by omega)).trans f5
        have B6 := below_setRow (B4.out.trans (hb'.mono (by have := HS4.out; omega))) (Nat.le_refl w.heap.size) (Cs8 (List.replicate 32 0))
        generalize w'.setRow w.heap.size (Cs8 (List.replicate 32 0)) = W6 at *
        refine wpList_store_row rfl 25 (.tmp 3) (.tmp 22) rfl (w.heap.size + 1) #[.int .i64 6, .int .i64 0] (by go_simp) (by go_simp) 25 _ f6 infoF rfl (by simp [Value.oneCell']) ?_
        have r7 : Row .u8 (W6.setRow (w.heap.size + 1) #[.int .i64 6, .int .i64 0]) w.heap.size 38 (List.replicate 32 0) := (setRow_other W6 (w.heap.size + 1) w.heap.size _ (by omega)).trans r6
        have f7 := setRow_heap W6 (w.heap.size + 1) _ #[.int .i64 6, .int .i64 0] 25 (0, 0) f6
        have B7 := below_setRow B6 (show w.heap.size ≤ w.heap.size + 1 by omega) #[.int .i64 6, .int .i64 0]
        generalize W6.setRow (w.heap.size + 1) #[.int .i64 6, .int .i64 0] = W7 at *
        refine wpList_nil ?_
        have R7 := Lib.hid r7
        have F7 := Lib.hid f7
        have B7 := Lib.hid B7
        clear r5 f5 r6 f6 r7 f7 hb' V4 R4 F4 Y4 B4 HS4 K6
        go_simp
        go_wp2_with fail
        refine bodyPost_ret (v := .tuple #[BV (List.replicate 32 0), .agg #[.int .i64 6, .int .i64 0]]) (results_two_rows Try.results14 _ _ (by rfl) (run_loadVar_row W7 _ _ _ (Cs8 (List.replicate 32 0)) (0, 0) _ R7.out Try.underlying38 rfl (by rw [infoHash, cs8_size, HLZ.out])) (by rfl) (run_loadVar_row W7 _ _ _ _ (0, 0) _ F7.out Try.underlying25 rfl infoF)) rfl ⟨?_, B7.out⟩
        rw [E1.out, E2.out]; rfl
  · have hne : ((y : Int) != 0) = true := by simp; omega
    have e1 : F = (y, z) := by rw [HFR.out, if_neg (by rw [← HYY.out]; exact hy0), HYY.out, HZ.out]
    have e2 : Y = List.replicate 32 0 := by rw [HFB.out, if_neg (by rw [← HYY.out]; intro ⟨h, _⟩; exact hy0 h)]
    have E1 := Lib.hid e1
    have E2 := Lib.hid e2
    clear e1 e2 hy0
    go_wp2_with fail
    generalize hW4 : w1.alloc (.cells #[.int .i64 (y : Nat), .int .i64 (z : Nat)] 25) = W4' at *
    clear hW4 d0 d1 g0 g1
    have r5 : Row .u8 W4'.drew w.heap.size 38 (List.replicate 32 0) := R4.out
    have y5 : Row .u8 W4'.drew (w.heap.size + 1 + 1) 38 (List.replicate 32 0) := Y4.out
    have f5 : W4'.drew.heap[w.heap.size + 1]? = some (.cells #[.int .i64 0, .int .i64 0] 25 (0, 0)) := F4.out
    have v5 : W4'.drew.heap[w1.heap.size]? = some (.cells #[.int .i64 (y : Nat), .int .i64 (z : Nat)] 25 (0, 0)) := V4.out
    have f6 : (W4'.drew.setRow w.heap.size (Cs8 (List.replicate 32 0))).heap[w.heap.size + 1]? = some (.cells #[.int .i64 0, .int .i64 0] 25 (0, 0)) := (setRow_other _ _ _ _ (by omega)).trans f5
    have v6 : (W4'.drew.setRow w.heap.size (Cs8 (List.replicate 32 0))).heap[w1.heap.size]? = some (.cells #[.int .i64 (y : Nat), .int .i64 (z : Nat)] 25 (0, 0)) := (setRow_other _ _ _ _ (by omega)).trans v5
    have r7 : Row .u8 ((W4'.drew.setRow w.heap.size (Cs8 (List.replicate 32 0))).setRow (w.heap.size + 1) #[.int .i64 (y : Nat), .int .i64 (z : Nat)]) w.heap.size 38 (List.replicate 32 0) := (setRow_other _ _ _ _ (by omega)).trans (r5.toSet (List.replicate 32 0))
    have f7 : ((W4'.drew.setRow w.heap.size (Cs8 (List.replicate 32 0))).setRow (w.heap.size + 1) #[.int .i64 (y : Nat), .int .i64 (z : Nat)]).heap[w.heap.size + 1]? = some (.cells #[.int .i64 (y : Nat), .int .i64 (z : Nat)] 25 (0, 0)) := setRow_heap _ _ _ #[.int .i64 (y : Nat), .int .i64 (z : Nat)] 25 (0, 0) f6
    have B7 := below_setRow (below_setRow B4.out.drew (Nat.le_refl w.heap.size) (Cs8 (List.replicate 32 0))) (show w.heap.size ≤ w.heap.size + 1 by omega) #[.int .i64 (y : Nat), .int .i64 (z : Nat)]
    have R5 := Lib.hid r5
    have Y5 := Lib.hid y5
    have V5 := Lib.hid v5
    have F6 := Lib.hid f6
    have V6 := Lib.hid v6
    have R7 := Lib.hid r7
    have F7 := Lib.hid f7
    have HB7 := Lib.hid B7
    clear r5 y5 f5 v5 f6 v6 r7 f7 B7 V4 R4 F4 Y4 B4
    refine wp_region_any (by kernel_rfl) ?_
    change wpAny _ _ _ _ _ _ _ (World.drew _)
    refine wpAny_ready (rs := [0, 1]) (by kernel_rfl) (by simp) ?_
    refine (AllReady.cons rfl (fun K hK => ?_) (AllReady.cons rfl (fun K hK => ?_) AllReady.nil))
    · rw [if_pos (wanted_none rfl)]
      refine wp_load_row 38 (.tmp 4) rfl (w.heap.size + 1 + 1) (by go_simp) 38 (Cs8 (List.replicate 32 0)) (0, 0) _ Y5.out Try.underlying38 rfl (by rw [infoHash, cs8_size, HLZ.out]) ?_
      refine hK _ _ ?_
      clear hK K
      refine wpAny_ready (rs := [1, 2]) (by kernel_rfl) (by simp) ?_
      refine (AllReady.cons rfl (fun K hK => ?_) (AllReady.cons rfl (fun K hK => ?_) AllReady.nil))
      · rw [if_pos (wanted_none rfl)]
        refine wp_load_row 25 (.tmp 6) rfl (w1.heap.size) (by go_simp) 25 #[.int .i64 (y : Nat), .int .i64 (z : Nat)] (0, 0) _ V5.out Try.underlying25 rfl infoF ?_
        refine hK _ _ ?_
        clear hK K
        refine wpAny_ready (rs := [2]) (by kernel_rfl) (by simp) ?_
        refine (AllReady.cons rfl (fun K hK => ?_) AllReady.nil)
        rw [if_pos (wanted_none rfl)]
        refine wp_store_row 38 (.tmp 2) (.tmp 16) rfl w.heap.size (Cs8 (List.replicate 32 0)) (by go_simp) (by go_simp; try rfl) 38 _ R5.out (by rw [infoHash, cs8_size, HLZ.out]) (by first | (simp only [cs8_size]; done) | (simp only [cs8_size]; rw [HLZ.out]; simp)) (cs8_one _) ?_
        refine hK _ _ ?_
        clear hK K
        refine wpAny_ready (rs := [3]) (by kernel_rfl) (by simp) ?_
        refine (AllReady.cons rfl (fun K hK => ?_) AllReady.nil)
        rw [if_pos (wanted_none rfl)]
        refine wp_store_row 25 (.tmp 3) (.tmp 17) rfl (w.heap.size + 1) #[.int .i64 (y : Nat), .int .i64 (z : Nat)] (by go_simp) (by go_simp) 25 _ F6.out infoF rfl (by simp [Value.oneCell']) ?_
        refine hK _ _ ?_
        clear hK K
        refine wpAny_done (by kernel_rfl) ?_ _
        go_simp
        go_wp2_with fail
        refine bodyPost_ret (v := .tuple #[BV (List.replicate 32 0), .agg #[.int .i64 (y : Nat), .int .i64 (z : Nat)]]) (results_two_rows Try.results14 _ _ (by rfl) (run_loadVar_row ((W4'.drew.setRow w.heap.size (Cs8 (List.replicate 32 0))).setRow (w.heap.size + 1) #[.int .i64 (y : Nat), .int .i64 (z : Nat)]) _ _ _ (Cs8 (List.replicate 32 0)) (0, 0) _ R7.out Try.underlying38 rfl (by rw [infoHash, cs8_size, HLZ.out])) (by rfl) (run_loadVar_row ((W4'.drew.setRow w.heap.size (Cs8 (List.replicate 32 0))).setRow (w.heap.size + 1) #[.int .i64 (y : Nat), .int .i64 (z : Nat)]) _ _ _ _ (0, 0) _ F7.out Try.underlying25 rfl infoF)) rfl ⟨?_, HB7.out⟩
        rw [E1.out, E2.out]
      · rw [if_pos (wanted_none rfl)]
        refine wp_store_row 38 (.tmp 2) (.tmp 16) rfl w.heap.size (Cs8 (List.replicate 32 0)) (by go_simp) (by go_simp; try rfl) 38 _ R5.out (by rw [infoHash, cs8_size, HLZ.out]) (by first | (simp only [cs8_size]; done) | (simp only [cs8_size]; rw [HLZ.out]; simp)) (cs8_one _) ?_
        refine hK _ _ ?_
        clear hK K
        refine wpAny_ready (rs := [1]) (by kernel_rfl) (by simp) ?_
        refine (AllReady.cons rfl (fun K hK => ?_) AllReady.nil)
        rw [if_pos (wanted_none rfl)]
        refine wp_load_row 25 (.tmp 6) rfl (w1.heap.size) (by go_simp) 25 #[.int .i64 (y : Nat), .int .i64 (z : Nat)] (0, 0) _ V6.out Try.underlying25 rfl infoF ?_
        refine hK _ _ ?_
        clear hK K
        refine wpAny_ready (rs := [3]) (by kernel_rfl) (by simp) ?_
        refine (AllReady.cons rfl (fun K hK => ?_) AllReady.nil)
        rw [if_pos (wanted_none rfl)]
        refine wp_store_row 25 (.tmp 3) (.tmp 17) rfl (w.heap.size + 1) #[.int .i64 (y : Nat), .int .i64 (z : Nat)] (by go_simp) (by go_simp) 25 _ F6.out infoF rfl (by simp [Value.oneCell']) ?_
        refine hK _ _ ?_
        clear hK K
        refine wpAny_done (by kernel_rfl) ?_ _
        go_simp
        go_wp2_with fail
        refine bodyPost_ret (v := .tuple #[BV (List.replicate 32 0), .agg #[.int .i64 (y : Nat), .int .i64 (z : Nat)]]) (results_two_rows Try.results14 _ _ (by rfl) (run_loadVar_row ((W4'.drew.setRow w.heap.size (Cs8 (List.replicate 32 0))).setRow (w.heap.size + 1) #[.int .i64 (y : Nat), .int .i64 (z : Nat)]) _ _ _ (Cs8 (List.replicate 32 0)) (0, 0) _ R7.out Try.underlying38 rfl (by rw [infoHash, cs8_size, HLZ.out])) (by rfl) (run_loadVar_row ((W4'.drew.setRow w.heap.size (Cs8 (List.replicate 32 0))).setRow (w.heap.size + 1) #[.int .i64 (y : Nat), .int .i64 (z : Nat)]) _ _ _ _ (0, 0) _ F7.out Try.underlying25 rfl infoF)) rfl ⟨?_, HB7.out⟩
        rw [E1.out, E2.out]
    · rw [if_pos (wanted_none rfl)]
      refine wp_load_row 25 (.tmp 6) rfl (w1.heap.size) (by go_simp) 25 #[.int .i64 (y : Nat), .int .i64 (z : Nat)] (0, 0) _ V5.out Try.underlying25 rfl infoF ?_
      refine hK _ _ ?_
      clear hK K
      refine wpAny_ready (rs := [0]) (by kernel_rfl) (by simp) ?_
      refine (AllReady.cons rfl (fun K hK => ?_) AllReady.nil)
      rw [if_pos (wanted_none rfl)]
      refine wp_load_row 38 (.tmp 4) rfl (w.heap.size + 1 + 1) (by go_simp) 38 (Cs8 (List.replicate 32 0)) (0, 0) _ Y5.out Try.underlying38 rfl (by rw [infoHash, cs8_size, HLZ.out]) ?_
      refine hK _ _ ?_
      clear hK K
      refine wpAny_ready (rs := [2]) (by kernel_rfl) (by simp) ?_
      refine (AllReady.cons rfl (fun K hK => ?_) AllReady.nil)
      rw [if_pos (wanted_none rfl)]
      refine wp_store_row 38 (.tmp 2) (.tmp 16) rfl w.heap.size (Cs8 (List.replicate 32 0)) (by go_simp) (by go_simp; try rfl) 38 _ R5.out (by rw [infoHash, cs8_size, HLZ.out]) (by first | (simp only [cs8_size]; done) | (simp only [cs8_size]; rw [HLZ.out]; simp)) (cs8_one _) ?_
      refine hK _ _ ?_
      clear hK K
      refine wpAny_ready (rs := [3]) (by kernel_rfl) (by simp) ?_
      refine (AllReady.cons rfl (fun K hK => ?_) AllReady.nil)
      rw [if_pos (wanted_none rfl)]
      refine wp_store_row 25 (.tmp 3) (.tmp 17) rfl (w.heap.size + 1) #[.int .i64 (y : Nat), .int .i64 (z : Nat)] (by go_simp) (by go_simp) 25 _ F6.out infoF rfl (by simp [Value.oneCell']) ?_
      refine hK _ _ ?_
      clear hK K
      refine wpAny_done (by kernel_rfl) ?_ _
      go_simp
      go_wp2_with fail
      refine bodyPost_ret (v := .tuple #[BV (List.replicate 32 0), .agg #[.int .i64 (y : Nat), .int .i64 (z : Nat)]]) (results_two_rows Try.results14 _ _ (by rfl) (run_loadVar_row ((W4'.drew.setRow w.heap.size (Cs8 (List.replicate 32 0))).setRow (w.heap.size + 1) #[.int .i64 (y : Nat), .int .i64 (z : Nat)]) _ _ _ (Cs8 (List.replicate 32 0)) (0, 0) _ R7.out Try.underlying38 rfl (by rw [infoHash, cs8_size, HLZ.out])) (by rfl) (run_loadVar_row ((W4'.drew.setRow w.heap.size (Cs8 (List.replicate 32 0))).setRow (w.heap.size + 1) #[.int .i64 (y : Nat), .int .i64 (z : Nat)]) _ _ _ _ (0, 0) _ F7.out Try.underlying25 rfl infoF)) rfl ⟨?_, HB7.out⟩
      rw [E1.out, E2.out]
end Go.Proofs.Ytpeebcgeefjpbaa
