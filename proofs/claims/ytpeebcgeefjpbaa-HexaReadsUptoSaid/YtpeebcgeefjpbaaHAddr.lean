/- The contracts of package hexa's Address and Hash. -/
import Derived.Test.YtpeebcgeefjpbaaHFill
import Derived.Test.YtpeebcgeefjpbaaArr32
import Derived.Test.YtpeebcgeefjpbaaFacts
namespace Go.Proofs.Ytpeebcgeefjpbaa
open Go.RowKit

theorem fbytes_len (N : Nat) (s : ByteArray) : (fbytes N s).length = N := by
  unfold fbytes
  split
  · rename_i h; exact h.2
  · simp
section
variable {ops : Array Oper} {T : Facts} {o : Oper} {a : Act} {w : World}
theorem op_loadRow {g : Nat} {ty : TypeId} {cs : Array Value} (x : Operand) (ho : o.op = .load ty x) (hx : a.eval x = .pointer (some ⟨g, 0, none⟩)) (hv : (loadVar ty ⟨g, 0, none⟩).run Try.prog w = .ok (.agg cs) w)
    (hw : Region.wanted o (yielded ops a.tmps) = true) (hf : factTo T o.dst (.agg cs) w) : relStep Try.prog ops T o a w :=
  relStep_val (.agg cs) hw hf (by
    unfold execOp
    simp only [ho, hx, Instr.loadAt, Instr.sureAddr, Sem.run_bind, Sem.run_pure, Result.andThen_ok, hv])
end
theorem results_two_rows {fn : Func} {p p2 : Tmp} {ty ty2 : TypeId} (h : fn.results = #[.cell p ty, .cell p2 ty2]) (tmps : Array Value) (w : World) {g g2 : Nat} {cs cs2 : Array Value}
    (hp : tmps.getD p undef = .pointer (some ⟨g, 0, none⟩)) (hv : (loadVar ty ⟨g, 0, none⟩).run Try.prog w = .ok (.agg cs) w)
    (hp2 : tmps.getD p2 undef = .pointer (some ⟨g2, 0, none⟩)) (hv2 : (loadVar ty2 ⟨g2, 0, none⟩).run Try.prog w = .ok (.agg cs2) w) :
    (results fn tmps).run Try.prog w = .ok (.tuple #[.agg cs, .agg cs2]) w := by
  have hp' : tmps[p]?.getD undef = .pointer (some ⟨g, 0, none⟩) := by simpa using hp
  have hp2' : tmps[p2]?.getD undef = .pointer (some ⟨g2, 0, none⟩) := by simpa using hp2
  simp [results, h, hp', hp2', asAddr, hv, hv2]
theorem infoF : (Try.prog.info? 25).map (·.size) = some 2 := by kernel_rfl

theorem infoAddress : (Try.prog.info? 34).map (·.size) = some 20 := by kernel_rfl
set_option maxRecDepth 100000 in
set_option maxHeartbeats 6400000 in
theorem address_h (s : ByteArray) (w : World) (hs : s.size ≤ 1073741824) : Calls Try.prog 11 #[.string s] w fun e w' =>
    e = .returned (.tuple #[BV (fbytes 20 s), .agg #[.int .i64 ((fres 20 s).1 : Nat), .int .i64 ((fres 20 s).2 : Nat)]]) ∧ Below w.heap.size w w' := by
  obtain ⟨Y, hY⟩ : ∃ Y, Y = fbytes 20 s := ⟨_, rfl⟩
  obtain ⟨F1, hF1⟩ : ∃ F, F = (fres 20 s).1 := ⟨_, rfl⟩
  obtain ⟨F2, hF2⟩ : ∃ F, F = (fres 20 s).2 := ⟨_, rfl⟩
  have hl : Y.length = 20 := by rw [hY]; exact fbytes_len _ _
  have k1 := fun (g : Nat) (w : World) (h : Row .u8 w g 34 (List.replicate 20 0)) => fill_c 20 g 34 s w hs (by decide) (by decide) h
  rw [← hY, ← hF1, ← hF2] at k1
  rw [← hY, ← hF1, ← hF2]
  have K1 := Lib.hid k1
  have HLEN := Lib.hid hl
  clear k1 hY hF1 hF2 hl
  go_enter Try.func11, Try.ntmps11
  go_upto_region 2 with (fail)
  have r0 : Row .u8 (w.alloc (.cells #[.int .u8 0, .int .u8 0, .int .u8 0, .int .u8 0, .int .u8 0, .int .u8 0, .int .u8 0, .int .u8 0, .int .u8 0, .int .u8 0, .int .u8 0, .int .u8 0, .int .u8 0, .int .u8 0, .int .u8 0, .int .u8 0, .int .u8 0, .int .u8 0, .int .u8 0, .int .u8 0] 34)) w.heap.size 34 (List.replicate 20 0) := Row.new (k := .u8) w 34 (List.replicate 20 0)
  have r1 : Row .u8 (((w.alloc (.cells #[.int .u8 0, .int .u8 0, .int .u8 0, .int .u8 0, .int .u8 0, .int .u8 0, .int .u8 0, .int .u8 0, .int .u8 0, .int .u8 0, .int .u8 0, .int .u8 0, .int .u8 0, .int .u8 0, .int .u8 0, .int .u8 0, .int .u8 0, .int .u8 0, .int .u8 0, .int .u8 0] 34)).alloc (.cells #[.int .i64 0, .int .i64 0] 25)).alloc (.cells #[.int .u8 0, .int .u8 0, .int .u8 0, .int .u8 0, .int .u8 0, .int .u8 0, .int .u8 0, .int .u8 0, .int .u8 0, .int .u8 0, .int .u8 0, .int .u8 0, .int .u8 0, .int .u8 0, .int .u8 0, .int .u8 0, .int .u8 0, .int .u8 0, .int .u8 0, .int .u8 0] 34)) w.heap.size 34 (List.replicate 20 0) := (r0.alloc (.cells #[.int .i64 0, .int .i64 0] 25)).alloc (.cells #[.int .u8 0, .int .u8 0, .int .u8 0, .int .u8 0, .int .u8 0, .int .u8 0, .int .u8 0, .int .u8 0, .int .u8 0, .int .u8 0, .int .u8 0, .int .u8 0, .int .u8 0, .int .u8 0, .int .u8 0, .int .u8 0, .int .u8 0, .int .u8 0, .int .u8 0, .int .u8 0] 34)
  have hn2 : ((w.alloc (.cells #[.int .u8 0, .int .u8 0, .int .u8 0, .int .u8 0, .int .u8 0, .int .u8 0, .int .u8 0, .int .u8 0, .int .u8 0, .int .u8 0, .int .u8 0, .int .u8 0, .int .u8 0, .int .u8 0, .int .u8 0, .int .u8 0, .int .u8 0, .int .u8 0, .int .u8 0, .int .u8 0] 34)).alloc (.cells #[.int .i64 0, .int .i64 0] 25)).heap.size = w.heap.size + 1 + 1 := by simp
  have r2 : Row .u8 (((w.alloc (.cells #[.int .u8 0, .int .u8 0, .int .u8 0, .int .u8 0, .int .u8 0, .int .u8 0, .int .u8 0, .int .u8 0, .int .u8 0, .int .u8 0, .int .u8 0, .int .u8 0, .int .u8 0, .int .u8 0, .int .u8 0, .int .u8 0, .int .u8 0, .int .u8 0, .int .u8 0, .int .u8 0] 34)).alloc (.cells #[.int .i64 0, .int .i64 0] 25)).alloc (.cells #[.int .u8 0, .int .u8 0, .int .u8 0, .int .u8 0, .int .u8 0, .int .u8 0, .int .u8 0, .int .u8 0, .int .u8 0, .int .u8 0, .int .u8 0, .int .u8 0, .int .u8 0, .int .u8 0, .int .u8 0, .int .u8 0, .int .u8 0, .int .u8 0, .int .u8 0, .int .u8 0] 34)) (w.heap.size + 1 + 1) 34 (List.replicate 20 0) := by
    have h := Row.new (k := .u8) ((w.alloc (.cells #[.int .u8 0, .int .u8 0, .int .u8 0, .int .u8 0, .int .u8 0, .int .u8 0, .int .u8 0, .int .u8 0, .int .u8 0, .int .u8 0, .int .u8 0, .int .u8 0, .int .u8 0, .int .u8 0, .int .u8 0, .int .u8 0, .int .u8 0, .int .u8 0, .int .u8 0, .int .u8 0] 34)).alloc (.cells #[.int .i64 0, .int .i64 0] 25)) 34 (List.replicate 20 0)
    rw [hn2] at h
    exact h
  have f1 : (((w.alloc (.cells #[.int .u8 0, .int .u8 0, .int .u8 0, .int .u8 0, .int .u8 0, .int .u8 0, .int .u8 0, .int .u8 0, .int .u8 0, .int .u8 0, .int .u8 0, .int .u8 0, .int .u8 0, .int .u8 0, .int .u8 0, .int .u8 0, .int .u8 0, .int .u8 0, .int .u8 0, .int .u8 0] 34)).alloc (.cells #[.int .i64 0, .int .i64 0] 25)).alloc (.cells #[.int .u8 0, .int .u8 0, .int .u8 0, .int .u8 0, .int .u8 0, .int .u8 0, .int .u8 0, .int .u8 0, .int .u8 0, .int .u8 0, .int .u8 0, .int .u8 0, .int .u8 0, .int .u8 0, .int .u8 0, .int .u8 0, .int .u8 0, .int .u8 0, .int .u8 0, .int .u8 0] 34)).heap[w.heap.size + 1]? = some (.cells #[.int .i64 0, .int .i64 0] 25 (0, 0)) := by
    rw [Below.heap_alloc _ _ _ (by simp)]
    have := heap_alloc_new (w.alloc (.cells #[.int .u8 0, .int .u8 0, .int .u8 0, .int .u8 0, .int .u8 0, .int .u8 0, .int .u8 0, .int .u8 0, .int .u8 0, .int .u8 0, .int .u8 0, .int .u8 0, .int .u8 0, .int .u8 0, .int .u8 0, .int .u8 0, .int .u8 0, .int .u8 0, .int .u8 0, .int .u8 0] 34)) (.cells #[.int .i64 0, .int .i64 0] 25)
    simpa using this
  have b1 := (((Below.refl w.heap.size w).alloc (Nat.le_refl _) (.cells #[.int .u8 0, .int .u8 0, .int .u8 0, .int .u8 0, .int .u8 0, .int .u8 0, .int .u8 0, .int .u8 0, .int .u8 0, .int .u8 0, .int .u8 0, .int .u8 0, .int .u8 0, .int .u8 0, .int .u8 0, .int .u8 0, .int .u8 0, .int .u8 0, .int .u8 0, .int .u8 0] 34)).alloc (by simp) (.cells #[.int .i64 0, .int .i64 0] 25)).alloc (by simp; omega) (.cells #[.int .u8 0, .int .u8 0, .int .u8 0, .int .u8 0, .int .u8 0, .int .u8 0, .int .u8 0, .int .u8 0, .int .u8 0, .int .u8 0, .int .u8 0, .int .u8 0, .int .u8 0, .int .u8 0, .int .u8 0, .int .u8 0, .int .u8 0, .int .u8 0, .int .u8 0, .int .u8 0] 34)
  generalize ((w.alloc (.cells #[.int .u8 0, .int .u8 0, .int .u8 0, .int .u8 0, .int .u8 0, .int .u8 0, .int .u8 0, .int .u8 0, .int .u8 0, .int .u8 0, .int .u8 0, .int .u8 0, .int .u8 0, .int .u8 0, .int .u8 0, .int .u8 0, .int .u8 0, .int .u8 0, .int .u8 0, .int .u8 0] 34)).alloc (.cells #[.int .i64 0, .int .i64 0] 25)).alloc (.cells #[.int .u8 0, .int .u8 0, .int .u8 0, .int .u8 0, .int .u8 0, .int .u8 0, .int .u8 0, .int .u8 0, .int .u8 0, .int .u8 0, .int .u8 0, .int .u8 0, .int .u8 0, .int .u8 0, .int .u8 0, .int .u8 0, .int .u8 0, .int .u8 0, .int .u8 0, .int .u8 0] 34) = X at *
  have C1 := Lib.hid (K1.out (w.heap.size + 1 + 1) X r2)
  have R1 := Lib.hid r1
  have HF1 := Lib.hid f1
  have B1 := Lib.hid b1
  have hXs : w.heap.size + 3 ≤ X.heap.size := r2.lt
  clear r0 r1 r2 f1 b1 hn2 K1
  go_wp2_with fail
  (with_reducible refine C1.out.mono ?_)
  rintro e w1 ⟨rfl, hY, hb⟩
  have r3 := (hb.block w.heap.size (by omega)).trans R1.out
  have f3 := (hb.block (w.heap.size + 1) (by omega)).trans HF1.out
  have B2 := Lib.hid (B1.out.trans (hb.mono (by omega)))
  have hs1 : w.heap.size + 3 ≤ w1.heap.size := Nat.le_trans hXs hb.size
  have v4 := heap_alloc_new w1 (.cells #[.int .i64 (F1 : Nat), .int .i64 (F2 : Nat)] 25)
  have r4 := (Below.heap_alloc w1 (.cells #[.int .i64 (F1 : Nat), .int .i64 (F2 : Nat)] 25) w.heap.size (by omega)).trans r3
  have f4 := (Below.heap_alloc w1 (.cells #[.int .i64 (F1 : Nat), .int .i64 (F2 : Nat)] 25) (w.heap.size + 1) (by omega)).trans f3
  have y4 := hY.alloc (.cells #[.int .i64 (F1 : Nat), .int .i64 (F2 : Nat)] 25)
  have B4 := Lib.hid (B2.out.alloc (by omega) (.cells #[.int .i64 (F1 : Nat), .int .i64 (F2 : Nat)] 25))
  have V4 := Lib.hid v4
  have R4 := Lib.hid r4
  have F4 := Lib.hid f4
  have Y4 := Lib.hid y4
  have HS4 := Lib.hid (show (w1.alloc (.cells #[.int .i64 (F1 : Nat), .int .i64 (F2 : Nat)] 25)).heap.size = w1.heap.size + 1 by simp)
  obtain ⟨d0, d1, g0, g1⟩ := two_cells v4
  clear C1 R1 HF1 B1 hY hb r3 f3 B2 v4 r4 f4 y4 hXs
  go_wp2_with fail
  generalize hW4 : w1.alloc (.cells #[.int .i64 (F1 : Nat), .int .i64 (F2 : Nat)] 25) = W4' at *
  clear hW4 d0 d1 g0 g1
  have r5 : Row .u8 W4'.drew w.heap.size 34 (List.replicate 20 0) := R4.out
  have y5 : Row .u8 W4'.drew (w.heap.size + 1 + 1) 34 Y := Y4.out
  have f5 : W4'.drew.heap[w.heap.size + 1]? = some (.cells #[.int .i64 0, .int .i64 0] 25 (0, 0)) := F4.out
  have v5 : W4'.drew.heap[w1.heap.size]? = some (.cells #[.int .i64 (F1 : Nat), .int .i64 (F2 : Nat)] 25 (0, 0)) := V4.out
  have f6 : (W4'.drew.setRow w.heap.size (Cs8 Y)).heap[w.heap.size + 1]? = some (.cells #[.int .i64 0, .int .i64 0] 25 (0, 0)) := (setRow_other _ _ _ _ (by omega)).trans f5
  have v6 : (W4'.drew.setRow w.heap.size (Cs8 Y)).heap[w1.heap.size]? = some (.cells #[.int .i64 (F1 : Nat), .int .i64 (F2 : Nat)] 25 (0, 0)) := (setRow_other _ _ _ _ (by omega)).trans v5
  have r7 : Row .u8 ((W4'.drew.setRow w.heap.size (Cs8 Y)).setRow (w.heap.size + 1) #[.int .i64 (F1 : Nat), .int .i64 (F2 : Nat)]) w.heap.size 34 Y := (setRow_other _ _ _ _ (by omega)).trans (r5.toSet Y)
  have f7 : ((W4'.drew.setRow w.heap.size (Cs8 Y)).setRow (w.heap.size + 1) #[.int .i64 (F1 : Nat), .int .i64 (F2 : Nat)]).heap[w.heap.size + 1]? = some (.cells #[.int .i64 (F1 : Nat), .int .i64 (F2 : Nat)] 25 (0, 0)) := setRow_heap _ _ _ #[.int .i64 (F1 : Nat), .int .i64 (F2 : Nat)] 25 (0, 0) f6
  have B7 := below_setRow (below_setRow B4.out.drew (Nat.le_refl w.heap.size) (Cs8 Y)) (show w.heap.size ≤ w.heap.size + 1 by omega) #[.int .i64 (F1 : Nat), .int .i64 (F2 : Nat)]
  have R5 := Lib.hid r5
  have Y5 := Lib.hid y5
  have F5 := Lib.hid f5
  have V5 := Lib.hid v5
  have F6 := Lib.hid f6
  have V6 := Lib.hid v6
  have R7 := Lib.hid r7
  have F7 := Lib.hid f7
  have HB7 := Lib.hid B7
  clear r5 y5 f5 v5 f6 v6 r7 f7 B7 V4 R4 F4 Y4 B4 HS4
  refine wp_region_any (by kernel_rfl) ?_
  change wpAny _ _ _ _ _ _ _ (World.drew _)
  refine wpAny_ready (rs := [0, 1]) (by kernel_rfl) (by simp) ?_
  refine (AllReady.cons rfl (fun K hK => ?_) (AllReady.cons rfl (fun K hK => ?_) AllReady.nil))
  · rw [if_pos (wanted_none rfl)]
    refine wp_load_row 34 (.tmp 4) rfl (w.heap.size + 1 + 1) (by go_simp) 34 (Cs8 Y) (0, 0) _ Y5.out Try.underlying34 rfl (by rw [infoAddress, cs8_size, HLEN.out]) ?_
    refine hK _ _ ?_
    clear hK K
    refine wpAny_ready (rs := [1, 2]) (by kernel_rfl) (by simp) ?_
    refine (AllReady.cons rfl (fun K hK => ?_) (AllReady.cons rfl (fun K hK => ?_) AllReady.nil))
    · rw [if_pos (wanted_none rfl)]
      refine wp_load_row 25 (.tmp 5) rfl w1.heap.size (by go_simp) 25 #[.int .i64 (F1 : Nat), .int .i64 (F2 : Nat)] (0, 0) _ V5.out Try.underlying25 rfl infoF ?_
      refine hK _ _ ?_
      clear hK K
      refine wpAny_ready (rs := [2]) (by kernel_rfl) (by simp) ?_
      refine (AllReady.cons rfl (fun K hK => ?_) AllReady.nil)
      rw [if_pos (wanted_none rfl)]
      refine wp_store_row 34 (.tmp 2) (.tmp 9) rfl w.heap.size (Cs8 Y) (by go_simp) (by go_simp; try rfl) 34 _ R5.out (by rw [infoAddress, cs8_size, HLEN.out]) (by rw [cs8_size, cs8_size, HLEN.out]; simp) (cs8_one _) ?_
      refine hK _ _ ?_
      clear hK K
      refine wpAny_ready (rs := [3]) (by kernel_rfl) (by simp) ?_
      refine (AllReady.cons rfl (fun K hK => ?_) AllReady.nil)
      rw [if_pos (wanted_none rfl)]
      refine wp_store_row 25 (.tmp 3) (.tmp 10) rfl (w.heap.size + 1) #[.int .i64 (F1 : Nat), .int .i64 (F2 : Nat)] (by go_simp) (by go_simp) 25 _ F6.out infoF rfl (by simp [Value.oneCell']) ?_
      refine hK _ _ ?_
      clear hK K
      refine wpAny_done (by kernel_rfl) ?_ _
      go_simp
      go_wp2_with fail
      exact bodyPost_ret (v := .tuple #[BV Y, .agg #[.int .i64 (F1 : Nat), .int .i64 (F2 : Nat)]]) (results_two_rows Try.results11 _ _ (by rfl) (run_loadVar_row ((W4'.drew.setRow w.heap.size (Cs8 Y)).setRow (w.heap.size + 1) #[.int .i64 (F1 : Nat), .int .i64 (F2 : Nat)]) _ _ _ (Cs8 Y) (0, 0) _ R7.out Try.underlying34 rfl (by rw [infoAddress, cs8_size, HLEN.out])) (by rfl) (run_loadVar_row ((W4'.drew.setRow w.heap.size (Cs8 Y)).setRow (w.heap.size + 1) #[.int .i64 (F1 : Nat), .int .i64 (F2 : Nat)]) _ _ _ _ (0, 0) _ F7.out Try.underlying25 rfl infoF)) rfl ⟨rfl, HB7.out⟩
    · rw [if_pos (wanted_none rfl)]
      refine wp_store_row 34 (.tmp 2) (.tmp 9) rfl w.heap.size (Cs8 Y) (by go_simp) (by go_simp; try rfl) 34 _ R5.out (by rw [infoAddress, cs8_size, HLEN.out]) (by rw [cs8_size, cs8_size, HLEN.out]; simp) (cs8_one _) ?_
      refine hK _ _ ?_
      clear hK K
      refine wpAny_ready (rs := [1]) (by kernel_rfl) (by simp) ?_
      refine (AllReady.cons rfl (fun K hK => ?_) AllReady.nil)
      rw [if_pos (wanted_none rfl)]
      refine wp_load_row 25 (.tmp 5) rfl w1.heap.size (by go_simp) 25 #[.int .i64 (F1 : Nat), .int .i64 (F2 : Nat)] (0, 0) _ V6.out Try.underlying25 rfl infoF ?_
      refine hK _ _ ?_
      clear hK K
      refine wpAny_ready (rs := [3]) (by kernel_rfl) (by simp) ?_
      refine (AllReady.cons rfl (fun K hK => ?_) AllReady.nil)
      rw [if_pos (wanted_none rfl)]
      refine wp_store_row 25 (.tmp 3) (.tmp 10) rfl (w.heap.size + 1) #[.int .i64 (F1 : Nat), .int .i64 (F2 : Nat)] (by go_simp) (by go_simp) 25 _ F6.out infoF rfl (by simp [Value.oneCell']) ?_
      refine hK _ _ ?_
      clear hK K
      refine wpAny_done (by kernel_rfl) ?_ _
      go_simp
      go_wp2_with fail
      exact bodyPost_ret (v := .tuple #[BV Y, .agg #[.int .i64 (F1 : Nat), .int .i64 (F2 : Nat)]]) (results_two_rows Try.results11 _ _ (by rfl) (run_loadVar_row ((W4'.drew.setRow w.heap.size (Cs8 Y)).setRow (w.heap.size + 1) #[.int .i64 (F1 : Nat), .int .i64 (F2 : Nat)]) _ _ _ (Cs8 Y) (0, 0) _ R7.out Try.underlying34 rfl (by rw [infoAddress, cs8_size, HLEN.out])) (by rfl) (run_loadVar_row ((W4'.drew.setRow w.heap.size (Cs8 Y)).setRow (w.heap.size + 1) #[.int .i64 (F1 : Nat), .int .i64 (F2 : Nat)]) _ _ _ _ (0, 0) _ F7.out Try.underlying25 rfl infoF)) rfl ⟨rfl, HB7.out⟩
  · rw [if_pos (wanted_none rfl)]
    refine wp_load_row 25 (.tmp 5) rfl w1.heap.size (by go_simp) 25 #[.int .i64 (F1 : Nat), .int .i64 (F2 : Nat)] (0, 0) _ V5.out Try.underlying25 rfl infoF ?_
    refine hK _ _ ?_
    clear hK K
    refine wpAny_ready (rs := [0]) (by kernel_rfl) (by simp) ?_
    refine (AllReady.cons rfl (fun K hK => ?_) AllReady.nil)
    rw [if_pos (wanted_none rfl)]
    refine wp_load_row 34 (.tmp 4) rfl (w.heap.size + 1 + 1) (by go_simp) 34 (Cs8 Y) (0, 0) _ Y5.out Try.underlying34 rfl (by rw [infoAddress, cs8_size, HLEN.out]) ?_
    refine hK _ _ ?_
    clear hK K
    refine wpAny_ready (rs := [2]) (by kernel_rfl) (by simp) ?_
    refine (AllReady.cons rfl (fun K hK => ?_) AllReady.nil)
    rw [if_pos (wanted_none rfl)]
    refine wp_store_row 34 (.tmp 2) (.tmp 9) rfl w.heap.size (Cs8 Y) (by go_simp) (by go_simp; try rfl) 34 _ R5.out (by rw [infoAddress, cs8_size, HLEN.out]) (by rw [cs8_size, cs8_size, HLEN.out]; simp) (cs8_one _) ?_
    refine hK _ _ ?_
    clear hK K
    refine wpAny_ready (rs := [3]) (by kernel_rfl) (by simp) ?_
    refine (AllReady.cons rfl (fun K hK => ?_) AllReady.nil)
    rw [if_pos (wanted_none rfl)]
    refine wp_store_row 25 (.tmp 3) (.tmp 10) rfl (w.heap.size + 1) #[.int .i64 (F1 : Nat), .int .i64 (F2 : Nat)] (by go_simp) (by go_simp) 25 _ F6.out infoF rfl (by simp [Value.oneCell']) ?_
    refine hK _ _ ?_
    clear hK K
    refine wpAny_done (by kernel_rfl) ?_ _
    go_simp
    go_wp2_with fail
    exact bodyPost_ret (v := .tuple #[BV Y, .agg #[.int .i64 (F1 : Nat), .int .i64 (F2 : Nat)]]) (results_two_rows Try.results11 _ _ (by rfl) (run_loadVar_row ((W4'.drew.setRow w.heap.size (Cs8 Y)).setRow (w.heap.size + 1) #[.int .i64 (F1 : Nat), .int .i64 (F2 : Nat)]) _ _ _ (Cs8 Y) (0, 0) _ R7.out Try.underlying34 rfl (by rw [infoAddress, cs8_size, HLEN.out])) (by rfl) (run_loadVar_row ((W4'.drew.setRow w.heap.size (Cs8 Y)).setRow (w.heap.size + 1) #[.int .i64 (F1 : Nat), .int .i64 (F2 : Nat)]) _ _ _ _ (0, 0) _ F7.out Try.underlying25 rfl infoF)) rfl ⟨rfl, HB7.out⟩

theorem infoHash : (Try.prog.info? 38).map (·.size) = some 32 := by kernel_rfl
set_option maxRecDepth 100000 in
set_option maxHeartbeats 6400000 in
theorem hash_h (s : ByteArray) (w : World) (hs : s.size ≤ 1073741824) : Calls Try.prog 13 #[.string s] w fun e w' =>
    e = .returned (.tuple #[BV (fbytes 32 s), .agg #[.int .i64 ((fres 32 s).1 : Nat), .int .i64 ((fres 32 s).2 : Nat)]]) ∧ Below w.heap.size w w' := by
  obtain ⟨Y, hY⟩ : ∃ Y, Y = fbytes 32 s := ⟨_, rfl⟩
  obtain ⟨F1, hF1⟩ : ∃ F, F = (fres 32 s).1 := ⟨_, rfl⟩
  obtain ⟨F2, hF2⟩ : ∃ F, F = (fres 32 s).2 := ⟨_, rfl⟩
  have hl : Y.length = 32 := by rw [hY]; exact fbytes_len _ _
  have k1 := fun (g : Nat) (w : World) (h : Row .u8 w g 38 (List.replicate 32 0)) => fill_c 32 g 38 s w hs (by decide) (by decide) h
  rw [← hY, ← hF1, ← hF2] at k1
  rw [← hY, ← hF1, ← hF2]
  have K1 := Lib.hid k1
  have HLEN := Lib.hid hl
  clear k1 hY hF1 hF2 hl
  go_enter Try.func13, Try.ntmps13
  go_upto_region 2 with (fail)
  have r0 : Row .u8 (w.alloc (.cells #[.int .u8 0, .int .u8 0, .int .u8 0, .int .u8 0, .int .u8 0, .int .u8 0, .int .u8 0, .int .u8 0, .int .u8 0, .int .u8 0, .int .u8 0, .int .u8 0, .int .u8 0, .int .u8 0, .int .u8 0, .int .u8 0, .int .u8 0, .int .u8 0, .int .u8 0, .int .u8 0, .int .u8 0, .int .u8 0, .int .u8 0, .int .u8 0, .int .u8 0, .int .u8 0, .int .u8 0, .int .u8 0, .int .u8 0, .int .u8 0, .int .u8 0, .int .u8 0] 38)) w.heap.size 38 (List.replicate 32 0) := Row.new (k := .u8) w 38 (List.replicate 32 0)
  have r1 : Row .u8 (((w.alloc (.cells #[.int .u8 0, .int .u8 0, .int .u8 0, .int .u8 0, .int .u8 0, .int .u8 0, .int .u8 0, .int .u8 0, .int .u8 0, .int .u8 0, .int .u8 0, .int .u8 0, .int .u8 0, .int .u8 0, .int .u8 0, .int .u8 0, .int .u8 0, .int .u8 0, .int .u8 0, .int .u8 0, .int .u8 0, .int .u8 0, .int .u8 0, .int .u8 0, .int .u8 0, .int .u8 0, .int .u8 0, .int .u8 0, .int .u8 0, .int .u8 0, .int .u8 0, .int .u8 0] 38)).alloc (.cells #[.int .i64 0, .int .i64 0] 25)).alloc (.cells #[.int .u8 0, .int .u8 0, .int .u8 0, .int .u8 0, .int .u8 0, .int .u8 0, .int .u8 0, .int .u8 0, .int .u8 0, .int .u8 0, .int .u8 0, .int .u8 0, .int .u8 0, .int .u8 0, .int .u8 0, .int .u8 0, .int .u8 0, .int .u8 0, .int .u8 0, .int .u8 0, .int .u8 0, .int .u8 0, .int .u8 0, .int .u8 0, .int .u8 0, .int .u8 0, .int .u8 0, .int .u8 0, .int .u8 0, .int .u8 0, .int .u8 0, .int .u8 0] 38)) w.heap.size 38 (List.replicate 32 0) := (r0.alloc (.cells #[.int .i64 0, .int .i64 0] 25)).alloc (.cells #[.int .u8 0, .int .u8 0, .int .u8 0, .int .u8 0, .int .u8 0, .int .u8 0, .int .u8 0, .int .u8 0, .int .u8 0, .int .u8 0, .int .u8 0, .int .u8 0, .int .u8 0, .int .u8 0, .int .u8 0, .int .u8 0, .int .u8 0, .int .u8 0, .int .u8 0, .int .u8 0, .int .u8 0, .int .u8 0, .int .u8 0, .int .u8 0, .int .u8 0, .int .u8 0, .int .u8 0, .int .u8 0, .int .u8 0, .int .u8 0, .int .u8 0, .int .u8 0] 38)
  have hn2 : ((w.alloc (.cells #[.int .u8 0, .int .u8 0, .int .u8 0, .int .u8 0, .int .u8 0, .int .u8 0, .int .u8 0, .int .u8 0, .int .u8 0, .int .u8 0, .int .u8 0, .int .u8 0, .int .u8 0, .int .u8 0, .int .u8 0, .int .u8 0, .int .u8 0, .int .u8 0, .int .u8 0, .int .u8 0, .int .u8 0, .int .u8 0, .int .u8 0, .int .u8 0, .int .u8 0, .int .u8 0, .int .u8 0, .int .u8 0, .int .u8 0, .int .u8 0, .int .u8 0, .int .u8 0] 38)).alloc (.cells #[.int .i64 0, .int .i64 0] 25)).heap.size = w.heap.size + 1 + 1 := by simp
  have r2 : Row .u8 (((w.alloc (.cells #[.int .u8 0, .int .u8 0, .int .u8 0, .int .u8 0, .int .u8 0, .int .u8 0, .int .u8 0, .int .u8 0, .int .u8 0, .int .u8 0, .int .u8 0, .int .u8 0, .int .u8 0, .int .u8 0, .int .u8 0, .int .u8 0, .int .u8 0, .int .u8 0, .int .u8 0, .int .u8 0, .int .u8 0, .int .u8 0, .int .u8 0, .int .u8 0, .int .u8 0, .int .u8 0, .int .u8 0, .int .u8 0, .int .u8 0, .int .u8 0, .int .u8 0, .int .u8 0] 38)).alloc (.cells #[.int .i64 0, .int .i64 0] 25)).alloc (.cells #[.int .u8 0, .int .u8 0, .int .u8 0, .int .u8 0, .int .u8 0, .int .u8 0, .int .u8 0, .int .u8 0, .int .u8 0, .int .u8 0, .int .u8 0, .int .u8 0, .int .u8 0, .int .u8 0, .int .u8 0, .int .u8 0, .int .u8 0, .int .u8 0, .int .u8 0, .int .u8 0, .int .u8 0, .int .u8 0, .int .u8 0, .int .u8 0, .int .u8 0, .int .u8 0, .int .u8 0, .int .u8 0, .int .u8 0, .int .u8 0, .int .u8 0, .int .u8 0] 38)) (w.heap.size + 1 + 1) 38 (List.replicate 32 0) := by
    have h := Row.new (k := .u8) ((w.alloc (.cells #[.int .u8 0, .int .u8 0, .int .u8 0, .int .u8 0, .int .u8 0, .int .u8 0, .int .u8 0, .int .u8 0, .int .u8 0, .int .u8 0, .int .u8 0, .int .u8 0, .int .u8 0, .int .u8 0, .int .u8 0, .int .u8 0, .int .u8 0, .int .u8 0, .int .u8 0, .int .u8 0, .int .u8 0, .int .u8 0, .int .u8 0, .int .u8 0, .int .u8 0, .int .u8 0, .int .u8 0, .int .u8 0, .int .u8 0, .int .u8 0, .int .u8 0, .int .u8 0] 38)).alloc (.cells #[.int .i64 0, .int .i64 0] 25)) 38 (List.replicate 32 0)
    rw [hn2] at h
    exact h
  have f1 : (((w.alloc (.cells #[.int .u8 0, .int .u8 0, .int .u8 0, .int .u8 0, .int .u8 0, .int .u8 0, .int .u8 0, .int .u8 0, .int .u8 0, .int .u8 0, .int .u8 0, .int .u8 0, .int .u8 0, .int .u8 0, .int .u8 0, .int .u8 0, .int .u8 0, .int .u8 0, .int .u8 0, .int .u8 0, .int .u8 0, .int .u8 0, .int .u8 0, .int .u8 0, .int .u8 0, .int .u8 0, .int .u8 0, .int .u8 0, .int .u8 0, .int .u8 0, .int .u8 0, .int .u8 0] 38)).alloc (.cells #[.int .i64 0, .int .i64 0] 25)).alloc (.cells #[.int .u8 0, .int .u8 0, .int .u8 0, .int .u8 0, .int .u8 0, .int .u8 0, .int .u8 0, .int .u8 0, .int .u8 0, .int .u8 0, .int .u8 0, .int .u8 0, .int .u8 0, .int .u8 0, .int .u8 0, .int .u8 0, .int .u8 0, .int .u8 0, .int .u8 0, .int .u8 0, .int .u8 0, .int .u8 0, .int .u8 0, .int .u8 0, .int .u8 0, .int .u8 0, .int .u8 0, .int .u8 0, .int .u8 0, .int .u8 0, .int .u8 0, .int .u8 0] 38)).heap[w.heap.size + 1]? = some (.cells #[.int .i64 0, .int .i64 0] 25 (0, 0)) := by
    rw [Below.heap_alloc _ _ _ (by simp)]
    have := heap_alloc_new (w.alloc (.cells #[.int .u8 0, .int .u8 0, .int .u8 0, .int .u8 0, .int .u8 0, .int .u8 0, .int .u8 0, .int .u8 0, .int .u8 0, .int .u8 0, .int .u8 0, .int .u8 0, .int .u8 0, .int .u8 0, .int .u8 0, .int .u8 0, .int .u8 0, .int .u8 0, .int .u8 0, .int .u8 0, .int .u8 0, .int .u8 0, .int .u8 0, .int .u8 0, .int .u8 0, .int .u8 0, .int .u8 0, .int .u8 0, .int .u8 0, .int .u8 0, .int .u8 0, .int .u8 0] 38)) (.cells #[.int .i64 0, .int .i64 0] 25)
    simpa using this
  have b1 := (((Below.refl w.heap.size w).alloc (Nat.le_refl _) (.cells #[.int .u8 0, .int .u8 0, .int .u8 0, .int .u8 0, .int .u8 0, .int .u8 0, .int .u8 0, .int .u8 0, .int .u8 0, .int .u8 0, .int .u8 0, .int .u8 0, .int .u8 0, .int .u8 0, .int .u8 0, .int .u8 0, .int .u8 0, .int .u8 0, .int .u8 0, .int .u8 0, .int .u8 0, .int .u8 0, .int .u8 0, .int .u8 0, .int .u8 0, .int .u8 0, .int .u8 0, .int .u8 0, .int .u8 0, .int .u8 0, .int .u8 0, .int .u8 0] 38)).alloc (by simp) (.cells #[.int .i64 0, .int .i64 0] 25)).alloc (by simp; omega) (.cells #[.int .u8 0, .int .u8 0, .int .u8 0, .int .u8 0, .int .u8 0, .int .u8 0, .int .u8 0, .int .u8 0, .int .u8 0, .int .u8 0, .int .u8 0, .int .u8 0, .int .u8 0, .int .u8 0, .int .u8 0, .int .u8 0, .int .u8 0, .int .u8 0, .int .u8 0, .int .u8 0, .int .u8 0, .int .u8 0, .int .u8 0, .int .u8 0, .int .u8 0, .int .u8 0, .int .u8 0, .int .u8 0, .int .u8 0, .int .u8 0, .int .u8 0, .int .u8 0] 38)
  generalize ((w.alloc (.cells #[.int .u8 0, .int .u8 0, .int .u8 0, .int .u8 0, .int .u8 0, .int .u8 0, .int .u8 0, .int .u8 0, .int .u8 0, .int .u8 0, .int .u8 0, .int .u8 0, .int .u8 0, .int .u8 0, .int .u8 0, .int .u8 0, .int .u8 0, .int .u8 0, .int .u8 0, .int .u8 0, .int .u8 0, .int .u8 0, .int .u8 0, .int .u8 0, .int .u8 0, .int .u8 0, .int .u8 0, .int .u8 0, .int .u8 0, .int .u8 0, .int .u8 0, .int .u8 0] 38)).alloc (.cells #[.int .i64 0, .int .i64 0] 25)).alloc (.cells #[.int .u8 0, .int .u8 0, .int .u8 0, .int .u8 0, .int .u8 0, .int .u8 0, .int .u8 0, .int .u8 0, .int .u8 0, .int .u8 0, .int .u8 0, .int .u8 0, .int .u8 0, .int .u8 0, .int .u8 0, .int .u8 0, .int .u8 0, .int .u8 0, .int .u8 0, .int .u8 0, .int .u8 0, .int .u8 0, .int .u8 0, .int .u8 0, .int .u8 0, .int .u8 0, .int .u8 0, .int .u8 0, .int .u8 0, .int .u8 0, .int .u8 0, .int .u8 0] 38) = X at *
  have C1 := Lib.hid (K1.out (w.heap.size + 1 + 1) X r2)
  have R1 := Lib.hid r1
  have HF1 := Lib.hid f1
  have B1 := Lib.hid b1
  have hXs : w.heap.size + 3 ≤ X.heap.size := r2.lt
  clear r0 r1 r2 f1 b1 hn2 K1
  go_wp2_with fail
  (with_reducible refine C1.out.mono ?_)
  rintro e w1 ⟨rfl, hY, hb⟩
  have r3 := (hb.block w.heap.size (by omega)).trans R1.out
  have f3 := (hb.block (w.heap.size + 1) (by omega)).trans HF1.out
  have B2 := Lib.hid (B1.out.trans (hb.mono (by omega)))
  have hs1 : w.heap.size + 3 ≤ w1.heap.size := Nat.le_trans hXs hb.size
  have v4 := heap_alloc_new w1 (.cells #[.int .i64 (F1 : Nat), .int .i64 (F2 : Nat)] 25)
  have r4 := (Below.heap_alloc w1 (.cells #[.int .i64 (F1 : Nat), .int .i64 (F2 : Nat)] 25) w.heap.size (by omega)).trans r3
  have f4 := (Below.heap_alloc w1 (.cells #[.int .i64 (F1 : Nat), .int .i64 (F2 : Nat)] 25) (w.heap.size + 1) (by omega)).trans f3
  have y4 := hY.alloc (.cells #[.int .i64 (F1 : Nat), .int .i64 (F2 : Nat)] 25)
  have B4 := Lib.hid (B2.out.alloc (by omega) (.cells #[.int .i64 (F1 : Nat), .int .i64 (F2 : Nat)] 25))
  have V4 := Lib.hid v4
  have R4 := Lib.hid r4
  have F4 := Lib.hid f4
  have Y4 := Lib.hid y4
  have HS4 := Lib.hid (show (w1.alloc (.cells #[.int .i64 (F1 : Nat), .int .i64 (F2 : Nat)] 25)).heap.size = w1.heap.size + 1 by simp)
  obtain ⟨d0, d1, g0, g1⟩ := two_cells v4
  clear C1 R1 HF1 B1 hY hb r3 f3 B2 v4 r4 f4 y4 hXs
  go_wp2_with fail
  generalize hW4 : w1.alloc (.cells #[.int .i64 (F1 : Nat), .int .i64 (F2 : Nat)] 25) = W4' at *
  clear hW4 d0 d1 g0 g1
  have r5 : Row .u8 W4'.drew w.heap.size 38 (List.replicate 32 0) := R4.out
  have y5 : Row .u8 W4'.drew (w.heap.size + 1 + 1) 38 Y := Y4.out
  have f5 : W4'.drew.heap[w.heap.size + 1]? = some (.cells #[.int .i64 0, .int .i64 0] 25 (0, 0)) := F4.out
  have v5 : W4'.drew.heap[w1.heap.size]? = some (.cells #[.int .i64 (F1 : Nat), .int .i64 (F2 : Nat)] 25 (0, 0)) := V4.out
  have f6 : (W4'.drew.setRow w.heap.size (Cs8 Y)).heap[w.heap.size + 1]? = some (.cells #[.int .i64 0, .int .i64 0] 25 (0, 0)) := (setRow_other _ _ _ _ (by omega)).trans f5
  have v6 : (W4'.drew.setRow w.heap.size (Cs8 Y)).heap[w1.heap.size]? = some (.cells #[.int .i64 (F1 : Nat), .int .i64 (F2 : Nat)] 25 (0, 0)) := (setRow_other _ _ _ _ (by omega)).trans v5
  have r7 : Row .u8 ((W4'.drew.setRow w.heap.size (Cs8 Y)).setRow (w.heap.size + 1) #[.int .i64 (F1 : Nat), .int .i64 (F2 : Nat)]) w.heap.size 38 Y := (setRow_other _ _ _ _ (by omega)).trans (r5.toSet Y)
  have f7 : ((W4'.drew.setRow w.heap.size (Cs8 Y)).setRow (w.heap.size + 1) #[.int .i64 (F1 : Nat), .int .i64 (F2 : Nat)]).heap[w.heap.size + 1]? = some (.cells #[.int .i64 (F1 : Nat), .int .i64 (F2 : Nat)] 25 (0, 0)) := setRow_heap _ _ _ #[.int .i64 (F1 : Nat), .int .i64 (F2 : Nat)] 25 (0, 0) f6
  have B7 := below_setRow (below_setRow B4.out.drew (Nat.le_refl w.heap.size) (Cs8 Y)) (show w.heap.size ≤ w.heap.size + 1 by omega) #[.int .i64 (F1 : Nat), .int .i64 (F2 : Nat)]
  have R5 := Lib.hid r5
  have Y5 := Lib.hid y5
  have F5 := Lib.hid f5
  have V5 := Lib.hid v5
  have F6 := Lib.hid f6
  have V6 := Lib.hid v6
  have R7 := Lib.hid r7
  have F7 := Lib.hid f7
  have HB7 := Lib.hid B7
  clear r5 y5 f5 v5 f6 v6 r7 f7 B7 V4 R4 F4 Y4 B4 HS4
  refine wp_region_any (by kernel_rfl) ?_
  change wpAny _ _ _ _ _ _ _ (World.drew _)
  refine wpAny_ready (rs := [0, 1]) (by kernel_rfl) (by simp) ?_
  refine (AllReady.cons rfl (fun K hK => ?_) (AllReady.cons rfl (fun K hK => ?_) AllReady.nil))
  · rw [if_pos (wanted_none rfl)]
    refine wp_load_row 38 (.tmp 4) rfl (w.heap.size + 1 + 1) (by go_simp) 38 (Cs8 Y) (0, 0) _ Y5.out Try.underlying38 rfl (by rw [infoHash, cs8_size, HLEN.out]) ?_
    refine hK _ _ ?_
    clear hK K
    refine wpAny_ready (rs := [1, 2]) (by kernel_rfl) (by simp) ?_
    refine (AllReady.cons rfl (fun K hK => ?_) (AllReady.cons rfl (fun K hK => ?_) AllReady.nil))
    · rw [if_pos (wanted_none rfl)]
      refine wp_load_row 25 (.tmp 5) rfl w1.heap.size (by go_simp) 25 #[.int .i64 (F1 : Nat), .int .i64 (F2 : Nat)] (0, 0) _ V5.out Try.underlying25 rfl infoF ?_
      refine hK _ _ ?_
      clear hK K
      refine wpAny_ready (rs := [2]) (by kernel_rfl) (by simp) ?_
      refine (AllReady.cons rfl (fun K hK => ?_) AllReady.nil)
      rw [if_pos (wanted_none rfl)]
      refine wp_store_row 38 (.tmp 2) (.tmp 9) rfl w.heap.size (Cs8 Y) (by go_simp) (by go_simp; try rfl) 38 _ R5.out (by rw [infoHash, cs8_size, HLEN.out]) (by rw [cs8_size, cs8_size, HLEN.out]; simp) (cs8_one _) ?_
      refine hK _ _ ?_
      clear hK K
      refine wpAny_ready (rs := [3]) (by kernel_rfl) (by simp) ?_
      refine (AllReady.cons rfl (fun K hK => ?_) AllReady.nil)
      rw [if_pos (wanted_none rfl)]
      refine wp_store_row 25 (.tmp 3) (.tmp 10) rfl (w.heap.size + 1) #[.int .i64 (F1 : Nat), .int .i64 (F2 : Nat)] (by go_simp) (by go_simp) 25 _ F6.out infoF rfl (by simp [Value.oneCell']) ?_
      refine hK _ _ ?_
      clear hK K
      refine wpAny_done (by kernel_rfl) ?_ _
      go_simp
      go_wp2_with fail
      exact bodyPost_ret (v := .tuple #[BV Y, .agg #[.int .i64 (F1 : Nat), .int .i64 (F2 : Nat)]]) (results_two_rows Try.results13 _ _ (by rfl) (run_loadVar_row ((W4'.drew.setRow w.heap.size (Cs8 Y)).setRow (w.heap.size + 1) #[.int .i64 (F1 : Nat), .int .i64 (F2 : Nat)]) _ _ _ (Cs8 Y) (0, 0) _ R7.out Try.underlying38 rfl (by rw [infoHash, cs8_size, HLEN.out])) (by rfl) (run_loadVar_row ((W4'.drew.setRow w.heap.size (Cs8 Y)).setRow (w.heap.size + 1) #[.int .i64 (F1 : Nat), .int .i64 (F2 : Nat)]) _ _ _ _ (0, 0) _ F7.out Try.underlying25 rfl infoF)) rfl ⟨rfl, HB7.out⟩
    · rw [if_pos (wanted_none rfl)]
      refine wp_store_row 38 (.tmp 2) (.tmp 9) rfl w.heap.size (Cs8 Y) (by go_simp) (by go_simp; try rfl) 38 _ R5.out (by rw [infoHash, cs8_size, HLEN.out]) (by rw [cs8_size, cs8_size, HLEN.out]; simp) (cs8_one _) ?_
      refine hK _ _ ?_
      clear hK K
      refine wpAny_ready (rs := [1]) (by kernel_rfl) (by simp) ?_
      refine (AllReady.cons rfl (fun K hK => ?_) AllReady.nil)
      rw [if_pos (wanted_none rfl)]
      refine wp_load_row 25 (.tmp 5) rfl w1.heap.size (by go_simp) 25 #[.int .i64 (F1 : Nat), .int .i64 (F2 : Nat)] (0, 0) _ V6.out Try.underlying25 rfl infoF ?_
      refine hK _ _ ?_
      clear hK K
      refine wpAny_ready (rs := [3]) (by kernel_rfl) (by simp) ?_
      refine (AllReady.cons rfl (fun K hK => ?_) AllReady.nil)
      rw [if_pos (wanted_none rfl)]
      refine wp_store_row 25 (.tmp 3) (.tmp 10) rfl (w.heap.size + 1) #[.int .i64 (F1 : Nat), .int .i64 (F2 : Nat)] (by go_simp) (by go_simp) 25 _ F6.out infoF rfl (by simp [Value.oneCell']) ?_
      refine hK _ _ ?_
      clear hK K
      refine wpAny_done (by kernel_rfl) ?_ _
      go_simp
      go_wp2_with fail
      exact bodyPost_ret (v := .tuple #[BV Y, .agg #[.int .i64 (F1 : Nat), .int .i64 (F2 : Nat)]]) (results_two_rows Try.results13 _ _ (by rfl) (run_loadVar_row ((W4'.drew.setRow w.heap.size (Cs8 Y)).setRow (w.heap.size + 1) #[.int .i64 (F1 : Nat), .int .i64 (F2 : Nat)]) _ _ _ (Cs8 Y) (0, 0) _ R7.out Try.underlying38 rfl (by rw [infoHash, cs8_size, HLEN.out])) (by rfl) (run_loadVar_row ((W4'.drew.setRow w.heap.size (Cs8 Y)).setRow (w.heap.size + 1) #[.int .i64 (F1 : Nat), .int .i64 (F2 : Nat)]) _ _ _ _ (0, 0) _ F7.out Try.underlying25 rfl infoF)) rfl ⟨rfl, HB7.out⟩
  · rw [if_pos (wanted_none rfl)]
    refine wp_load_row 25 (.tmp 5) rfl w1.heap.size (by go_simp) 25 #[.int .i64 (F1 : Nat), .int .i64 (F2 : Nat)] (0, 0) _ V5.out Try.underlying25 rfl infoF ?_
    refine hK _ _ ?_
    clear hK K
    refine wpAny_ready (rs := [0]) (by kernel_rfl) (by simp) ?_
    refine (AllReady.cons rfl (fun K hK => ?_) AllReady.nil)
    rw [if_pos (wanted_none rfl)]
    refine wp_load_row 38 (.tmp 4) rfl (w.heap.size + 1 + 1) (by go_simp) 38 (Cs8 Y) (0, 0) _ Y5.out Try.underlying38 rfl (by rw [infoHash, cs8_size, HLEN.out]) ?_
    refine hK _ _ ?_
    clear hK K
    refine wpAny_ready (rs := [2]) (by kernel_rfl) (by simp) ?_
    refine (AllReady.cons rfl (fun K hK => ?_) AllReady.nil)
    rw [if_pos (wanted_none rfl)]
    refine wp_store_row 38 (.tmp 2) (.tmp 9) rfl w.heap.size (Cs8 Y) (by go_simp) (by go_simp; try rfl) 38 _ R5.out (by rw [infoHash, cs8_size, HLEN.out]) (by rw [cs8_size, cs8_size, HLEN.out]; simp) (cs8_one _) ?_
    refine hK _ _ ?_
    clear hK K
    refine wpAny_ready (rs := [3]) (by kernel_rfl) (by simp) ?_
    refine (AllReady.cons rfl (fun K hK => ?_) AllReady.nil)
    rw [if_pos (wanted_none rfl)]
    refine wp_store_row 25 (.tmp 3) (.tmp 10) rfl (w.heap.size + 1) #[.int .i64 (F1 : Nat), .int .i64 (F2 : Nat)] (by go_simp) (by go_simp) 25 _ F6.out infoF rfl (by simp [Value.oneCell']) ?_
    refine hK _ _ ?_
    clear hK K
    refine wpAny_done (by kernel_rfl) ?_ _
    go_simp
    go_wp2_with fail
    exact bodyPost_ret (v := .tuple #[BV Y, .agg #[.int .i64 (F1 : Nat), .int .i64 (F2 : Nat)]]) (results_two_rows Try.results13 _ _ (by rfl) (run_loadVar_row ((W4'.drew.setRow w.heap.size (Cs8 Y)).setRow (w.heap.size + 1) #[.int .i64 (F1 : Nat), .int .i64 (F2 : Nat)]) _ _ _ (Cs8 Y) (0, 0) _ R7.out Try.underlying38 rfl (by rw [infoHash, cs8_size, HLEN.out])) (by rfl) (run_loadVar_row ((W4'.drew.setRow w.heap.size (Cs8 Y)).setRow (w.heap.size + 1) #[.int .i64 (F1 : Nat), .int .i64 (F2 : Nat)]) _ _ _ _ (0, 0) _ F7.out Try.underlying25 rfl infoF)) rfl ⟨rfl, HB7.out⟩
end Go.Proofs.Ytpeebcgeefjpbaa
