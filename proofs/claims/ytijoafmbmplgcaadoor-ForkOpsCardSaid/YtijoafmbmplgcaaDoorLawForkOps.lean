/- The law ForkOps. (Written by wip/genfkops.py.) -/
import Derived.Test.YtijoafmbmplgcaaDoorFkOps
namespace Go.Proofs.YtijoafmbmplgcaaDoor
open Go.RowKit

set_option maxRecDepth 100000 in
set_option maxHeartbeats 6400000 in
theorem forkOps_c (f op : Int) (bs : List Nat) (hl : bs.length = 20) (hd : Ds 256 bs) (w : World) (hN : NamesAt w) : Calls Tryd.prog 5 #[.int .i64 f, .int .i64 op, AdV bs] w (RetV (.bool true) w) := by
  show Calls Tryd.prog 5 #[.int .i64 f, .int .i64 op, .agg (AdC bs)] w (RetV (.bool true) w)
  have hrow : Row .u8 (w.alloc (.cells (AdC bs) 27)) w.heap.size 27 bs := Row.new (k := .u8) w 27 bs
  have hbel : Below w.heap.size w (w.alloc (.cells (AdC bs) 27)) := (Below.refl _ _).alloc (Nat.le_refl _) _
  have HLT : Hid (w.heap.size < (w.alloc (.cells (AdC bs) 27)).heap.size) := by show _ < _; simp
  have HNX := Lib.hid (hN.below hbel)
  clear hN
  have HR := Lib.hid hrow
  have HB := Lib.hid hbel
  have HL := Lib.hid hl
  have HD := Lib.hid hd
  clear hrow hbel hl hd
  go_enter Tryd.func5, Tryd.ntmps5
  go_upto_region 1 with (fail)
  generalize w.alloc (.cells (AdC bs) 27) = X at *
  refine wp_region_see 20 [7, 8, 9, 10, 11, 12, 13, 14, 15, 16, 17, 18, 19, 20, 21, 22, 23, 24, 25, 6] [(7, .is (.int .i64 f)), (8, .is (.int .i64 op)), (9, .is (.bool (opZ f op))), (10, .is (.int .i64 f)), (11, .is (.int .i64 op)), (12, .is (.bool (opZ f op))), (13, .is (.bool true)), (14, .is (.bool true)), (15, .is (.int .i64 f)), (16, .is (AdV bs)), (17, .is (.int .i64 (nativeZ f bs))), (18, .is (.int .i64 f)), (19, .is (AdV bs)), (20, .is (.int .i64 (nativeZ f bs))), (21, .is (.bool true)), (22, .is (.bool true)), (23, .is (.bool true)), (24, .is (.bool true)), (25, .is (.bool true)), (6, .is (.bool true))] (by kernel_rfl) (by kernel_rfl) (by rfl) ?_ ?_
  · refine seeOps_cons ?_ (seeOps_cons ?_ (seeOps_cons ?_ (seeOps_cons ?_ (seeOps_cons ?_ (seeOps_cons ?_ (seeOps_cons ?_ (seeOps_cons ?_ (seeOps_cons ?_ (seeOps_cons ?_ (seeOps_cons ?_ (seeOps_cons ?_ (seeOps_cons ?_ (seeOps_cons ?_ (seeOps_cons ?_ (seeOps_cons ?_ (seeOps_cons ?_ (seeOps_cons ?_ (seeOps_cons ?_ (seeOps_cons ?_ seeOps_nil)))))))))))))))))))
    · intro w9 hb9 fr hout hin
      have h0 : fr.tmps.getD 0 undef = .int .i64 f := hout 0 (by decide)
      clear hout hin
      exact relStep_move (.tmp 0) rfl (wanted_none rfl) (by show fr.tmps.getD 0 undef = _; rw [h0])
    · intro w9 hb9 fr hout hin
      have h1 : fr.tmps.getD 1 undef = .int .i64 op := hout 1 (by decide)
      clear hout hin
      exact relStep_move (.tmp 1) rfl (wanted_none rfl) (by show fr.tmps.getD 1 undef = _; rw [h1])
    · intro w9 hb9 fr hout hin
      have h7 : fr.tmps.getD 7 undef = .int .i64 f := hin 7 (by decide) (by decide)
      have h8 : fr.tmps.getD 8 undef = .int .i64 op := hin 8 (by decide) (by decide)
      clear hout hin
      exact op_callB (.tmp 7) (.tmp 8) rfl en_fkOp (wanted_none rfl) (by rw [show fr.eval (.tmp 7) = _ from h7, show fr.eval (.tmp 8) = _ from h8]; exact (cOp f op w9).mono fun _ _ h => RetV.ret h) (fun _ _ h => h)
    · intro w9 hb9 fr hout hin
      have h0 : fr.tmps.getD 0 undef = .int .i64 f := hout 0 (by decide)
      clear hout hin
      exact relStep_move (.tmp 0) rfl (wanted_none rfl) (by show fr.tmps.getD 0 undef = _; rw [h0])
    · intro w9 hb9 fr hout hin
      have h1 : fr.tmps.getD 1 undef = .int .i64 op := hout 1 (by decide)
      clear hout hin
      exact relStep_move (.tmp 1) rfl (wanted_none rfl) (by show fr.tmps.getD 1 undef = _; rw [h1])
    · intro w9 hb9 fr hout hin
      have h10 : fr.tmps.getD 10 undef = .int .i64 f := hin 10 (by decide) (by decide)
      have h11 : fr.tmps.getD 11 undef = .int .i64 op := hin 11 (by decide) (by decide)
      clear hout hin
      exact op_callB (.tmp 10) (.tmp 11) rfl en_rfkOp (wanted_none rfl) (by rw [show fr.eval (.tmp 10) = _ from h10, show fr.eval (.tmp 11) = _ from h11]; exact (weak (rop_c f op w9)).mono fun _ _ h => RetV.ret h) (fun _ _ h => h)
    · intro w9 hb9 fr hout hin
      have h9 : fr.tmps.getD 9 undef = .bool (opZ f op) := hin 9 (by decide) (by decide)
      have h12 : fr.tmps.getD 12 undef = .bool (opZ f op) := hin 12 (by decide) (by decide)
      clear hout hin
      exact op_eqBool (.tmp 9) (.tmp 12) _ rfl h9 h12 (wanted_none rfl) rfl
    · intro w9 hb9 fr hout hin
      have h13 : fr.tmps.getD 13 undef = .bool true := hin 13 (by decide) (by decide)
      clear hout hin
      exact relStep_move (.tmp 13) rfl (wanted_none rfl) (by show fr.tmps.getD 13 undef = _; rw [h13])
    · intro w9 hb9 fr hout hin
      have h0 : fr.tmps.getD 0 undef = .int .i64 f := hout 0 (by decide)
      have h14 : fr.tmps.getD 14 undef = .bool true := hin 14 (by decide) (by decide)
      clear hout hin
      exact relStep_move (.tmp 0) rfl (wanted_some (g := 7) (t := 14) (b := true) rfl rfl h14) (by show fr.tmps.getD 0 undef = _; rw [h0])
    · intro w9 hb9 fr hout hin
      have h5 : fr.tmps.getD 5 undef = .pointer (some ⟨w.heap.size, 0, none⟩) := hout 5 (by decide)
      have h14 : fr.tmps.getD 14 undef = .bool true := hin 14 (by decide) (by decide)
      clear hout hin
      exact op_loadAt (.tmp 5) rfl h5 (load_ad (HR.out.below hb9 HLT.out) HL.out) (wanted_some (g := 7) (t := 14) (b := true) rfl rfl h14) rfl
    · intro w9 hb9 fr hout hin
      have h15 : fr.tmps.getD 15 undef = .int .i64 f := hin 15 (by decide) (by decide)
      have h16 : fr.tmps.getD 16 undef = AdV bs := hin 16 (by decide) (by decide)
      have h14 : fr.tmps.getD 14 undef = .bool true := hin 14 (by decide) (by decide)
      clear hout hin
      exact op_callB (.tmp 15) (.tmp 16) rfl en_fkNative (wanted_some (g := 7) (t := 14) (b := true) rfl rfl h14) (by rw [show fr.eval (.tmp 15) = _ from h15, show fr.eval (.tmp 16) = _ from h16]; exact (cNative f bs HL.out HD.out w9).mono fun _ _ h => RetV.ret h) (fun _ _ h => h)
    · intro w9 hb9 fr hout hin
      have h0 : fr.tmps.getD 0 undef = .int .i64 f := hout 0 (by decide)
      have h14 : fr.tmps.getD 14 undef = .bool true := hin 14 (by decide) (by decide)
      clear hout hin
      exact relStep_move (.tmp 0) rfl (wanted_some (g := 7) (t := 14) (b := true) rfl rfl h14) (by show fr.tmps.getD 0 undef = _; rw [h0])
    · intro w9 hb9 fr hout hin
      have h5 : fr.tmps.getD 5 undef = .pointer (some ⟨w.heap.size, 0, none⟩) := hout 5 (by decide)
      have h14 : fr.tmps.getD 14 undef = .bool true := hin 14 (by decide) (by decide)
      clear hout hin
      exact op_loadAt (.tmp 5) rfl h5 (load_ad (HR.out.below hb9 HLT.out) HL.out) (wanted_some (g := 7) (t := 14) (b := true) rfl rfl h14) rfl
    · intro w9 hb9 fr hout hin
      have h18 : fr.tmps.getD 18 undef = .int .i64 f := hin 18 (by decide) (by decide)
      have h19 : fr.tmps.getD 19 undef = AdV bs := hin 19 (by decide) (by decide)
      have h14 : fr.tmps.getD 14 undef = .bool true := hin 14 (by decide) (by decide)
      clear hout hin
      exact op_callB (.tmp 18) (.tmp 19) rfl en_rfkNative (wanted_some (g := 7) (t := 14) (b := true) rfl rfl h14) (by rw [show fr.eval (.tmp 18) = _ from h18, show fr.eval (.tmp 19) = _ from h19]; exact (rnative_c f bs HL.out HD.out w9).mono fun _ _ h => RetV.ret h) (fun _ _ h => h)
    · intro w9 hb9 fr hout hin
      have h17 : fr.tmps.getD 17 undef = .int .i64 (nativeZ f bs) := hin 17 (by decide) (by decide)
      have h20 : fr.tmps.getD 20 undef = .int .i64 (nativeZ f bs) := hin 20 (by decide) (by decide)
      have h14 : fr.tmps.getD 14 undef = .bool true := hin 14 (by decide) (by decide)
      clear hout hin
      exact op_eqI (.tmp 17) (.tmp 20) _ rfl h17 h20 (wanted_some (g := 7) (t := 14) (b := true) rfl rfl h14) rfl
    · intro w9 hb9 fr hout hin
      have h14 : fr.tmps.getD 14 undef = .bool true := hin 14 (by decide) (by decide)
      have h21 : fr.tmps.getD 21 undef = .bool true := hin 21 (by decide) (by decide)
      clear hout hin
      exact relStep_pick (.tmp 14) (.tmp 21) (.const (.bool false)) rfl h14 (wanted_none rfl) (by show fr.tmps.getD 21 undef = _; rw [h21])
    · intro w9 hb9 fr hout hin
      have h22 : fr.tmps.getD 22 undef = .bool true := hin 22 (by decide) (by decide)
      clear hout hin
      exact relStep_move (.tmp 22) rfl (wanted_none rfl) (by show fr.tmps.getD 22 undef = _; rw [h22])
    · intro w9 hb9 fr hout hin
      have h23 : fr.tmps.getD 23 undef = .bool true := hin 23 (by decide) (by decide)
      clear hout hin
      exact op_call0 rfl en_fkWakes (wanted_some (g := 16) (t := 23) (b := true) rfl rfl h23) ((fkwakes_c w9 (HNX.out.below hb9)).mono fun _ _ h => RetV.ret h) (fun _ _ h => h)
    · intro w9 hb9 fr hout hin
      have h23 : fr.tmps.getD 23 undef = .bool true := hin 23 (by decide) (by decide)
      have h24 : fr.tmps.getD 24 undef = .bool true := hin 24 (by decide) (by decide)
      clear hout hin
      exact relStep_pick (.tmp 23) (.tmp 24) (.const (.bool false)) rfl h23 (wanted_none rfl) (by show fr.tmps.getD 24 undef = _; rw [h24])
    · intro w9 hb9 fr hout hin
      have h25 : fr.tmps.getD 25 undef = .bool true := hin 25 (by decide) (by decide)
      clear hout hin
      exact relStep_assign (.tmp 25) rfl (wanted_none rfl) (by show fr.tmps.getD 25 undef = _; rw [h25])
  intro X9 hb9
  refine relAsk_in (by rfl) ?_
  intro v7 h7
  obtain rfl : v7 = .int .i64 f := h7
  refine relAsk_in (by rfl) ?_
  intro v8 h8
  obtain rfl : v8 = .int .i64 op := h8
  refine relAsk_in (by rfl) ?_
  intro v9 h9
  obtain rfl : v9 = .bool (opZ f op) := h9
  refine relAsk_in (by rfl) ?_
  intro v10 h10
  obtain rfl : v10 = .int .i64 f := h10
  refine relAsk_in (by rfl) ?_
  intro v11 h11
  obtain rfl : v11 = .int .i64 op := h11
  refine relAsk_in (by rfl) ?_
  intro v12 h12
  obtain rfl : v12 = .bool (opZ f op) := h12
  refine relAsk_in (by rfl) ?_
  intro v13 h13
  obtain rfl : v13 = .bool true := h13
  refine relAsk_in (by rfl) ?_
  intro v14 h14
  obtain rfl : v14 = .bool true := h14
  refine relAsk_in (by rfl) ?_
  intro v15 h15
  obtain rfl : v15 = .int .i64 f := h15
  refine relAsk_in (by rfl) ?_
  intro v16 h16
  obtain rfl : v16 = AdV bs := h16
  refine relAsk_in (by rfl) ?_
  intro v17 h17
  obtain rfl : v17 = .int .i64 (nativeZ f bs) := h17
  refine relAsk_in (by rfl) ?_
  intro v18 h18
  obtain rfl : v18 = .int .i64 f := h18
  refine relAsk_in (by rfl) ?_
  intro v19 h19
  obtain rfl : v19 = AdV bs := h19
  refine relAsk_in (by rfl) ?_
  intro v20 h20
  obtain rfl : v20 = .int .i64 (nativeZ f bs) := h20
  refine relAsk_in (by rfl) ?_
  intro v21 h21
  obtain rfl : v21 = .bool true := h21
  refine relAsk_in (by rfl) ?_
  intro v22 h22
  obtain rfl : v22 = .bool true := h22
  refine relAsk_in (by rfl) ?_
  intro v23 h23
  obtain rfl : v23 = .bool true := h23
  refine relAsk_in (by rfl) ?_
  intro v24 h24
  obtain rfl : v24 = .bool true := h24
  refine relAsk_in (by rfl) ?_
  intro v25 h25
  obtain rfl : v25 = .bool true := h25
  refine relAsk_in (by rfl) ?_
  intro v6 h6
  obtain rfl : v6 = .bool true := h6
  refine relAsk_nil ?_
  refine wpList_nil ?_
  go_simp
  have HB9 := Lib.hid (HB.out.trans (hb9.mono HB.out.size))
  go_wp2_with fail
  go_ret
  exact ⟨rfl, HB9.out⟩
theorem forkOps_p (w : World) (hN : NamesAt w) (f : Int) (_ : -9223372036854775808 ≤ f) (_ : f < 9223372036854775808) (op : Int) (_ : -9223372036854775808 ≤ op) (_ : op < 9223372036854775808) (bs : List Nat) (hl : bs.length = 20) (hd : Ds 256 bs) :
    Calls Tryd.prog 5 #[.int .i64 f, .int .i64 op, AdV bs] w (RetV (.bool true) w) := forkOps_c f op bs hl hd w hN
end Go.Proofs.YtijoafmbmplgcaaDoor
