/- Package rlp's Encode. -/
import Derived.Test.YtgjiealcjaojaaaRlWrite
import Derived.Deep.RegionWith
namespace Go.Proofs.Ytgjiealcjaojaaa
open Go.RowKit

theorem plan_len : ∀ x, (plan x).length ≤ fsz x := Itm.ind fun l bs xs ih => by
  have hL : ∀ ys : List Itm, (∀ (j : Nat) (x : Itm), ys[j]? = some x → (plan x).length ≤ fsz x) → (planL ys).length ≤ psz ys := by
    intro ys
    induction ys with
    | nil => intro _; simp [planL, psz]
    | cons y ys ih2 =>
      intro h
      have h1 := h 0 y rfl
      have h2 := ih2 fun j x hj => h (j + 1) x hj
      simp only [planL, psz, List.length_append]; omega
  rw [plan, fsz]
  split
  · have := hL xs ih
    have := hsz_pos (psz xs)
    simp only [List.length_cons]; omega
  · simp

/-- What Encode tells: the form, or that it is too deep. -/
def EncR (x : Itm) (w : World) (e : Ending) (w' : World) : Prop := Below w.heap.size w w' ∧
  ((okN x 1024 = true ∧ ∃ v, e = .returned (.tuple #[v, .int .i64 0]) ∧ Acc w' w.heap.size v (form x)) ∨ (okN x 1024 = false ∧ e = .returned (.tuple #[.slice none 0 0, .int .i64 7])))

set_option maxRecDepth 100000 in
set_option maxHeartbeats 6400000 in
theorem encode_c {S : Nat → Prop} (x : Itm) (vx : Value) (w : World) (hx : IAt S w vx x) (hs : fsz x ≤ 16777216) : Calls Try.prog 27 #[vx] w (EncR x w) := by
  obtain ⟨l1, a1, n1, c1, b1, m1, cp1, rfl⟩ := hx.parts
  have hi0 : IAt (fun b => b < w.heap.size) w (.agg #[.bool l1, .slice a1 n1 c1, .slice b1 m1 cp1]) x := hx.mono fun b hb _ => hb
  have hb2 : Below w.heap.size w ((w.alloc (.cells #[.bool l1, .slice a1 n1 c1, .slice b1 m1 cp1] 56)).alloc (.cells #[.slice none 0 0, .int .i64 0] 104)) := ((Below.refl _ _).alloc (Nat.le_refl _) _).alloc (by simp) _
  have hsz : ((w.alloc (.cells #[.bool l1, .slice a1 n1 c1, .slice b1 m1 cp1] 56)).alloc (.cells #[.slice none 0 0, .int .i64 0] 104)).heap.size = w.heap.size + 2 := by simp
  have hcp : ((w.alloc (.cells #[.bool l1, .slice a1 n1 c1, .slice b1 m1 cp1] 56)).alloc (.cells #[.slice none 0 0, .int .i64 0] 104)).heap[w.heap.size + 1]? = some (.cells #[.slice none 0 0, .int .i64 0] 104 (0, 0)) := by
    have := heap_alloc_new (w.alloc (.cells #[.bool l1, .slice a1 n1 c1, .slice b1 m1 cp1] 56)) (.cells #[.slice none 0 0, .int .i64 0] 104)
    simpa using this
  have hci : ((w.alloc (.cells #[.bool l1, .slice a1 n1 c1, .slice b1 m1 cp1] 56)).alloc (.cells #[.slice none 0 0, .int .i64 0] 104)).heap[w.heap.size]? = some (.cells #[.bool l1, .slice a1 n1 c1, .slice b1 m1 cp1] 56 (0, 0)) := by
    rw [Below.heap_alloc _ _ _ (by simp)]
    exact heap_alloc_new w _
  have hpa : PlanAt ((w.alloc (.cells #[.bool l1, .slice a1 n1 c1, .slice b1 m1 cp1] 56)).alloc (.cells #[.slice none 0 0, .int .i64 0] 104)) (w.heap.size + 1) w.heap.size (.slice none 0 0) [] 0 := ⟨hcp, World.ownsRow_nil _ _ _ _⟩
  have hpl := plan_len x
  have cm : Calls Try.prog 59 #[.pointer (some ⟨w.heap.size + 1, 0, none⟩), .agg #[.bool l1, .slice a1 n1 c1, .slice b1 m1 cp1], .int .i64 1024] ((w.alloc (.cells #[.bool l1, .slice a1 n1 c1, .slice b1 m1 cp1] 56)).alloc (.cells #[.slice none 0 0, .int .i64 0] 104)) (MeasR (w.heap.size + 1) w.heap.size (.slice none 0 0) [] 0 1024 x _) :=
    measure_c x (w.heap.size + 1) w.heap.size w.heap.size 1024 0 _ _ _ [] (Nat.le_refl _) (by omega) (Nat.le_refl _) (by rw [hsz]; omega) (hi0.keep hb2) hpa (by omega) (by simp; omega)
  obtain ⟨x0, x1, x2, -, -, -⟩ := three_cells hci
  obtain ⟨i0, hi, hz0, hz1, hz2⟩ := info_u8
  have hmk : ∀ W : World, (Instr.makeSlice 22 (.int .i64 0) (.int .i64 (fsz x : Nat))).run Try.prog W = .ok (.slice (some ⟨W.heap.size, 0, none⟩) 0 (fsz x)) (W.alloc (.cells (madeCells #[.int .u8 0] (fsz x)) 5)) := fun W => by
    have h := run_make (P := Try.prog) W 22 5 i0 (.int .u8 0) Try.underlying22 hi hz0 .i64 .i64 0 (fsz x) (by omega) (by omega) (by rw [hz2]; omega) (by omega)
    simpa [hz1, Value.cells] using h
  have CM := Lib.hid cm
  have HB2 := Lib.hid hb2
  have HSZ := Lib.hid hsz
  have HI0 := Lib.hid hi0
  have HS : Hid (fsz x ≤ 16777216 ∧ (plan x).length ≤ fsz x) := ⟨hs, hpl⟩
  have HCI := Lib.hid hci
  have HPA := Lib.hid hpa
  obtain ⟨F, hF⟩ : ∃ F, F = fsz x := ⟨_, rfl⟩
  rw [← hF] at hmk
  have HF := Lib.hid hF
  clear hx hi0 hb2 hsz hcp hci hpa hpl cm hs hF hi hz0 hz1 hz2
  go_enter Try.func27, Try.ntmps27
  go_wp2_with fail
  (with_reducible refine CM.out.mono ?_)
  rintro e w1 ⟨v1, ns1, hm1, hp1, hres⟩
  have hb1 : Below w.heap.size w w1 := by
    refine ⟨hm1.os.trans HB2.out.os, hm1.tape.trans HB2.out.tape, hm1.output.trans HB2.out.output, Nat.le_trans HB2.out.size hm1.size, fun k hk => (hm1.block k (by rw [HSZ.out]; omega) (by omega) (by simp [Value.ownBlock])).trans (HB2.out.block k hk)⟩
  have HB1 := Lib.hid hb1
  have hbox : w1.heap[w.heap.size]? = some (.cells #[.bool l1, .slice a1 n1 c1, .slice b1 m1 cp1] 56 (0, 0)) := (hm1.block _ (by rw [HSZ.out]; omega) (by omega) (by simp [Value.ownBlock])).trans HCI.out
  have HBX := Lib.hid hbox
  have HP1 := Lib.hid hp1
  clear CM HPA hp1 x0 x1 x2
  rcases hres with ⟨hk1, hk2, rfl⟩ | ⟨hk1, rfl⟩
  · have HK1 := Lib.hid hk1
    have HK2 := Lib.hid hk2
    rw [← HF.out]
    obtain ⟨x0, x1, x2, -, -, -⟩ := three_cells hbox
    have hbm1 : Below w1.heap.size w1 (w1.drew.alloc (.cells (madeCells #[.int .u8 0] F) 5)) := (Below.refl w1.heap.size w1).drew.alloc (Nat.le_refl _) _
    have hbm := hb1.trans (hbm1.mono hb1.size)
    have hacc : Acc (w1.drew.alloc (.cells (madeCells #[.int .u8 0] F) 5)) w.heap.size (.slice (some ⟨w1.heap.size, 0, none⟩) 0 F) [] :=
      World.ownsRow_made w1.drew _ F hb1.size (by unfold maxLen; have := HS.out; have := HF.out; omega) (by have := congrArg List.length (toList_madeCells_one (.int .u8 0) F); simpa using this)
    obtain ⟨y0, y1, y2, -, -, -⟩ := three_cells ((hbm1.block w.heap.size (by have := hm1.size; rw [HSZ.out] at this; omega)).trans hbox)
    have cw := write_c x (w.heap.size + 1) w.heap.size w.heap.size w.heap.size 0 _ v1 (.slice (some ⟨w1.heap.size, 0, none⟩) 0 F) _ ns1 [] [] (by omega) (Nat.le_refl _) hbm.size (HI0.out.keep hbm) (HP1.out.below hbm1) (by rw [hk2]; simp) hacc (by have := HS.out; omega) (by have := HS.out; simp; omega) (by rw [hk2]; have := HS.out; simp; omega)
    have CW := Lib.hid cw
    have HQ : Hid (∀ v' w', Acc w' w.heap.size v' ([] ++ form x) → Mz (w.heap.size + 1) (w1.drew.alloc (.cells (madeCells #[.int .u8 0] F) 5)) w' (.slice (some ⟨w1.heap.size, 0, none⟩) 0 F) v' → EncR x w (.returned (.tuple #[v', .int .i64 0])) w') := fun v' w' ha hm => by
      refine ⟨⟨hm.os.trans hbm.os, hm.tape.trans hbm.tape, hm.output.trans hbm.output, Nat.le_trans hbm.size hm.size, fun k hk => (hm.block k (Nat.lt_of_lt_of_le hk hbm.size) (by omega) (by simp [Value.ownBlock]; have := hb1.size; omega)).trans (hbm.block k hk)⟩, .inl ⟨HK1.out, v', rfl, by simpa using ha⟩⟩
    have hlt1 : w.heap.size < w1.heap.size := by have := hm1.size; rw [HSZ.out] at this; omega
    have hne1 : ¬ w.heap.size = w1.heap.size := by omega
    have hne2 : ¬ w1.heap.size = w.heap.size := by omega
    clear hk1 hk2 hm1 hb1 hbox hbm hbm1 hacc cw
    go_upto_region 5 with (fail)
    go_region_with (go_at_call 60; refine CW.out.mono ?_; rintro e w3 ⟨v3, rfl, h1, h2, h3⟩
                    have HQ2 := Lib.hid (HQ.out v3 w3 h1 h3)
                    clear h1 h2 h3)
    all_goals go_wp2_with fail
    all_goals go_ret2
    all_goals exact HQ2.out
  · have HQ : Hid (EncR x w (.returned (.tuple #[.slice none 0 0, .int .i64 7])) w1) := ⟨hb1, .inr ⟨hk1, rfl⟩⟩
    clear hk1 hm1 hb1 hbox
    go_wp2_with fail
    go_ret2
    exact HQ.out
end Go.Proofs.Ytgjiealcjaojaaa
