/- The laws' cut: an item of at most 3,000 parts. -/
import Derived.Test.YtchhnalalplggaaRlTwin2
namespace Go.Proofs.Ytchhnalalplggaa
open Go.RowKit

def cutI (x : Itm) : Itm := (twI 1100 x 3000).1
theorem Tk.below {K : Nat → Prop} {a b : World} {B : Nat} (h : Tk K a b) (hB : B ≤ a.heap.size) (hK : ∀ k, k < B → ¬ K k) : Below B a b := ⟨h.os, h.tape, h.output, h.size, fun k hk => h.block k (by omega) (hK k hk)⟩

set_option maxRecDepth 100000 in
set_option maxHeartbeats 6400000 in
theorem cut_c {S : Nat → Prop} {x : Itm} {v : Value} (w : World) (h : IAt S w v x) :
    Calls Try.prog 12 #[v] w (RetR (fun w' v => IAt (fun b => w.heap.size ≤ b) w' v (cutI x)) w) := by
  obtain ⟨l, a1, m1, c1, b1, k1, d1, rfl⟩ := h.parts
  obtain ⟨Wz, hWz⟩ : ∃ W, W = (((w.alloc (.cells #[.bool l, .slice a1 m1 c1, .slice b1 k1 d1] 25)).alloc (.cells #[.bool false, .slice none 0 0, .slice none 0 0] 25)).alloc (.cells #[.int .i64 3000] 3)) := ⟨_, rfl⟩
  have hsz1 : (w.alloc (.cells #[.bool l, .slice a1 m1 c1, .slice b1 k1 d1] 25)).heap.size = w.heap.size + 1 := by simp
  have hsz2 : ((w.alloc (.cells #[.bool l, .slice a1 m1 c1, .slice b1 k1 d1] 25)).alloc (.cells #[.bool false, .slice none 0 0, .slice none 0 0] 25)).heap.size = w.heap.size + 2 := by simp
  have hbx : Below w.heap.size w Wz := by rw [hWz]; exact (((Below.refl w.heap.size w).alloc (Nat.le_refl _) _).alloc (by simp) _).alloc (by simp; omega) _
  have hp1 : Wz.heap[w.heap.size]? = some (.cells #[.bool l, .slice a1 m1 c1, .slice b1 k1 d1] 25 (0, 0)) := by
    rw [hWz, Below.heap_alloc _ _ _ (by omega), Below.heap_alloc _ _ _ (by omega)]
    exact heap_alloc_new w _
  have hp2 : Wz.heap[w.heap.size + 1]? = some (.cells #[.bool false, .slice none 0 0, .slice none 0 0] 25 (0, 0)) := by
    rw [hWz, Below.heap_alloc _ _ _ (by omega)]
    have := heap_alloc_new (w.alloc (.cells #[.bool l, .slice a1 m1 c1, .slice b1 k1 d1] 25)) (.cells #[.bool false, .slice none 0 0, .slice none 0 0] 25)
    rwa [hsz1] at this
  have hp3 : Wz.heap[w.heap.size + 2]? = some (.cells #[.int .i64 ((3000 : Nat) : Int)] 3 (0, 0)) := by
    have := heap_alloc_new ((w.alloc (.cells #[.bool l, .slice a1 m1 c1, .slice b1 k1 d1] 25)).alloc (.cells #[.bool false, .slice none 0 0, .slice none 0 0] 25)) (.cells #[.int .i64 3000] 3)
    rw [hsz2, ← hWz] at this
    exact this
  have hszW : Wz.heap.size = w.heap.size + 3 := by rw [hWz]; simp
  have C : Calls Try.prog 23 #[.agg #[.bool l, .slice a1 m1 c1, .slice b1 k1 d1], .int .i64 1100, .pointer (some ⟨w.heap.size + 2, 0, none⟩)] Wz (TwR (w.heap.size + 2) 1100 x 3000 Wz) :=
    twin_i 1100 (by omega) (w.heap.size + 2) 3000 x Wz _ ((h.mono (S' := fun b => b ≠ w.heap.size + 2) (fun b hb _ => by omega)).keep hbx) hp3 (by omega) (by omega)
  have HC := Lib.hid C
  have HBX := Lib.hid hbx
  have HP2 := Lib.hid hp2
  have HSZ := Lib.hid hszW
  clear C hbx h hszW
  obtain ⟨x0, x1, x2, -, -, -⟩ := three_cells hp1
  obtain ⟨gc, gf⟩ := int_cell hp3
  clear hp1 hp2 hp3 hsz1 hsz2
  go_enter Try.func12, Try.ntmps12
  go_upto_region 2 with (fail)
  rw [← hWz]
  clear hWz
  go_wp2_with fail
  (with_reducible refine HC.out.mono ?_)
  rintro e w5 ⟨htk, hG5, v5, rfl, hi5⟩
  obtain ⟨l6, a6, n6, c6, b6, m6, cp6, rfl⟩ := hi5.parts
  have hp5 := (htk.block (w.heap.size + 1) (by rw [HSZ.out]; omega) (by omega)).trans HP2.out
  have HB5 := Lib.hid (HBX.out.trans (htk.below (B := w.heap.size) (by rw [HSZ.out]; omega) (fun k hk => by omega)))
  have HI := Lib.hid (hi5.move (w' := ((w5.setCell ⟨w.heap.size + 1, 0, none⟩ (.bool l6)).setCell ⟨w.heap.size + 1, 1, none⟩ (.slice a6 n6 c6)).setCell ⟨w.heap.size + 1, 2, none⟩ (.slice b6 m6 cp6)) (S' := fun b => w.heap.size ≤ b) (by simp) (fun b _ h => by have := HSZ.out; omega) (fun p hp hlt => below_cell_item (by have := HSZ.out; omega)))
  have HP5 := Lib.hid hp5
  obtain ⟨r0, r1, r2, r3, r4, r5⟩ := three_cells hp5
  clear htk hG5 hi5 hp5 x0 x1 x2 gc gf
  go_wp2_with fail
  refine bodyPost_ret (results_item Try.results12 _ _ (w.heap.size + 1) _ _ _ rfl (item_set HP5.out _ _ _)) rfl ⟨_, rfl, HI.out, below_item HB5.out (by omega) _ _ _⟩
theorem cutI_sz (x : Itm) : fsz (cutI x) ≤ 1227000 ∧ isz (cutI x) ≤ 3000 := by
  have := twI_sz 1100 x 3000 (by omega) (by omega)
  unfold cutI
  omega
end Go.Proofs.Ytchhnalalplggaa
