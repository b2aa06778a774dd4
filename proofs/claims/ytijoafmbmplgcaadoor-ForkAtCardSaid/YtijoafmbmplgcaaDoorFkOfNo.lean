/- Package quarryref13: Of of no fork. -/
import Derived.Test.YtijoafmbmplgcaaDoorFkOf
import Derived.Deep.DeepCutAuto
namespace Go.Proofs.YtijoafmbmplgcaaDoor
open Go.RowKit

/-- No fork's numbers, in cells. -/
def Rules0C : Array Value := #[.int .i64 0, .int .u64 0, .int .u64 0, .int .u64 0, .int .u64 0, .int .u64 0, .int .u64 0, .int .u64 0, .int .i64 0, .int .i64 0, .int .u64 0, .int .u64 0, .int .u64 0, .int .u64 0, .int .u64 0, .int .u64 0, .int .u64 0, .int .u64 0, .int .u64 0, .int .u64 0, .int .u64 0, .int .u64 0, .int .u64 0, .int .u64 0, .int .u64 0, .int .u64 0]
theorem builtRules0 : Tryd.prog.built 41 [] = some Rules0C := by kernel_rfl

set_option maxRecDepth 100000 in
set_option maxHeartbeats 6400000 in
theorem rfkof_no (f : Int) (w : World) (h : f < 0 ∨ 15 < f) : Calls Tryd.prog 15 #[.int .i64 f] w (RetV (.tuple #[Rules0, .bool false]) w) := by
  rcases h with h | h
  all_goals
    go_enter Tryd.func15, Tryd.ntmps15
    go_upto_region 2 with (fail)
    refine wp_region_lit ?_
    refine wpList_buildTo rfl 41 _ rfl (some 10) rfl Rules0C (by simpa using builtRules0) ?_
    have hg : (w.alloc (.cells Rules0C 41)).heap[w.heap.size]? = some (.cells Rules0C 41 (0, 0)) := heap_alloc_new w _
    have hb : Below w.heap.size w (w.alloc (.cells Rules0C 41)) := (Below.refl _ _).alloc (Nat.le_refl _) _
    refine wpList_store_row rfl 41 (.tmp 2) (.tmp 10) rfl w.heap.size Rules0C rfl rfl 41 _ hg infoRules rfl (by simp [Rules0C, Value.oneCell']) ?_
    have hg2 := setRow_heap (w.alloc (.cells Rules0C 41)) w.heap.size _ Rules0C 41 (0, 0) hg
    have hb2 := below_setRow hb (Nat.le_refl w.heap.size) Rules0C
    show wpList _ _ _ _ _ ((w.alloc (.cells Rules0C 41)).setRow w.heap.size Rules0C)
    generalize (w.alloc (.cells Rules0C 41)).setRow w.heap.size Rules0C = Y at *
    have HG2 := Lib.hid hg2
    clear hg hg2 hb
    refine wpList_plain rfl fun K hK => ?_; go_simp; refine hK _ _ ?_; clear hK K
    refine wpList_nil ?_
    go_simp
    go_wp2_with fail
    refine bodyPost_ret (v := .tuple #[Rules0, .bool false]) (results_row_slot Tryd.results15 _ _ rfl (run_loadVar_row Y _ _ _ Rules0C (0, 0) _ HG2.out Tryd.underlying41 rfl infoRules) rfl) rfl ⟨rfl, hb2⟩
end Go.Proofs.YtijoafmbmplgcaaDoor
