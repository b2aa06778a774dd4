/- The laws' wakes of layer 13 is true. -/
import Derived.Test.YtijoafmbmplgcaaDoorFkApi
namespace Go.Proofs.YtijoafmbmplgcaaDoor
open Go.RowKit

theorem infoRulesC (f : Int) : (Tryd.prog.info? 41).map (·.size) = some (RulesC f).size := infoRules
theorem rules_one (f : Int) : (RulesC f).all (·.oneCell') = true := by simp [RulesC, Value.oneCell']

set_option maxRecDepth 100000 in
set_option maxHeartbeats 6400000 in
theorem fkwakes_c (w : World) (hN : NamesAt w) : Calls Tryd.prog 13 #[] w (RetV (.bool true) w) := by
  have KO : Hid (∀ W, Calls Tryd.prog 14 #[.int .i64 9] W (RetV (.tuple #[.agg (RulesC 9), .int .i64 0]) W)) := fun W => cOf 9 W
  have K1 : Hid (∀ W, Calls Tryd.prog 18 #[.int .i64 1, .int .i64 244] W (RetV (.bool true) W)) := fun W => cOp 1 244 W
  have K2 : Hid (∀ W, Calls Tryd.prog 18 #[.int .i64 0, .int .i64 244] W (RetV (.bool false) W)) := fun W => cOp 0 244 W
  have HN := Lib.hid hN
  clear hN
  have K3 : Hid (∀ W, NamesAt W → Calls Tryd.prog 16 #[.int .i64 15] W (RetV (.string ⟨#[67, 97, 110, 99, 117, 110]⟩) W)) := fun W hW => cName 15 (by omega) W hW
  go_enter Tryd.func13, Tryd.ntmps13
  go_wp2_with fail
  rename_i KK hKK
  (with_reducible refine (KO.out _).mono ?_)
  rintro e w1 ⟨rfl, hb1⟩
  show KK _ _
  refine hKK _ _ ?_
  clear hKK KK
  iterate 4 (refine wpList_plain rfl fun K hK => ?_; go_simp; refine hK _ _ ?_; clear hK K)
  have hg : (w1.alloc (.cells Rules0C 41)).heap[w1.heap.size]? = some (.cells Rules0C 41 (0, 0)) := heap_alloc_new w1 _
  have hb : Below w.heap.size w (w1.alloc (.cells Rules0C 41)) := hb1.alloc hb1.size _
  refine wpList_store_row rfl 41 (.tmp 1) (.tmp 5) rfl w1.heap.size (RulesC 9) rfl rfl 41 Rules0C hg (infoRulesC 9) rfl (rules_one 9) ?_
  have hg2 := setRow_heap (w1.alloc (.cells Rules0C 41)) w1.heap.size _ (RulesC 9) 41 (0, 0) hg
  have hb2 := below_setRow hb hb1.size (RulesC 9)
  show wpList _ _ _ _ _ ((w1.alloc (.cells Rules0C 41)).setRow w1.heap.size (RulesC 9))
  generalize (w1.alloc (.cells Rules0C 41)).setRow w1.heap.size (RulesC 9) = Y at *
  have c4 : Y.cell? ⟨w1.heap.size, 4, none⟩ = some (.int .u64 16) := by rw [cell_of_row _ _ 4 _ _ (0, 0) hg2]; rfl
  have c16 : Y.cell? ⟨w1.heap.size, 16, none⟩ = some (.int .u64 2100) := by rw [cell_of_row _ _ 16 _ _ (0, 0) hg2]; rfl
  have HB := Lib.hid hb2
  clear hg hg2 hb hb2 hb1
  refine wpList_plain rfl fun K hK => ?_; go_simp; refine hK _ _ ?_; clear hK K
  refine wpList_nil ?_
  go_simp
  go_wp2_with fail
  (with_reducible refine (K1.out _).mono ?_)
  rintro e w2 ⟨rfl, hb2⟩
  have HB2 := Lib.hid (HB.out.trans (hb2.mono HB.out.size))
  clear hb2 HB c4 c16
  go_wp2_with fail
  (with_reducible refine (K2.out _).mono ?_)
  rintro e w3 ⟨rfl, hb3⟩
  have HB3 := Lib.hid (HB2.out.trans (hb3.mono HB2.out.size))
  clear hb3 HB2
  go_wp2_with fail
  (with_reducible refine (K3.out _ (HN.out.below HB3.out)).mono ?_)
  rintro e w4 ⟨rfl, hb4⟩
  have HB4 := Lib.hid (HB3.out.trans (hb4.mono HB3.out.size))
  clear hb4 HB3
  go_wp2_with fail
  go_ret
  exact ⟨rfl, HB4.out⟩
end Go.Proofs.YtijoafmbmplgcaaDoor
