/- Package fork: reward, bomb, natives. (Written by wip/genfoof.py.) -/
import Derived.Test.YtijoafmbmplgcaaDoorFoTold
namespace Go.Proofs.YtijoafmbmplgcaaDoor
open Go.RowKit
set_option maxRecDepth 100000 in
set_option maxHeartbeats 6400000 in
theorem reward_c (f : Int) (w : World) : Calls Tryd.prog 30 #[.int .i64 f] w (RetV (.int .u64 (fromZ f 5000000000000000000 [(4, 3000000000000000000), (5, 2000000000000000000), (13, 0)])) w) := by
  have hp := since_new w 66 [(4, 3000000000000000000), (5, 2000000000000000000), (13, 0)] #[.int .i64 4, .int .u64 3000000000000000000, .int .i64 5, .int .u64 2000000000000000000, .int .i64 13, .int .u64 0] rfl
  have C := Lib.hid (told_n f 5000000000000000000 [(4, 3000000000000000000), (5, 2000000000000000000), (13, 0)] 3 _ _ hp rfl (by omega))
  have hb := (Below.refl w.heap.size w).alloc (Nat.le_refl _) (.cells #[.int .i64 4, .int .u64 3000000000000000000, .int .i64 5, .int .u64 2000000000000000000, .int .i64 13, .int .u64 0] 66)
  have HB := Lib.hid hb
  clear hp hb
  go_enter Tryd.func30, Tryd.ntmps30
  go_wp2_with fail
  (with_reducible refine C.out.mono ?_)
  rintro e w1 ⟨rfl, hb1⟩
  have HB1 := Lib.hid (HB.out.trans (hb1.mono HB.out.size))
  clear C HB hb1
  go_wp2_with fail
  go_ret
  exact ⟨rfl, HB1.out⟩
set_option maxRecDepth 100000 in
set_option maxHeartbeats 6400000 in
theorem bomb_c (f : Int) (w : World) : Calls Tryd.prog 31 #[.int .i64 f] w (RetV (.int .u64 (fromZ f 0 [(4, 3000000), (5, 5000000), (8, 9000000), (10, 9700000), (11, 10700000), (12, 11400000), (13, 0)])) w) := by
  have hp := since_new w 66 [(4, 3000000), (5, 5000000), (8, 9000000), (10, 9700000), (11, 10700000), (12, 11400000), (13, 0)] #[.int .i64 4, .int .u64 3000000, .int .i64 5, .int .u64 5000000, .int .i64 8, .int .u64 9000000, .int .i64 10, .int .u64 9700000, .int .i64 11, .int .u64 10700000, .int .i64 12, .int .u64 11400000, .int .i64 13, .int .u64 0] rfl
  have C := Lib.hid (told_n f 0 [(4, 3000000), (5, 5000000), (8, 9000000), (10, 9700000), (11, 10700000), (12, 11400000), (13, 0)] 7 _ _ hp rfl (by omega))
  have hb := (Below.refl w.heap.size w).alloc (Nat.le_refl _) (.cells #[.int .i64 4, .int .u64 3000000, .int .i64 5, .int .u64 5000000, .int .i64 8, .int .u64 9000000, .int .i64 10, .int .u64 9700000, .int .i64 11, .int .u64 10700000, .int .i64 12, .int .u64 11400000, .int .i64 13, .int .u64 0] 66)
  have HB := Lib.hid hb
  clear hp hb
  go_enter Tryd.func31, Tryd.ntmps31
  go_wp2_with fail
  (with_reducible refine C.out.mono ?_)
  rintro e w1 ⟨rfl, hb1⟩
  have HB1 := Lib.hid (HB.out.trans (hb1.mono HB.out.size))
  clear C HB hb1
  go_wp2_with fail
  go_ret
  exact ⟨rfl, HB1.out⟩
set_option maxRecDepth 100000 in
set_option maxHeartbeats 6400000 in
theorem natives_c (f : Int) (w : World) : Calls Tryd.prog 35 #[.int .i64 f] w (RetV (.int .u64 (fromZ f 4 [(4, 8), (7, 9), (15, 10)])) w) := by
  have hp := since_new w 66 [(4, 8), (7, 9), (15, 10)] #[.int .i64 4, .int .u64 8, .int .i64 7, .int .u64 9, .int .i64 15, .int .u64 10] rfl
  have C := Lib.hid (told_n f 4 [(4, 8), (7, 9), (15, 10)] 3 _ _ hp rfl (by omega))
  have hb := (Below.refl w.heap.size w).alloc (Nat.le_refl _) (.cells #[.int .i64 4, .int .u64 8, .int .i64 7, .int .u64 9, .int .i64 15, .int .u64 10] 66)
  have HB := Lib.hid hb
  clear hp hb
  go_enter Tryd.func35, Tryd.ntmps35
  go_wp2_with fail
  (with_reducible refine C.out.mono ?_)
  rintro e w1 ⟨rfl, hb1⟩
  have HB1 := Lib.hid (HB.out.trans (hb1.mono HB.out.size))
  clear C HB hb1
  go_wp2_with fail
  go_ret
  exact ⟨rfl, HB1.out⟩
end Go.Proofs.YtijoafmbmplgcaaDoor
