/- The laws' wakes of layer 18, and few. -/
import Derived.Test.YtopeahjdglkheaaDoorCdApi
import Derived.Test.YtopeahjdglkheaaDoorTwin
namespace Go.Proofs.YtopeahjdglkheaaDoor
open Go.RowKit

theorem en_cdWakes (args : Array Value) (w : World) : (callFunc 14 args).run Tryd.prog w = .ok (.enter 14 args) w := by go_simp
theorem en_cdFew (args : Array Value) (w : World) : (callFunc 15 args).run Tryd.prog w = .ok (.enter 15 args) w := by go_simp
theorem wk_name1 : nameZ 1 244 = ⟨#[68, 69, 76, 69, 71, 65, 84, 69, 67, 65, 76, 76]⟩ := by kernel_rfl
theorem wk_name0 : nameZ 0 244 = ⟨#[]⟩ := by kernel_rfl
theorem infoU8' : (Tryd.prog.info? 5).map (fun i => (i.zero, i.size, i.bytes)) = some (some (.int .u8 0), 1, 1) := by kernel_rfl
theorem rd_lit4 (w : World) : Rd .u8 (w.alloc (.cells #[.int .u8 91, .int .u8 96, .int .u8 91, .int .u8 91] 5)) (some ⟨w.heap.size, 0, none⟩) 4 [91, 96, 91, 91] := by
  refine ⟨Nat.le_refl _, (fun h => by cases h), fun _ => ⟨w.heap.size, 0, rfl, by simp, fun j hj => ?_⟩⟩
  have hj : j < 4 := hj
  rw [cell_of_row _ _ (0 + j) _ _ (0, 0) (heap_alloc_new w _)]
  match j, hj with
  | 0, _ => rfl
  | 1, _ => rfl
  | 2, _ => rfl
  | 3, _ => rfl

set_option maxRecDepth 100000 in
set_option maxHeartbeats 6400000 in
theorem cdwakes_c (w : World) : Calls Tryd.prog 14 #[] w (RetV (.bool true) w) := by
  have K1 : Hid (∀ w, Calls Tryd.prog 13 #[.int .i64 1, .int .i64 244] w (RetV (.string ⟨#[68, 69, 76, 69, 71, 65, 84, 69, 67, 65, 76, 76]⟩) w)) := fun w => by rw [← wk_name1]; exact cdName 1 244 w
  have K0 : Hid (∀ w, Calls Tryd.prog 13 #[.int .i64 0, .int .i64 244] w (RetV (.string ⟨#[]⟩) w)) := fun w => by rw [← wk_name0]; exact cdName 0 244 w
  obtain ⟨X, hX⟩ : ∃ X, X = w.alloc (.cells #[.int .u8 91, .int .u8 96, .int .u8 91, .int .u8 91] 5) := ⟨_, rfl⟩
  have KJ : Hid (Calls Tryd.prog 16 #[.slice (some ⟨w.heap.size, 0, none⟩) 4 4] X (JumpsW [91, 96, 91, 91] X)) := by
    have h := cdJumps X (c := 4) (bs := [91, 96, 91, 91]) (by rw [hX]; exact rd_lit4 w) (fun x hx => by simp at hx; omega) (by decide)
    exact h
  have HB : Hid (Below w.heap.size w X) := by rw [hX]; exact (Below.refl _ _).alloc (Nat.le_refl _) _
  have HX := Lib.hid hX
  clear hX
  go_enter Tryd.func14, Tryd.ntmps14
  go_wp2_with (at_builtin; fail)
  rw [show w.alloc (.cells #[.int .u8 91, .int .u8 96, .int .u8 91, .int .u8 91] 5) = X from HX.out.symm]
  (with_reducible refine KJ.out.mono ?_)
  rintro e w1 ⟨A, c, rfl, hat, hb⟩
  obtain ⟨g, rfl, hg, c0⟩ := hat 0 0 rfl
  obtain ⟨g', e', _, c1⟩ := hat 1 3 rfl
  injection e' with e'
  injection e' with e'
  subst e'
  have C0 := Lib.hid c0
  have C1 := Lib.hid c1
  have HG := Lib.hid hg
  have HB1 := Lib.hid (HB.out.trans (hb.mono HB.out.size))
  clear KJ c0 c1 hg hb hat HB HX
  go_wp2_with fail
  (with_reducible refine (K1.out _).mono ?_)
  rintro e w2 ⟨rfl, hb2⟩
  have HB2 := Lib.hid hb2
  clear K1 hb2
  go_wp2_with fail
  (with_reducible refine (K0.out _).mono ?_)
  rintro e w3 ⟨rfl, hb3⟩
  have HB3 := Lib.hid (HB2.out.trans (hb3.mono HB2.out.size))
  have c0 := (HB3.out.cell (p := ⟨g, 0, none⟩) HG.out).trans C0.out
  have c1 := (HB3.out.cell (p := ⟨g, 1, none⟩) HG.out).trans C1.out
  clear K0 hb3 C0 C1
  go_wp2_with fail
  go_ret
  exact ⟨rfl, HB1.out.trans (HB3.out.mono HB1.out.size)⟩

set_option maxRecDepth 100000 in
set_option maxHeartbeats 6400000 in
theorem few_c {A : Option Addr} {c : Nat} {bs : List Nat} (w : World) (h : Rd .u8 w A c bs) (hd : Ds 256 bs) : Calls Tryd.prog 15 #[.slice A bs.length c] w (RetR (fun w' v => Byt w' v (bs.take 3000)) w) := by
  have k := twin_c w h hd 3000 (by omega) (by omega)
  rw [show ((3000 : Nat) : Int) = 3000 from rfl] at k
  have K := Lib.hid k
  clear k
  generalize bs.take 3000 = p at *
  generalize bs.length = n at *
  clear h hd
  go_enter Tryd.func15, Tryd.ntmps15
  go_wp2_with fail
  (with_reducible refine K.out.mono ?_)
  rintro e w1 ⟨v, rfl, ho, hb⟩
  have HO := Lib.hid ho
  clear K ho
  go_wp2_with fail
  go_ret
  exact ⟨_, rfl, HO.out, hb⟩
end Go.Proofs.YtopeahjdglkheaaDoor
