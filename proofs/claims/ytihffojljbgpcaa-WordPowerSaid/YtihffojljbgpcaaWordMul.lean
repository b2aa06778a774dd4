/- The contract of package word's Mul: the product modulo 2^256, for any two words. -/
import Derived.Test.YtihffojljbgpcaaWordLeaf
import Derived.Test.YtihffojljbgpcaaWordMem
import Derived.Test.YtihffojljbgpcaaLimbs
import Derived.Deep.RegionWith
namespace Go.Proofs.Ytihffojljbgpcaa
open Go.RowKit

theorem index4 (a0 a1 a2 a3 i : Nat) (hi : i < 4) (w : World) : (Instr.index 24 (W4 a0 a1 a2 a3) (.int .i64 (i : Nat))).run Try.prog w = .ok (.int .u64 (([a0, a1, a2, a3].getD i 0 : Nat) : Int)) w := by
  rcases (show i = 0 ∨ i = 1 ∨ i = 2 ∨ i = 3 by omega) with rfl | rfl | rfl | rfl <;> kernel_rfl

/-- What stands in memory while Mul runs: the product's limbs, the other word, the result's place. -/
def MulMem (w wr : World) (ys cs : List Nat) : Prop := Arr wr (w.heap.size + 1 + 1 + 1) 24 cs ∧ Arr wr (w.heap.size + 1) 24 ys ∧ Arr wr (w.heap.size + 1 + 1) 24 [0, 0, 0, 0] ∧ Below w.heap.size w wr

theorem MulMem.step {w wr : World} {ys cs : List Nat} (h : MulMem w wr ys cs) (j l : Nat) : MulMem w (wr.setCell ⟨w.heap.size + 1 + 1 + 1, j, none⟩ (.int .u64 (l : Int))).drew ys (cs.set j l) :=
  ⟨(h.1.set j l).drew, (h.2.1.far (p := ⟨w.heap.size + 1 + 1 + 1, j, none⟩) (by simp) _).drew, (h.2.2.1.far (p := ⟨w.heap.size + 1 + 1 + 1, j, none⟩) (by simp) _).drew,
    (h.2.2.2.setCell (p := ⟨w.heap.size + 1 + 1 + 1, j, none⟩) (by simp; omega) _).drew⟩

set_option maxRecDepth 100000 in
set_option maxHeartbeats 1000000 in
theorem mul_c {a0 a1 a2 a3 b0 b1 b2 b3 a b : Nat} (ha : IsW a0 a1 a2 a3 a) (hb : IsW b0 b1 b2 b3 b) (w : World) :
    Calls Try.prog 42 #[W4 a0 a1 a2 a3, W4 b0 b1 b2 b3] w (RetW ((a * b) % 115792089237316195423570985008687907853269984665640564039457584007913129639936) w) := by
  go_enter Try.func42, Try.ntmps42
  go_wp2_with fail
  go_loopw [11] (fun i wr => ∃ (k : Nat) (cs : List Nat), k ≤ 4 ∧ i = .int .i64 k ∧ cs.length = 4 ∧ Lims cs ∧ MulOut 4 [a0, a1, a2, a3] [b0, b1, b2, b3] k cs ∧ MulMem w wr [b0, b1, b2, b3] cs)
    (fun i _ => 4 - (intOf i).toNat)
  case atStart =>
    refine ⟨0, [0, 0, 0, 0], by omega, rfl, rfl, Lims.four ?_ ?_ ?_ ?_, mulOut_start _ _ _ _ (by simp [vl]), ?_, ?_, ?_, ?_⟩
    iterate 4 (unfold Lim; omega)
    · have h := Arr.new4z (((w.alloc (.cells #[.int .u64 a0, .int .u64 a1, .int .u64 a2, .int .u64 a3] 24)).alloc (.cells #[.int .u64 b0, .int .u64 b1, .int .u64 b2, .int .u64 b3] 24)).alloc (.cells #[.int .u64 0, .int .u64 0, .int .u64 0, .int .u64 0] 24)) 24
      simpa using h
    · have h := ((Arr.new4 (w.alloc (.cells #[.int .u64 a0, .int .u64 a1, .int .u64 a2, .int .u64 a3] 24)) 24 b0 b1 b2 b3).alloc (.cells #[.int .u64 0, .int .u64 0, .int .u64 0, .int .u64 0] 24)).alloc (.cells #[.int .u64 0, .int .u64 0, .int .u64 0, .int .u64 0] 24)
      simpa using h
    · have h := (Arr.new4z ((w.alloc (.cells #[.int .u64 a0, .int .u64 a1, .int .u64 a2, .int .u64 a3] 24)).alloc (.cells #[.int .u64 b0, .int .u64 b1, .int .u64 b2, .int .u64 b3] 24)) 24).alloc (.cells #[.int .u64 0, .int .u64 0, .int .u64 0, .int .u64 0] 24)
      simpa using h
    · exact ((((Below.refl _ _).alloc (Nat.le_refl _) _).alloc (by simp) _).alloc (by simp; omega) _).alloc (by simp; omega) _
  case round =>
    obtain ⟨i, cs, hi4, rfl, hlen, hlim, hout, hmem⟩ := hrel
    have HL := Lib.hid hlen
    clear hlen
    by_cases hlt : i < 4
    · have hix := index4 a0 a1 a2 a3 i hlt
      obtain ⟨x, hx⟩ : ∃ x, x = [a0, a1, a2, a3].getD i 0 := ⟨_, rfl⟩
      rw [← hx] at hix
      have lx : Lim x := by rw [hx]; exact ha.limsList.get i
      have HX := Lib.hid hx
      clear hx
      have hd : decide ((i : Int) < 4) = true := by simp; omega
      go_wp2_with fail
      clear hix hd
      obtain ⟨wo, HW⟩ : ∃ wo : World, Hid (wo = wr) := ⟨_, rfl⟩
      go_loopw [8, 9] (fun c k wq => ∃ (carry j : Nat) (ds : List Nat), i ≤ j ∧ j ≤ 4 ∧ c = .int .u64 carry ∧ k = .int .i64 j ∧ Lim carry ∧ ds.length = 4 ∧ Lims ds ∧ MulIn 4 [a0, a1, a2, a3] [b0, b1, b2, b3] i j carry ds ∧ MulMem w wq [b0, b1, b2, b3] ds)
        (fun _ k _ => 4 - (intOf k).toNat)
      case atStart => exact ⟨0, i, cs, Nat.le_refl _, hi4, rfl, rfl, by unfold Lim; omega, HL.out, hlim, mulIn_start hout, hmem⟩
      case round =>
        obtain ⟨carry, j, ds, hij, hj4, rfl, rfl, lc, hlen2, hlim2, hin, hmem2⟩ := hrel
        by_cases hjl : j < 4
        · have cj := hmem2.1.cell j (by omega)
          have fj := hmem2.1.frozen j
          have cb := hmem2.2.1.cell (j - i) (by simp; omega)
          obtain ⟨y, hy⟩ : ∃ y, y = ds.getD j 0 := ⟨_, rfl⟩
          obtain ⟨z, hz⟩ : ∃ z, z = [b0, b1, b2, b3].getD (j - i) 0 := ⟨_, rfl⟩
          rw [← hy] at cj
          rw [← hz] at cb
          have ly : Lim y := by rw [hy]; exact hlim2.get j
          have lz : Lim z := by rw [hz]; exact hb.limsList.get (j - i)
          have HY := Lib.hid hy
          have HZ2 := Lib.hid hz
          have HL2 := Lib.hid hlen2
          clear hy hz hlen2
          go_wp2_with fail
          have hw : IntKind.i64.wrap ((j : Int) - i) = ((j - i : Nat) : Int) := by rw [IntWalk.i64_in _ (by omega)]; omega
          go_region_with (go_at_call 112; refine (mulAdd_c _ _ _ _ lx lz ly lc _).mono ?_; rintro e w1 ⟨h, l, rfl, hM, rfl⟩)
          all_goals
            clear hw cj fj cb
            go_wp2_with fail
            go_roundw
            case rel =>
              rw [HX.out, HZ2.out, HY.out] at hM
              exact ⟨h, j + 1, ds.set j l, by omega, by omega, rfl, by go_num, hM.2.2, by rw [List.length_set]; exact HL2.out, hlim2.set j l hM.2.1, mulIn_step hin hij (by rw [HL2.out]; exact hjl) (by simp; omega) hM, hmem2.step j l⟩
            case measure => simp [intOf]; omega
        · go_wp2_with fail
          go_roundw
          case rel =>
            obtain rfl : j = 4 := by omega
            exact ⟨i + 1, ds, by omega, by go_num, hlen2, hlim2, mulIn_end hin hi4 (by simp; omega) (by simp), hmem2⟩
          case measure => simp [intOf]; omega
    · obtain ⟨c0, c1, c2, c3, rfl⟩ := list4 HL.out
      obtain ⟨z0, z1, z2, z3⟩ := hmem.1.cells4
      obtain ⟨y0, y1, y2, y3⟩ := hmem.2.2.1.cells4
      obtain ⟨f0, f1, f2, f3⟩ := hmem.2.2.1.free4
      go_wp2_with fail
      obtain rfl : i = 4 := by omega
      have hv := mulOut_end hout hlim rfl
      have hB := hmem.2.2.2
      refine bodyPost_ret (v := W4 c0 c1 c2 c3) (by simp [results, Try.results42, go_sem, y0, y1, y2, y3]) rfl ⟨c0, c1, c2, c3, rfl, (isW_val hlim).eq (by rw [hv, ha.vals, hb.vals]), ?_⟩
      repeat (first | exact hB | refine Below.setCell ?_ (by simp; try omega) _)
end Go.Proofs.Ytihffojljbgpcaa
