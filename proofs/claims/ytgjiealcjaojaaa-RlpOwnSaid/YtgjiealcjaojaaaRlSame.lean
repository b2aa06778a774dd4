/- The laws' Same, of two values that are the same item. -/
import Derived.Test.YtgjiealcjaojaaaRlWakes
import Derived.StillTailTactics
namespace Go.Proofs.Ytgjiealcjaojaaa
open Go.RowKit

mutual
/-- How many items. -/
def isz : Itm → Nat
  | .mk _ _ xs => 1 + iszL xs
def iszL : List Itm → Nat
  | [] => 0
  | x :: xs => isz x + iszL xs
end
theorem isz_pos (x : Itm) : 1 ≤ isz x := by cases x with | mk l bs xs => simp [isz]
theorem iszL_len : ∀ xs : List Itm, xs.length ≤ iszL xs
  | [] => by simp
  | x :: xs => by simp only [List.length_cons, iszL]; have := isz_pos x; have := iszL_len xs; omega
theorem isz_le {xs : List Itm} : ∀ {i : Nat} {x : Itm}, xs[i]? = some x → isz x ≤ iszL xs := by
  induction xs with
  | nil => intro i x h; simp at h
  | cons y ys ih =>
    intro i x h
    cases i with
    | zero => simp at h; subst h; simp [iszL]
    | succ i => simp at h; have := ih h; simp only [iszL]; omega
theorem fstS_sum {raw u r : List Nat} {l : Bool} (h : fstS raw = some (l, u, r)) : r.length + 1 ≤ raw.length ∧ (l = true → u.length + r.length + 1 ≤ raw.length) := by
  unfold fstS at h
  split at h
  · cases h
  · rename_i h0
    split at h
    · cases h
      exact ⟨by rw [List.length_drop]; omega, fun h => by cases h⟩
    · split at h
      · cases h
      · rename_i n u hl
        have h1 : u.length ≤ (raw.drop 1).length := lenS_len hl (Nat.le_refl _)
        rw [List.length_drop] at h1
        split at h
        · cases h
        · split at h
          · cases h
            refine ⟨by rw [List.length_drop]; omega, fun _ => by rw [List.length_take, List.length_drop]; omega⟩
          · split at h
            · cases h
            · cases h
              exact ⟨by rw [List.length_drop]; omega, fun h => by cases h⟩
mutual
theorem ReadR.isz {raw d x r} (h : ReadR raw d (.ok (x, r))) : isz x + r.length ≤ raw.length := by
  match h with
  | .text a =>
    have := (fstS_sum a).1
    simp [Go.Proofs.Ytgjiealcjaojaaa.isz, iszL]; omega
  | .list a _ k =>
    have := (fstS_sum a).2 rfl
    have := k.isz
    simp only [Go.Proofs.Ytgjiealcjaojaaa.isz]; omega
theorem RowR.isz {u d l} (h : RowR u d (.ok l)) : iszL l ≤ u.length := by
  match h with
  | .nil => simp [iszL]
  | .cons _ a k =>
    have := a.isz
    have := k.isz
    simp only [iszL]; omega
end

def SameC (x : Itm) : Prop := ∀ (S S' : Nat → Prop) (w : World) (vx vy : Value), isz x ≤ 1099511627776 → IAt S w vx x → IAt S' w vy x → Calls Try.prog 32 #[vx, vy] w (RetV (.bool true) w)

/-- A part of an item, told by its cells. -/
theorem part_cells {S : Nat → Prop} {w : World} {b off : Nat} {u : Nat → Value} {xs : List Itm} (hu : ∀ j, j < 3 * xs.length → w.cell? ⟨b, off + j, none⟩ = some (u j))
    (hx : ∀ (j : Nat) (x : Itm), xs[j]? = some x → IAt S w (.agg #[u (3 * j), u (3 * j + 1), u (3 * j + 2)]) x) {j : Nat} {x : Itm} (h : xs[j]? = some x) :
    ∃ l a1 n1 c1 a2 n2 c2, w.cell? ⟨b, off + j * 3, none⟩ = some (.bool l) ∧ w.cell? ⟨b, off + j * 3 + 1, none⟩ = some (.slice a1 n1 c1) ∧ w.cell? ⟨b, off + j * 3 + 2, none⟩ = some (.slice a2 n2 c2) ∧ IAt S w (.agg #[.bool l, .slice a1 n1 c1, .slice a2 n2 c2]) x := by
  have hlt : j < xs.length := (List.getElem?_eq_some_iff.1 h).1
  have hIt := hx j x h
  obtain ⟨l1, a1, n1, c1, b1, m1, cp1, hparts⟩ := hIt.parts
  injection hparts with hp1
  have q0 : u (3 * j) = .bool l1 := by have := congrArg (fun z : Array Value => z[0]?) hp1; simpa using this
  have q1 : u (3 * j + 1) = .slice a1 n1 c1 := by have := congrArg (fun z : Array Value => z[1]?) hp1; simpa using this
  have q2 : u (3 * j + 2) = .slice b1 m1 cp1 := by have := congrArg (fun z : Array Value => z[2]?) hp1; simpa using this
  rw [q0, q1, q2] at hIt
  have z0 := hu (3 * j) (by omega)
  have z1 := hu (3 * j + 1) (by omega)
  have z2 := hu (3 * j + 2) (by omega)
  rw [q0, show off + 3 * j = off + j * 3 by omega] at z0
  rw [q1, show off + (3 * j + 1) = off + j * 3 + 1 by omega] at z1
  rw [q2, show off + (3 * j + 2) = off + j * 3 + 2 by omega] at z2
  exact ⟨l1, a1, n1, c1, b1, m1, cp1, z0, z1, z2, hIt⟩

set_option maxRecDepth 100000 in
set_option maxHeartbeats 6400000 in
theorem same_step (l : Bool) (bs : List Nat) (xs : List Itm) (ih : ∀ (j : Nat) (x : Itm), xs[j]? = some x → SameC x) : SameC (.mk l bs xs) := by
  intro S S' w vx vy hsz hx hy
  have hlen : xs.length ≤ 1099511627776 := by have := iszL_len xs; rw [isz] at hsz; omega
  have hiz : ∀ (j : Nat) (x : Itm), xs[j]? = some x → isz x ≤ 1099511627776 := fun j x h => by have := isz_le h; rw [isz] at hsz; omega
  obtain ⟨l1, a1, n1, c1, b1, m1, cp1, rfl⟩ := hx.parts
  obtain ⟨l2, a2, n2, c2, b2, m2, cp2, rfl⟩ := hy.parts
  obtain ⟨hl1, hb1, B1, cap1, g1, o1, u1, hr1, hB1, hc1, hu1, hx1⟩ := hx.inv
  obtain ⟨hl2, hb2, B2, cap2, g2, o2, u2, hr2, hB2, hc2, hu2, hx2⟩ := hy.inv
  injection hl1 with hl1
  injection hl2 with hl2
  injection hr1 with r1 r2 r3
  injection hr2 with r4 r5 r6
  obtain ⟨M, hM⟩ : ∃ M, M = xs.length := ⟨_, rfl⟩
  rw [← hM] at r2 r5 hlen
  subst hl1 hl2 r2 r5 r1 r4 r3 r6
  have hbx : Below w.heap.size w ((w.alloc (.cells #[.bool l2, .slice a1 n1 c1, .slice b1 m2 cp1] 56)).alloc (.cells #[.bool l2, .slice a2 n2 c2, .slice b2 m2 cp2] 56)) := ((Below.refl w.heap.size w).alloc (Nat.le_refl _) (.cells #[.bool l2, .slice a1 n1 c1, .slice b1 m2 cp1] 56)).alloc (by simp) (.cells #[.bool l2, .slice a2 n2 c2, .slice b2 m2 cp2] 56)
  have hsz2 : ((w.alloc (.cells #[.bool l2, .slice a1 n1 c1, .slice b1 m2 cp1] 56)).alloc (.cells #[.bool l2, .slice a2 n2 c2, .slice b2 m2 cp2] 56)).heap.size = w.heap.size + 2 := by simp
  have hp1 : ((w.alloc (.cells #[.bool l2, .slice a1 n1 c1, .slice b1 m2 cp1] 56)).alloc (.cells #[.bool l2, .slice a2 n2 c2, .slice b2 m2 cp2] 56)).heap[w.heap.size]? = some (.cells #[.bool l2, .slice a1 n1 c1, .slice b1 m2 cp1] 56 (0, 0)) := by
    rw [Below.heap_alloc _ _ _ (by simp)]
    exact heap_alloc_new w _
  have hp2 : ((w.alloc (.cells #[.bool l2, .slice a1 n1 c1, .slice b1 m2 cp1] 56)).alloc (.cells #[.bool l2, .slice a2 n2 c2, .slice b2 m2 cp2] 56)).heap[w.heap.size + 1]? = some (.cells #[.bool l2, .slice a2 n2 c2, .slice b2 m2 cp2] 56 (0, 0)) := by
    have := heap_alloc_new (w.alloc (.cells #[.bool l2, .slice a1 n1 c1, .slice b1 m2 cp1] 56)) (.cells #[.bool l2, .slice a2 n2 c2, .slice b2 m2 cp2] 56)
    simpa using this
  have s1 := run_sOf (hb1.below hbx)
  have s2 := run_sOf (hb2.below hbx)
  obtain ⟨x0, x1, x2, -, -, -⟩ := three_cells hp1
  obtain ⟨y0, y1, y2, -, -, -⟩ := three_cells hp2
  have IH := Lib.hid ih
  have HIZ := Lib.hid hiz
  have HBX := Lib.hid hbx
  have HS2 := Lib.hid hsz2
  have HP1 := Lib.hid hp1
  have HP2 := Lib.hid hp2
  have HB1 := Lib.hid hB1
  have HB2 := Lib.hid hB2
  have HC : Hid (xs.length ≤ cp1 ∧ xs.length ≤ cp2 ∧ m2 ≤ 1099511627776) := ⟨hc1, hc2, hlen⟩
  have HM := Lib.hid hM
  have HX1 := Lib.hid (fun j x h => part_cells hu1 hx1 (j := j) (x := x) h)
  have HX2 := Lib.hid (fun j x h => part_cells hu2 hx2 (j := j) (x := x) h)
  clear ih hiz hsz hx hy hb1 hb2 hB1 hB2 hc1 hc2 hu1 hu2 hx1 hx2 hlen hM hbx hsz2 hp1 hp2
  go_enter Try.func32, Try.ntmps32
  go_upto_region 4 with (fail)
  generalize hWe : ((w.alloc (.cells #[.bool l2, .slice a1 n1 c1, .slice b1 m2 cp1] 56)).alloc (.cells #[.bool l2, .slice a2 n2 c2, .slice b2 m2 cp2] 56)) = W at *
  have H0 : Hid (Below W.heap.size W W) := Below.refl _ _
  clear hWe s1 s2 x0 x1 x2 y0 y1 y2
  go_loopw [5] (fun i wr => ∃ j : Nat, j ≤ m2 ∧ i = .int .i64 (j : Int) ∧ Hid (Below W.heap.size W wr))
    (fun i _ => m2 - (intOf i).toNat)
  case atStart => exact ⟨0, by omega, rfl, H0.out⟩
  case round =>
    obtain ⟨j, hj, rfl, hb⟩ := hrel
    obtain ⟨x0, x1, x2, -, -, -⟩ := three_cells ((hb.out.block w.heap.size (by rw [HS2.out]; omega)).trans HP1.out)
    obtain ⟨y0, y1, y2, -, -, -⟩ := three_cells ((hb.out.block (w.heap.size + 1) (by rw [HS2.out]; omega)).trans HP2.out)
    by_cases hjM : j < m2
    · obtain ⟨xi, hxi⟩ : ∃ x, xs[j]? = some x := ⟨_, List.getElem?_eq_getElem (by rw [← HM.out]; exact hjM)⟩
      obtain ⟨rfl, hg1⟩ := HB1.out (by rw [← HM.out]; omega)
      obtain ⟨rfl, hg2⟩ := HB2.out (by rw [← HM.out]; omega)
      have hbw : Below w.heap.size w wr := HBX.out.trans (hb.out.mono (by rw [HS2.out]; omega))
      obtain ⟨l3, a3, n3, c3, a4, n4, c4, p0, p1, p2, hI1⟩ := HX1.out j xi hxi
      obtain ⟨l5, a5, n5, c5, a6, n6, c6, q0, q1, q2, hI2⟩ := HX2.out j xi hxi
      have p0 := (hbw.cell (p := ⟨g1, o1 + j * 3, none⟩) hg1).trans p0
      have p1 := (hbw.cell (p := ⟨g1, o1 + j * 3 + 1, none⟩) hg1).trans p1
      have p2 := (hbw.cell (p := ⟨g1, o1 + j * 3 + 2, none⟩) hg1).trans p2
      have q0 := (hbw.cell (p := ⟨g2, o2 + j * 3, none⟩) hg2).trans q0
      have q1 := (hbw.cell (p := ⟨g2, o2 + j * 3 + 1, none⟩) hg2).trans q1
      have q2 := (hbw.cell (p := ⟨g2, o2 + j * 3 + 2, none⟩) hg2).trans q2
      have C := Lib.hid (IH.out j xi hxi S S' wr.drew _ _ (HIZ.out j xi hxi) (hI1.keep hbw.drew) (hI2.keep hbw.drew))
      have ej : IntKind.i64.wrap ((j : Int) + 1) = (j : Int) + 1 := IntWalk.i64_in _ (by have := HC.out; omega)
      have hj1 : (j : Int) < (m2 : Int) := by omega
      have HJ : Hid (j < m2) := hjM
      clear hxi hg1 hg2 hbw hI1 hI2 hjM
      go_upto_region 6 with (fail)
      go_still_tail 10, (by kernel_rfl)
      change wpList _ _ _ _ _ wr.drew
      go_wp2_with fail
      (with_reducible refine C.out.mono ?_)
      rintro e w5 ⟨rfl, hb5⟩
      have HBN := Lib.hid (hb.out.trans (Below.mono (Below.drew (Below.refl wr.heap.size wr) |>.trans hb5) hb.out.size))
      clear C hb5 p0 p1 p2 q0 q1 q2 x0 x1 x2 y0 y1 y2 hb
      go_wp2_with fail
      exact ⟨⟨j + 1, HJ.out, by simp, HBN.out⟩, by simp [intOf]; have := HJ.out; omega⟩
    · have hjM' : ¬ (j : Int) < (m2 : Int) := by omega
      have HBN := Lib.hid (HBX.out.trans (hb.out.mono (by rw [HS2.out]; omega)))
      clear hjM hb
      go_wp2_with fail
      go_ret
      exact ⟨rfl, HBN.out⟩
theorem same_c : ∀ x, SameC x := Itm.ind fun l bs xs ih => same_step l bs xs ih
end Go.Proofs.Ytgjiealcjaojaaa
