/- The reference's Depth: how deep lists are nested. -/
import Derived.Test.YtchhnalalplggaaRlTwin2
namespace Go.Proofs.Ytchhnalalplggaa
open Go.RowKit

mutual
def depI : Itm → Nat → Nat
  | .mk l _ xs, n => if l = true then (match n with | 0 => 0 | n + 1 => depL xs n + 1) else 0
def depL : List Itm → Nat → Nat
  | [], _ => 0
  | x :: xs, n => max (depI x n) (depL xs n)
end
theorem depI_list (bs : List Nat) (xs : List Itm) (n : Nat) : depI (.mk true bs xs) (n + 1) = depL xs n + 1 := by rw [depI.eq_def]; rfl
theorem depI_none (bs : List Nat) (xs : List Itm) : depI (.mk true bs xs) 0 = 0 := by rw [depI.eq_def]; rfl
theorem depI_text (bs : List Nat) (xs : List Itm) (n : Nat) : depI (.mk false bs xs) n = 0 := by rw [depI.eq_def]; rfl
theorem okN_none (bs : List Nat) (xs : List Itm) : okN (.mk true bs xs) 0 = false := by rw [okN.eq_def]; rfl
theorem depL_take : ∀ {i : Nat} {xs : List Itm} {x : Itm} {n : Nat}, xs[i]? = some x → depL (xs.take (i + 1)) n = max (depL (xs.take i) n) (depI x n)
  | i, [], x, n, h => by simp at h
  | 0, y :: ys, x, n, h => by simp at h; subst h; simp [depL]
  | i + 1, y :: ys, x, n, h => by
    simp only [List.getElem?_cons_succ] at h
    simp only [List.take_succ_cons, depL, depL_take h]
    omega
theorem depL_le {n k : Nat} : ∀ {xs : List Itm}, (∀ (j : Nat) (x : Itm), xs[j]? = some x → depI x n ≤ k) → depL xs n ≤ k
  | [], _ => by simp [depL]
  | x :: xs, h => by
    have h1 := h 0 x rfl
    have h2 := depL_le (xs := xs) fun j y hj => h (j + 1) y (by simpa using hj)
    simp only [depL]; omega
theorem depI_le : ∀ (x : Itm) (n : Nat), depI x n ≤ n := Itm.ind fun l bs xs ih n => by
  cases l with
  | false => rw [depI_text]; omega
  | true =>
    cases n with
    | zero => rw [depI_none]; omega
    | succ n =>
      have := depL_le (k := n) fun j x hj => ih j x hj n
      rw [depI_list]; omega
theorem ok_depL {n : Nat} : ∀ {xs : List Itm}, (∀ (j : Nat) (x : Itm), xs[j]? = some x → (okN x n = true ↔ depI x (n + 1) ≤ n)) → (okL xs n = true ↔ depL xs (n + 1) ≤ n)
  | [], _ => by simp [okL, depL]
  | x :: xs, h => by
    have h1 := h 0 x rfl
    have h2 := ok_depL (xs := xs) fun j y hj => h (j + 1) y (by simpa using hj)
    simp only [okL, depL, Bool.and_eq_true, h1, h2]
    omega
theorem ok_dep : ∀ (x : Itm) (n : Nat), okN x n = true ↔ depI x (n + 1) ≤ n := Itm.ind fun l bs xs ih n => by
  cases l with
  | false => rw [depI_text, okN_text]; simp
  | true =>
    cases n with
    | zero => rw [depI_list, okN_none]; simp
    | succ n =>
      have := ok_depL fun j x hj => ih j x hj n
      rw [depI_list, okN_list, this]; omega

def DepC (x : Itm) : Prop := ∀ (S : Nat → Prop) (w : World) (vx : Value) (n : Nat), n ≤ 1025 → isz x ≤ 1099511627776 → IAt S w vx x → Calls Try.prog 36 #[vx, .int .i64 (n : Nat)] w (RetV (.int .i64 (depI x n : Nat)) w)

set_option maxRecDepth 100000 in
set_option maxHeartbeats 6400000 in
theorem dep_step (l : Bool) (bs : List Nat) (xs : List Itm) (ih : ∀ (j : Nat) (x : Itm), xs[j]? = some x → DepC x) : DepC (.mk l bs xs) := by
  intro S w vx n hn hsz hx
  obtain ⟨l0, a1, m1, c1, b1, k1, cp1, rfl⟩ := hx.parts
  obtain ⟨hl0, -, hit⟩ := hx.inv
  injection hl0 with hl0
  subst hl0
  obtain ⟨B, cap, b, off, u, e2, hB, hcap, hu, hxs⟩ := hit
  injection e2 with e1 e2 e3
  subst e1 e3
  have hbx : Below w.heap.size w (w.alloc (.cells #[.bool l0, .slice a1 m1 c1, .slice b1 k1 cp1] 25)) := (Below.refl w.heap.size w).alloc (Nat.le_refl _) _
  have hp1 := heap_alloc_new w (.cells #[.bool l0, .slice a1 m1 c1, .slice b1 k1 cp1] 25)
  have hsz1 : (w.alloc (.cells #[.bool l0, .slice a1 m1 c1, .slice b1 k1 cp1] 25)).heap.size = w.heap.size + 1 := by simp
  obtain ⟨x0, x1, x2, -, -, -⟩ := three_cells hp1
  have HM := Lib.hid e2
  have HBB := Lib.hid hB
  have HPC := Lib.hid (fun j x h => part_cells hu hxs (j := j) (x := x) h)
  have HIH := Lib.hid ih
  have HIZ := Lib.hid hsz
  have HN := Lib.hid hn
  have HBX := Lib.hid hbx
  have HP1 := Lib.hid hp1
  have HSZ := Lib.hid hsz1
  have HK : Hid (k1 ≤ 1099511627776) := by
    have h1 := HIZ.out
    rw [isz] at h1
    have h2 := iszL_len xs
    show k1 ≤ _
    omega
  clear e2 hB hu hxs hcap ih hsz hn hbx hp1 hx hsz1
  by_cases hgo : l0 = true ∧ n ≠ 0
  · obtain ⟨rfl, hn0⟩ := hgo
    obtain ⟨d, hd⟩ : ∃ d, n = d + 1 := ⟨n - 1, by omega⟩
    have hq : depI (.mk true bs xs) n = depL xs d + 1 := by rw [hd, depI_list]
    have d2 : ((n : Int) == 0) = false := by simpa using hn0
    have d3 : IntKind.i64.wrap ((n : Int) - 1) = ((d : Nat) : Int) := by rw [IntWalk.i64_in _ (by have := HN.out; omega)]; omega
    have HQ := Lib.hid hq
    have HD := Lib.hid hd
    rw [hq]
    clear hd hq hn0
    go_enter Try.func36, Try.ntmps36
    go_upto_region 5 with (fail)
    generalize hWe : w.alloc (.cells #[.bool true, .slice a1 m1 c1, .slice b1 k1 cp1] 25) = W at *
    clear hWe x0 x1 x2
    go_loopw [5, 6] (fun dv i wr => ∃ (j z : Nat), j ≤ k1 ∧ i = .int .i64 (j : Int) ∧ dv = .int .i64 (z : Int) ∧ z = depL (xs.take j) d ∧ z ≤ 1024 ∧ Hid (Below W.heap.size W wr))
      (fun _ i _ => k1 - (intOf i).toNat)
    case atStart => exact ⟨0, 0, by omega, rfl, rfl, by simp [depL], by omega, Lib.hid (Below.refl _ _)⟩
    case round =>
      obtain ⟨j, z, hj, rfl, rfl, hz, hz2, hb⟩ := hrel
      obtain ⟨x0, x1, x2, -, -, -⟩ := three_cells ((hb.out.block w.heap.size (by rw [HSZ.out]; omega)).trans HP1.out)
      by_cases hjM : j < k1
      · obtain ⟨xi, hxi⟩ : ∃ x, xs[j]? = some x := ⟨_, List.getElem?_eq_getElem (by rw [← HM.out]; exact hjM)⟩
        obtain ⟨rfl, hg1⟩ := HBB.out (by rw [← HM.out]; omega)
        have hbw : Below w.heap.size w wr := HBX.out.trans (hb.out.mono (by rw [HSZ.out]; omega))
        obtain ⟨l3, a3, n3, c3, a4, n4, c4, p0, p1, p2, hI1⟩ := HPC.out j xi hxi
        have p0 := (hbw.cell (p := ⟨b, off + j * 3, none⟩) hg1).trans p0
        have p1 := (hbw.cell (p := ⟨b, off + j * 3 + 1, none⟩) hg1).trans p1
        have p2 := (hbw.cell (p := ⟨b, off + j * 3 + 2, none⟩) hg1).trans p2
        have hiz : isz xi ≤ 1099511627776 := by
          have h1 := HIZ.out
          rw [isz] at h1
          have := isz_le hxi
          omega
        have C := Lib.hid (HIH.out j xi hxi S wr _ d (by have := HN.out; have := HD.out; omega) hiz (hI1.keep hbw))
        obtain ⟨y, hy⟩ : ∃ y, y = depI xi d := ⟨_, rfl⟩
        have hyl : y ≤ 1024 := by have := depI_le xi d; have := HN.out; have := HD.out; omega
        rw [← hy] at C
        have hnx := depL_take (n := d) hxi
        rw [← hz, ← hy] at hnx
        have ej : IntKind.i64.wrap ((j : Int) + 1) = (j : Int) + 1 := IntWalk.i64_in _ (by have := HK.out; omega)
        have hj1 : (j : Int) < (k1 : Int) := by omega
        have HJ : Hid (j < k1 ∧ y ≤ 1024 ∧ z ≤ 1024) := ⟨hjM, hyl, hz2⟩
        have HNX := Lib.hid hnx
        clear hxi hg1 hbw hI1 hjM hiz hy hyl hnx hz hz2 hj
        go_wp2_with fail
        (with_reducible refine C.out.mono ?_)
        rintro e w5 ⟨rfl, hb5⟩
        have HBN := Lib.hid (hb.out.trans (hb5.mono hb.out.size))
        clear C hb5 p0 p1 p2 x0 x1 x2 hb
        by_cases hzy : z < y
        · have hzy1 : (z : Int) < (y : Int) := by omega
          have HZ : Hid (y = max z y) := by show _ = _; omega
          clear hzy
          go_wp2_with fail
          exact ⟨⟨j + 1, y, HJ.out.1, by simp, rfl, HZ.out.trans HNX.out.symm, HJ.out.2.1, HBN.out⟩, by simp [intOf]; have := HJ.out; omega⟩
        · have hzy1 : ¬ (z : Int) < (y : Int) := by omega
          have HZ : Hid (z = max z y) := by show _ = _; omega
          clear hzy
          go_wp2_with fail
          exact ⟨⟨j + 1, z, HJ.out.1, by simp, rfl, HZ.out.trans HNX.out.symm, HJ.out.2.2, HBN.out⟩, by simp [intOf]; have := HJ.out; omega⟩
      · have hj1 : ¬ (j : Int) < (k1 : Int) := by omega
        have HF : Hid (z = depL xs d) := by
          have h := hz
          rw [List.take_of_length_le (by have := HM.out; omega)] at h
          exact h
        have ez : IntKind.i64.wrap ((z : Int) + 1) = ((z + 1 : Nat) : Int) := by rw [IntWalk.i64_in _ (by omega)]; omega
        have HBN := Lib.hid (HBX.out.trans (hb.out.mono (by rw [HSZ.out]; omega)))
        clear hjM hb hz hz2 hj
        go_wp2_with fail
        go_ret
        exact ⟨by rw [HF.out]; rfl, HBN.out⟩
  · have hq : depI (.mk l0 bs xs) n = 0 := by
      cases l0 with
      | false => rw [depI_text]
      | true =>
        have : n = 0 := by
          rcases Nat.eq_zero_or_pos n with h | h
          · exact h
          · exact absurd ⟨rfl, by omega⟩ hgo
        rw [this, depI_none]
    rw [hq]
    have HND := Lib.hid hgo
    clear hq hgo
    cases l0 with
    | false =>
      go_enter Try.func36, Try.ntmps36
      go_wp2_with fail
      go_ret
      exact ⟨rfl, HBX.out⟩
    | true =>
      have hn0 : n = 0 := by
        have := HND.out
        rcases Nat.eq_zero_or_pos n with h | h
        · exact h
        · exact absurd ⟨rfl, by omega⟩ this
      subst hn0
      go_enter Try.func36, Try.ntmps36
      go_wp2_with fail
      go_ret
      exact ⟨rfl, HBX.out⟩
theorem depth_c : ∀ x, DepC x := Itm.ind fun l bs xs ih => dep_step l bs xs ih
end Go.Proofs.Ytchhnalalplggaa
