/- Package code: look, there. (Written by wip/genccLook.py.) -/
import Derived.Test.YtopeahjdglkheaaDoorCcTab
import Derived.Test.YtopeahjdglkheaaDoorCdBack
import Derived.Test.YtopeahjdglkheaaDoorFoOp
import Derived.Test.YtopeahjdglkheaaDoorCdShelf
namespace Go.Proofs.YtopeahjdglkheaaDoor
open Go.RowKit

/-- What look tells: a form, and the number at the end of its name. -/
def lkN (n : Nat) : (ByteArray × Nat × Nat) × Int :=
  if n < 95 then (rowT n, -1) else
  if n < 128 then ((⟨#[80, 85, 83, 72]⟩, 0, 1), (n - 95 : Nat)) else
  if n < 144 then ((⟨#[68, 85, 80]⟩, n - 127, n - 126), (n - 127 : Nat)) else
  if n < 160 then ((⟨#[83, 87, 65, 80]⟩, n - 142, n - 142), (n - 143 : Nat)) else
  if n < 240 then ((⟨#[76, 79, 71]⟩, n - 160 + 2, 0), (n - 160 : Nat)) else (rowT n, -1)
theorem lk_low : ∀ n : Nat, n < 48 → opFirst n ≠ 99 → n < 33 := by decide +kernel
theorem lk_mid : ∀ n : Nat, n < 80 → opFirst n ≠ 99 → 48 ≤ n → n < 75 := by decide +kernel
theorem lk_num : ∀ n : Nat, n < 256 → opFirst n ≠ 99 → (lkN n).2 ≠ -1 → (lkN n).2 = (((lkN n).2.toNat : Nat) : Int) ∧ (lkN n).2.toNat < 100 := by decide +kernel
/-- A name without its number, and the number. -/
theorem lk_name : ∀ n : Nat, n < 256 → opFirst n ≠ 99 → (rowN false n) = (if (lkN n).2 = -1 then (lkN n).1.1 else (lkN n).1.1 ++ sOf (decL (lkN n).2.toNat), (lkN n).1.2.1, (lkN n).1.2.2) := by decide +kernel
theorem there_c (f op : Int) (w : World) : Calls Tryd.prog 28 #[.int .i64 f, .int .i64 op] w fun e w' => e = .returned (.bool (opZ f op)) ∧ w' = w := by
  have K := Lib.hid (foop_c f op w)
  generalize opZ f op = b at *
  go_enter Tryd.func28, Tryd.ntmps28
  go_wp2_with fail
  (with_reducible refine K.out.mono ?_)
  rintro e w1 ⟨rfl, rfl⟩
  clear K
  go_wp2_with fail
  go_ret
  exact ⟨rfl, rfl⟩
set_option maxRecDepth 100000 in
set_option maxHeartbeats 6400000 in
theorem plook_reckoning (n : Nat) (hn : n < 33) (w : World) : Calls Tryd.prog 29 #[.int .i64 (n : Nat)] w (RetV (.tuple #[formV (lkN n).1, .int .i64 (lkN n).2]) w) := by
  have el : lkN n = (rowT n, -1) := by
    unfold lkN
    rw [if_pos (by omega)]
  rw [el]
  have k : ∀ u, Calls Tryd.prog 44 #[.int .i64 (n : Nat)] u (RetV (formV (rowT n)) u) := fun u => by
    have h := reckoning_c (n - 0) (by omega) u
    rw [show 0 + (n - 0) = n by omega] at h
    exact h
  unfold formV at k ⊢
  obtain ⟨s, p, q, hr⟩ : ∃ s p q, rowT n = (s, p, q) := ⟨_, _, _, rfl⟩
  rw [hr] at k ⊢
  dsimp only at k ⊢
  have K := Lib.hid k
  clear k hr el
  have t0 : (n : Int) < 48 := by omega
  clear hn
  have hg0 := heap_alloc_new w (.cells #[.string ⟨#[]⟩, .int .i64 0, .int .i64 0] 58)
  have hb0 := (Below.refl w.heap.size w).alloc (Nat.le_refl _) (.cells #[.string ⟨#[]⟩, .int .i64 0, .int .i64 0] 58)
  have hs0 : w.heap.size + 1 ≤ (w.alloc (.cells #[.string ⟨#[]⟩, .int .i64 0, .int .i64 0] 58)).heap.size := by simp
  go_enter Tryd.func29, Tryd.ntmps29
  go_upto_region 1 with (fail)
  generalize w.alloc (.cells #[.string ⟨#[]⟩, .int .i64 0, .int .i64 0] 58) = X at *
  have HG := Lib.hid hg0
  have HB := Lib.hid hb0
  have HS := Lib.hid hs0
  clear hg0 hb0 hs0
  go_wp2_with fail
  (with_reducible refine (K.out _).mono ?_)
  rintro e w1 ⟨rfl, hb1⟩
  have hg1 := (hb1.block w.heap.size (by have := HS.out; omega)).trans HG.out
  have HB1 := Lib.hid (HB.out.trans (hb1.mono HB.out.size))
  obtain ⟨c0, c1, c2, f0, f1, f2⟩ := three_cells hg1
  clear K hb1 hg1 HG HB
  go_wp2_with fail
  exact bodyPost_ret (v := .tuple #[.agg #[.string s, .int .i64 (p : Nat), .int .i64 (q : Nat)], .int .i64 (-1)]) (by simp [results, Tryd.results29, go_sem, c0, c1, c2]) rfl ⟨rfl, ((HB1.out.setCell (p := ⟨w.heap.size, 0, none⟩) (Nat.le_refl _) _).setCell (p := ⟨w.heap.size, 1, none⟩) (Nat.le_refl _) _).setCell (p := ⟨w.heap.size, 2, none⟩) (Nat.le_refl _) _⟩
set_option maxRecDepth 100000 in
set_option maxHeartbeats 6400000 in
theorem plook_telling (n : Nat) (hn : 48 ≤ n ∧ n < 75) (w : World) : Calls Tryd.prog 29 #[.int .i64 (n : Nat)] w (RetV (.tuple #[formV (lkN n).1, .int .i64 (lkN n).2]) w) := by
  have el : lkN n = (rowT n, -1) := by
    unfold lkN
    rw [if_pos (by omega)]
  rw [el]
  have k : ∀ u, Calls Tryd.prog 45 #[.int .i64 (n : Nat)] u (RetV (formV (rowT n)) u) := fun u => by
    have h := telling_c (n - 48) (by omega) u
    rw [show 48 + (n - 48) = n by omega] at h
    exact h
  unfold formV at k ⊢
  obtain ⟨s, p, q, hr⟩ : ∃ s p q, rowT n = (s, p, q) := ⟨_, _, _, rfl⟩
  rw [hr] at k ⊢
  dsimp only at k ⊢
  have K := Lib.hid k
  clear k hr el
  have t0 : ¬ (n : Int) < 48 := by omega
  have t1 : (n : Int) < 80 := by omega
  clear hn
  have hg0 := heap_alloc_new w (.cells #[.string ⟨#[]⟩, .int .i64 0, .int .i64 0] 58)
  have hb0 := (Below.refl w.heap.size w).alloc (Nat.le_refl _) (.cells #[.string ⟨#[]⟩, .int .i64 0, .int .i64 0] 58)
  have hs0 : w.heap.size + 1 ≤ (w.alloc (.cells #[.string ⟨#[]⟩, .int .i64 0, .int .i64 0] 58)).heap.size := by simp
  go_enter Tryd.func29, Tryd.ntmps29
  go_upto_region 1 with (fail)
  generalize w.alloc (.cells #[.string ⟨#[]⟩, .int .i64 0, .int .i64 0] 58) = X at *
  have HG := Lib.hid hg0
  have HB := Lib.hid hb0
  have HS := Lib.hid hs0
  clear hg0 hb0 hs0
  go_wp2_with fail
  (with_reducible refine (K.out _).mono ?_)
  rintro e w1 ⟨rfl, hb1⟩
  have hg1 := (hb1.block w.heap.size (by have := HS.out; omega)).trans HG.out
  have HB1 := Lib.hid (HB.out.trans (hb1.mono HB.out.size))
  obtain ⟨c0, c1, c2, f0, f1, f2⟩ := three_cells hg1
  clear K hb1 hg1 HG HB
  go_wp2_with fail
  exact bodyPost_ret (v := .tuple #[.agg #[.string s, .int .i64 (p : Nat), .int .i64 (q : Nat)], .int .i64 (-1)]) (by simp [results, Tryd.results29, go_sem, c0, c1, c2]) rfl ⟨rfl, ((HB1.out.setCell (p := ⟨w.heap.size, 0, none⟩) (Nat.le_refl _) _).setCell (p := ⟨w.heap.size, 1, none⟩) (Nat.le_refl _) _).setCell (p := ⟨w.heap.size, 2, none⟩) (Nat.le_refl _) _⟩
set_option maxRecDepth 100000 in
set_option maxHeartbeats 6400000 in
theorem plook_keeping (n : Nat) (hn : 80 ≤ n ∧ n < 95) (w : World) : Calls Tryd.prog 29 #[.int .i64 (n : Nat)] w (RetV (.tuple #[formV (lkN n).1, .int .i64 (lkN n).2]) w) := by
  have el : lkN n = (rowT n, -1) := by
    unfold lkN
    rw [if_pos (by omega)]
  rw [el]
  have k : ∀ u, Calls Tryd.prog 46 #[.int .i64 (n : Nat)] u (RetV (formV (rowT n)) u) := fun u => by
    have h := keeping_c (n - 80) (by omega) u
    rw [show 80 + (n - 80) = n by omega] at h
    exact h
  unfold formV at k ⊢
  obtain ⟨s, p, q, hr⟩ : ∃ s p q, rowT n = (s, p, q) := ⟨_, _, _, rfl⟩
  rw [hr] at k ⊢
  dsimp only at k ⊢
  have K := Lib.hid k
  clear k hr el
  have t0 : ¬ (n : Int) < 48 := by omega
  have t1 : ¬ (n : Int) < 80 := by omega
  have t2 : (n : Int) < 95 := by omega
  clear hn
  have hg0 := heap_alloc_new w (.cells #[.string ⟨#[]⟩, .int .i64 0, .int .i64 0] 58)
  have hb0 := (Below.refl w.heap.size w).alloc (Nat.le_refl _) (.cells #[.string ⟨#[]⟩, .int .i64 0, .int .i64 0] 58)
  have hs0 : w.heap.size + 1 ≤ (w.alloc (.cells #[.string ⟨#[]⟩, .int .i64 0, .int .i64 0] 58)).heap.size := by simp
  go_enter Tryd.func29, Tryd.ntmps29
  go_upto_region 1 with (fail)
  generalize w.alloc (.cells #[.string ⟨#[]⟩, .int .i64 0, .int .i64 0] 58) = X at *
  have HG := Lib.hid hg0
  have HB := Lib.hid hb0
  have HS := Lib.hid hs0
  clear hg0 hb0 hs0
  go_wp2_with fail
  (with_reducible refine (K.out _).mono ?_)
  rintro e w1 ⟨rfl, hb1⟩
  have hg1 := (hb1.block w.heap.size (by have := HS.out; omega)).trans HG.out
  have HB1 := Lib.hid (HB.out.trans (hb1.mono HB.out.size))
  obtain ⟨c0, c1, c2, f0, f1, f2⟩ := three_cells hg1
  clear K hb1 hg1 HG HB
  go_wp2_with fail
  exact bodyPost_ret (v := .tuple #[.agg #[.string s, .int .i64 (p : Nat), .int .i64 (q : Nat)], .int .i64 (-1)]) (by simp [results, Tryd.results29, go_sem, c0, c1, c2]) rfl ⟨rfl, ((HB1.out.setCell (p := ⟨w.heap.size, 0, none⟩) (Nat.le_refl _) _).setCell (p := ⟨w.heap.size, 1, none⟩) (Nat.le_refl _) _).setCell (p := ⟨w.heap.size, 2, none⟩) (Nat.le_refl _) _⟩
set_option maxRecDepth 100000 in
set_option maxHeartbeats 6400000 in
theorem plook_sending (n : Nat) (hn : 240 ≤ n ∧ n < 256) (w : World) : Calls Tryd.prog 29 #[.int .i64 (n : Nat)] w (RetV (.tuple #[formV (lkN n).1, .int .i64 (lkN n).2]) w) := by
  have el : lkN n = (rowT n, -1) := by
    unfold lkN
    rw [if_neg (by omega), if_neg (by omega), if_neg (by omega), if_neg (by omega), if_neg (by omega)]
  rw [el]
  have k : ∀ u, Calls Tryd.prog 47 #[.int .i64 (n : Nat)] u (RetV (formV (rowT n)) u) := fun u => by
    have h := sending_c (n - 240) (by omega) u
    rw [show 240 + (n - 240) = n by omega] at h
    exact h
  unfold formV at k ⊢
  obtain ⟨s, p, q, hr⟩ : ∃ s p q, rowT n = (s, p, q) := ⟨_, _, _, rfl⟩
  rw [hr] at k ⊢
  dsimp only at k ⊢
  have K := Lib.hid k
  clear k hr el
  have t0 : ¬ (n : Int) < 48 := by omega
  have t1 : ¬ (n : Int) < 80 := by omega
  have t2 : ¬ (n : Int) < 95 := by omega
  have t3 : ¬ (n : Int) < 128 := by omega
  have t4 : ¬ (n : Int) < 144 := by omega
  have t5 : ¬ (n : Int) < 160 := by omega
  have t6 : ¬ (n : Int) < 240 := by omega
  clear hn
  have hg0 := heap_alloc_new w (.cells #[.string ⟨#[]⟩, .int .i64 0, .int .i64 0] 58)
  have hb0 := (Below.refl w.heap.size w).alloc (Nat.le_refl _) (.cells #[.string ⟨#[]⟩, .int .i64 0, .int .i64 0] 58)
  have hs0 : w.heap.size + 1 ≤ (w.alloc (.cells #[.string ⟨#[]⟩, .int .i64 0, .int .i64 0] 58)).heap.size := by simp
  go_enter Tryd.func29, Tryd.ntmps29
  go_upto_region 1 with (fail)
  generalize w.alloc (.cells #[.string ⟨#[]⟩, .int .i64 0, .int .i64 0] 58) = X at *
  have HG := Lib.hid hg0
  have HB := Lib.hid hb0
  have HS := Lib.hid hs0
  clear hg0 hb0 hs0
  go_wp2_with fail
  (with_reducible refine (K.out _).mono ?_)
  rintro e w1 ⟨rfl, hb1⟩
  have hg1 := (hb1.block w.heap.size (by have := HS.out; omega)).trans HG.out
  have HB1 := Lib.hid (HB.out.trans (hb1.mono HB.out.size))
  obtain ⟨c0, c1, c2, f0, f1, f2⟩ := three_cells hg1
  clear K hb1 hg1 HG HB
  go_wp2_with fail
  exact bodyPost_ret (v := .tuple #[.agg #[.string s, .int .i64 (p : Nat), .int .i64 (q : Nat)], .int .i64 (-1)]) (by simp [results, Tryd.results29, go_sem, c0, c1, c2]) rfl ⟨rfl, ((HB1.out.setCell (p := ⟨w.heap.size, 0, none⟩) (Nat.le_refl _) _).setCell (p := ⟨w.heap.size, 1, none⟩) (Nat.le_refl _) _).setCell (p := ⟨w.heap.size, 2, none⟩) (Nat.le_refl _) _⟩
set_option maxRecDepth 100000 in
set_option maxHeartbeats 6400000 in
theorem plook_push (n : Nat) (h1 : 95 ≤ n) (h2 : n < 128) (w : World) : Calls Tryd.prog 29 #[.int .i64 (n : Nat)] w (RetV (.tuple #[formV (lkN n).1, .int .i64 (lkN n).2]) w) := by
  have el : lkN n = (((⟨#[80, 85, 83, 72]⟩ : ByteArray), 0, 1), ((n - 95 : Nat) : Int)) := by
    unfold lkN
    rw [if_neg (by omega), if_pos (by omega)]
  rw [el]
  unfold formV
  dsimp only
  clear el
  have t0 : ¬ (n : Int) < 48 := by omega
  have t1 : ¬ (n : Int) < 80 := by omega
  have t2 : ¬ (n : Int) < 95 := by omega
  have t3 : (n : Int) < 128 := by omega
  have w1 : IntKind.i64.wrap ((n : Int) - 95) = ((n - 95 : Nat) : Int) := by rw [IntWalk.i64_in _ (by omega)]; omega
  obtain ⟨k, hk⟩ : ∃ k, k = n - 95 := ⟨_, rfl⟩
  rw [← hk] at w1 ⊢
  clear hk
  have hg0 := heap_alloc_new w (.cells #[.string ⟨#[]⟩, .int .i64 0, .int .i64 0] 58)
  have hb0 := (Below.refl w.heap.size w).alloc (Nat.le_refl _) (.cells #[.string ⟨#[]⟩, .int .i64 0, .int .i64 0] 58)
  have hs0 : w.heap.size + 1 ≤ (w.alloc (.cells #[.string ⟨#[]⟩, .int .i64 0, .int .i64 0] 58)).heap.size := by simp
  clear h1 h2
  go_enter Tryd.func29, Tryd.ntmps29
  go_upto_region 1 with (fail)
  generalize w.alloc (.cells #[.string ⟨#[]⟩, .int .i64 0, .int .i64 0] 58) = X at *
  have HB := Lib.hid hb0
  obtain ⟨c0, c1, c2, f0, f1, f2⟩ := three_cells hg0
  clear hg0 hb0 hs0
  go_wp2_with fail
  exact bodyPost_ret (v := .tuple #[.agg #[.string ⟨#[80, 85, 83, 72]⟩, .int .i64 (0 : Nat), .int .i64 (1 : Nat)], .int .i64 (k : Nat)]) (by simp [results, Tryd.results29, go_sem, c0, c1, c2]) rfl ⟨rfl, ((HB.out.setCell (p := ⟨w.heap.size, 0, none⟩) (Nat.le_refl _) _).setCell (p := ⟨w.heap.size, 1, none⟩) (Nat.le_refl _) _).setCell (p := ⟨w.heap.size, 2, none⟩) (Nat.le_refl _) _⟩
set_option maxRecDepth 100000 in
set_option maxHeartbeats 6400000 in
theorem plook_dup (n : Nat) (h1 : 128 ≤ n) (h2 : n < 144) (w : World) : Calls Tryd.prog 29 #[.int .i64 (n : Nat)] w (RetV (.tuple #[formV (lkN n).1, .int .i64 (lkN n).2]) w) := by
  have el : lkN n = (((⟨#[68, 85, 80]⟩ : ByteArray), n - 127, n - 126), ((n - 127 : Nat) : Int)) := by
    unfold lkN
    rw [if_neg (by omega), if_neg (by omega), if_pos (by omega)]
  rw [el]
  unfold formV
  dsimp only
  clear el
  have t0 : ¬ (n : Int) < 48 := by omega
  have t1 : ¬ (n : Int) < 80 := by omega
  have t2 : ¬ (n : Int) < 95 := by omega
  have t3 : ¬ (n : Int) < 128 := by omega
  have t4 : (n : Int) < 144 := by omega
  have w1 : IntKind.i64.wrap ((n : Int) - 128) = ((n - 128 : Nat) : Int) := by rw [IntWalk.i64_in _ (by omega)]; omega
  have w2 : IntKind.i64.wrap (((n - 128 : Nat) : Int) + 1) = ((n - 127 : Nat) : Int) := by rw [IntWalk.i64_in _ (by omega)]; omega
  have w3 : IntKind.i64.wrap (((n - 127 : Nat) : Int) + 1) = ((n - 126 : Nat) : Int) := by rw [IntWalk.i64_in _ (by omega)]; omega
  obtain ⟨j, hj⟩ : ∃ j, j = n - 128 := ⟨_, rfl⟩
  obtain ⟨k, hk⟩ : ∃ k, k = n - 127 := ⟨_, rfl⟩
  obtain ⟨l, hl⟩ : ∃ l, l = n - 126 := ⟨_, rfl⟩
  rw [← hk, ← hl]
  rw [← hj] at w1 w2
  rw [← hk] at w2 w3
  rw [← hl] at w3
  clear hj hk hl
  have hg0 := heap_alloc_new w (.cells #[.string ⟨#[]⟩, .int .i64 0, .int .i64 0] 58)
  have hb0 := (Below.refl w.heap.size w).alloc (Nat.le_refl _) (.cells #[.string ⟨#[]⟩, .int .i64 0, .int .i64 0] 58)
  have hs0 : w.heap.size + 1 ≤ (w.alloc (.cells #[.string ⟨#[]⟩, .int .i64 0, .int .i64 0] 58)).heap.size := by simp
  clear h1 h2
  go_enter Tryd.func29, Tryd.ntmps29
  go_upto_region 1 with (fail)
  generalize w.alloc (.cells #[.string ⟨#[]⟩, .int .i64 0, .int .i64 0] 58) = X at *
  have HB := Lib.hid hb0
  obtain ⟨c0, c1, c2, f0, f1, f2⟩ := three_cells hg0
  clear hg0 hb0 hs0
  go_wp2_with fail
  exact bodyPost_ret (v := .tuple #[.agg #[.string ⟨#[68, 85, 80]⟩, .int .i64 (k : Nat), .int .i64 (l : Nat)], .int .i64 (k : Nat)]) (by simp [results, Tryd.results29, go_sem, c0, c1, c2]) rfl ⟨rfl, ((HB.out.setCell (p := ⟨w.heap.size, 0, none⟩) (Nat.le_refl _) _).setCell (p := ⟨w.heap.size, 1, none⟩) (Nat.le_refl _) _).setCell (p := ⟨w.heap.size, 2, none⟩) (Nat.le_refl _) _⟩
set_option maxRecDepth 100000 in
set_option maxHeartbeats 6400000 in
theorem plook_swap (n : Nat) (h1 : 144 ≤ n) (h2 : n < 160) (w : World) : Calls Tryd.prog 29 #[.int .i64 (n : Nat)] w (RetV (.tuple #[formV (lkN n).1, .int .i64 (lkN n).2]) w) := by
  have el : lkN n = (((⟨#[83, 87, 65, 80]⟩ : ByteArray), n - 142, n - 142), ((n - 143 : Nat) : Int)) := by
    unfold lkN
    rw [if_neg (by omega), if_neg (by omega), if_neg (by omega), if_pos (by omega)]
  rw [el]
  unfold formV
  dsimp only
  clear el
  have t0 : ¬ (n : Int) < 48 := by omega
  have t1 : ¬ (n : Int) < 80 := by omega
  have t2 : ¬ (n : Int) < 95 := by omega
  have t3 : ¬ (n : Int) < 128 := by omega
  have t4 : ¬ (n : Int) < 144 := by omega
  have t5 : (n : Int) < 160 := by omega
  have w1 : IntKind.i64.wrap ((n : Int) - 144) = ((n - 144 : Nat) : Int) := by rw [IntWalk.i64_in _ (by omega)]; omega
  have w2 : IntKind.i64.wrap (((n - 144 : Nat) : Int) + 1) = ((n - 143 : Nat) : Int) := by rw [IntWalk.i64_in _ (by omega)]; omega
  have w3 : IntKind.i64.wrap (((n - 143 : Nat) : Int) + 1) = ((n - 142 : Nat) : Int) := by rw [IntWalk.i64_in _ (by omega)]; omega
  obtain ⟨j, hj⟩ : ∃ j, j = n - 144 := ⟨_, rfl⟩
  obtain ⟨k, hk⟩ : ∃ k, k = n - 143 := ⟨_, rfl⟩
  obtain ⟨l, hl⟩ : ∃ l, l = n - 142 := ⟨_, rfl⟩
  rw [← hk, ← hl]
  rw [← hj] at w1 w2
  rw [← hk] at w2 w3
  rw [← hl] at w3
  clear hj hk hl
  have hg0 := heap_alloc_new w (.cells #[.string ⟨#[]⟩, .int .i64 0, .int .i64 0] 58)
  have hb0 := (Below.refl w.heap.size w).alloc (Nat.le_refl _) (.cells #[.string ⟨#[]⟩, .int .i64 0, .int .i64 0] 58)
  have hs0 : w.heap.size + 1 ≤ (w.alloc (.cells #[.string ⟨#[]⟩, .int .i64 0, .int .i64 0] 58)).heap.size := by simp
  clear h1 h2
  go_enter Tryd.func29, Tryd.ntmps29
  go_upto_region 1 with (fail)
  generalize w.alloc (.cells #[.string ⟨#[]⟩, .int .i64 0, .int .i64 0] 58) = X at *
  have HB := Lib.hid hb0
  obtain ⟨c0, c1, c2, f0, f1, f2⟩ := three_cells hg0
  clear hg0 hb0 hs0
  go_wp2_with fail
  exact bodyPost_ret (v := .tuple #[.agg #[.string ⟨#[83, 87, 65, 80]⟩, .int .i64 (l : Nat), .int .i64 (l : Nat)], .int .i64 (k : Nat)]) (by simp [results, Tryd.results29, go_sem, c0, c1, c2]) rfl ⟨rfl, ((HB.out.setCell (p := ⟨w.heap.size, 0, none⟩) (Nat.le_refl _) _).setCell (p := ⟨w.heap.size, 1, none⟩) (Nat.le_refl _) _).setCell (p := ⟨w.heap.size, 2, none⟩) (Nat.le_refl _) _⟩
set_option maxRecDepth 100000 in
set_option maxHeartbeats 6400000 in
theorem plook_log (n : Nat) (h1 : 160 ≤ n) (h2 : n < 240) (w : World) : Calls Tryd.prog 29 #[.int .i64 (n : Nat)] w (RetV (.tuple #[formV (lkN n).1, .int .i64 (lkN n).2]) w) := by
  have el : lkN n = (((⟨#[76, 79, 71]⟩ : ByteArray), n - 160 + 2, 0), ((n - 160 : Nat) : Int)) := by
    unfold lkN
    rw [if_neg (by omega), if_neg (by omega), if_neg (by omega), if_neg (by omega), if_pos (by omega)]
  rw [el]
  unfold formV
  dsimp only
  clear el
  have t0 : ¬ (n : Int) < 48 := by omega
  have t1 : ¬ (n : Int) < 80 := by omega
  have t2 : ¬ (n : Int) < 95 := by omega
  have t3 : ¬ (n : Int) < 128 := by omega
  have t4 : ¬ (n : Int) < 144 := by omega
  have t5 : ¬ (n : Int) < 160 := by omega
  have t6 : (n : Int) < 240 := by omega
  have w1 : IntKind.i64.wrap ((n : Int) - 160) = ((n - 160 : Nat) : Int) := by rw [IntWalk.i64_in _ (by omega)]; omega
  have w2 : IntKind.i64.wrap (((n - 160 : Nat) : Int) + 2) = ((n - 160 + 2 : Nat) : Int) := by rw [IntWalk.i64_in _ (by omega)]; omega
  obtain ⟨k, hk⟩ : ∃ k, k = n - 160 := ⟨_, rfl⟩
  rw [← hk] at w1 w2 ⊢
  obtain ⟨l, hl⟩ : ∃ l, l = k + 2 := ⟨_, rfl⟩
  rw [← hl] at w2 ⊢
  clear hk hl
  have hg0 := heap_alloc_new w (.cells #[.string ⟨#[]⟩, .int .i64 0, .int .i64 0] 58)
  have hb0 := (Below.refl w.heap.size w).alloc (Nat.le_refl _) (.cells #[.string ⟨#[]⟩, .int .i64 0, .int .i64 0] 58)
  have hs0 : w.heap.size + 1 ≤ (w.alloc (.cells #[.string ⟨#[]⟩, .int .i64 0, .int .i64 0] 58)).heap.size := by simp
  clear h1 h2
  go_enter Tryd.func29, Tryd.ntmps29
  go_upto_region 1 with (fail)
  generalize w.alloc (.cells #[.string ⟨#[]⟩, .int .i64 0, .int .i64 0] 58) = X at *
  have HB := Lib.hid hb0
  obtain ⟨c0, c1, c2, f0, f1, f2⟩ := three_cells hg0
  clear hg0 hb0 hs0
  go_wp2_with fail
  exact bodyPost_ret (v := .tuple #[.agg #[.string ⟨#[76, 79, 71]⟩, .int .i64 (l : Nat), .int .i64 (0 : Nat)], .int .i64 (k : Nat)]) (by simp [results, Tryd.results29, go_sem, c0, c1, c2]) rfl ⟨rfl, ((HB.out.setCell (p := ⟨w.heap.size, 0, none⟩) (Nat.le_refl _) _).setCell (p := ⟨w.heap.size, 1, none⟩) (Nat.le_refl _) _).setCell (p := ⟨w.heap.size, 2, none⟩) (Nat.le_refl _) _⟩
theorem plook_c (n : Nat) (hn : n < 256) (h : opFirst n ≠ 99) (w : World) : Calls Tryd.prog 29 #[.int .i64 (n : Nat)] w (RetV (.tuple #[formV (lkN n).1, .int .i64 (lkN n).2]) w) := by
  by_cases h1 : n < 48
  · exact plook_reckoning n (lk_low n h1 h) w
  by_cases h2 : n < 80
  · exact plook_telling n ⟨by omega, lk_mid n h2 h (by omega)⟩ w
  by_cases h3 : n < 95
  · exact plook_keeping n ⟨by omega, h3⟩ w
  by_cases h4 : n < 128
  · exact plook_push n (by omega) h4 w
  by_cases h5 : n < 144
  · exact plook_dup n (by omega) h5 w
  by_cases h6 : n < 160
  · exact plook_swap n (by omega) h6 w
  by_cases h7 : n < 240
  · exact plook_log n (by omega) h7 w
  exact plook_sending n ⟨by omega, hn⟩ w
end Go.Proofs.YtopeahjdglkheaaDoor
