/- The contracts of package hexa's early and digits, whatever function reads the digits. -/
import Derived.Test.YtopeahjdglkheaaDoorHDigit
import Derived.Test.YtopeahjdglkheaaDoorWordMath
namespace Go.Proofs.YtopeahjdglkheaaDoor
open Go.RowKit

set_option maxRecDepth 100000 in
theorem early_c (n : Int) (h0 : -2 ≤ n) (h1 : n ≤ 140737488355328) (w : World) : Calls Tryd.prog 69 #[.int .i64 n] w fun e w' => e = .returned (.agg #[.int .i64 2, .int .i64 (2 + n)]) ∧ Below w.heap.size w w' := by
  go_enter Tryd.func69, Tryd.ntmps69
  go_wp2_with fail
  exact bodyPost_ret (v := .agg #[.int .i64 2, .int .i64 (2 + n)]) (by simp [results, Tryd.results69, go_sem]) rfl ⟨rfl, (Below.refl _ _).alloc (Nat.le_refl _) _⟩

/-- Iterators over texts, and faults, stand as they stood. -/
def Kp (w w' : World) : Prop := ∀ i : Nat, (∀ s p, w.heap[i]? = some (.stringIter s p) → w'.heap[i]? = some (.stringIter s p)) ∧ (∀ cs z, w.heap[i]? = some (.cells cs 44 z) → w'.heap[i]? = some (.cells cs 44 z))
/-- Cells that are no fault's stand as they stood. -/
def Kq (w w' : World) : Prop := w.heap.size ≤ w'.heap.size ∧ ∀ (i : Nat) cs t z, t ≠ 44 → w.heap[i]? = some (.cells cs t z) → w'.heap[i]? = some (.cells cs t z)
def RetDig {σ : Type} (Inv : σ → World → Prop) (B0 : Nat) (q : (Nat × Nat × Nat) × σ) (w : World) (e : Ending) (w' : World) : Prop :=
  e = .returned (.tuple #[.int .i64 (q.1.1 : Nat), .agg #[.int .i64 (q.1.2.1 : Nat), .int .i64 (q.1.2.2 : Nat)]]) ∧ (q.1.2.1 = 0 → Inv q.2 w') ∧ Below B0 w w'
/-- What a reader of digits is asked to be. -/
def Reader {σ : Type} (Inv : σ → World → Prop) (ok : σ → Nat → Prop) (step : σ → Nat → Nat → Except Nat σ) (F : FuncId) (c : Value) (B0 : Nat) : Prop :=
  ∀ (x : σ) (k v : Nat) (w : World), Inv x w → ok x k → B0 ≤ w.heap.size → k ≤ 140737488355328 → v < 16 → Calls Tryd.prog F #[.int .i64 (k : Nat), .int .u8 (v : Nat), c] w fun e w' =>
    (∀ y, step x k v = .ok y → e = .returned (.int .i64 0) ∧ Inv y w' ∧ Kp w w' ∧ Below B0 w w') ∧ (∀ c, step x k v = .error c → 0 < c ∧ e = .returned (.int .i64 (c : Nat)) ∧ Kp w w' ∧ Below B0 w w')

theorem scan_bad {σ : Type} {step : σ → Nat → Nat → Except Nat σ} {s : ByteArray} {pos k : Nat} {x : σ} (hp : pos < s.size) (hb : badAt k (Utf8.decode s pos).1 = true) : scan step (runesAt s pos) k x = ((0, 2, k), x) := by
  rw [runesAt_cons s pos hp]; unfold scan; rw [if_pos hb]
theorem scan_skip {σ : Type} {step : σ → Nat → Nat → Except Nat σ} {s : ByteArray} {pos k : Nat} {x : σ} (hp : pos < s.size) (hb : badAt k (Utf8.decode s pos).1 = false) (hk : k < 2) : scan step (runesAt s pos) k x = scan step (runesAt s (pos + (Utf8.decode s pos).2)) (k + 1) x := by
  rw [runesAt_cons s pos hp]
  show (if _ then _ else _) = _
  rw [hb, if_neg (by decide), if_pos hk]
theorem scan_ok {σ : Type} {step : σ → Nat → Nat → Except Nat σ} {s : ByteArray} {pos k : Nat} {x y : σ} (hp : pos < s.size) (hb : badAt k (Utf8.decode s pos).1 = false) (hk : ¬ k < 2) (hy : step x (k - 2) (digN (Utf8.decode s pos).1) = .ok y) :
    scan step (runesAt s pos) k x = scan step (runesAt s (pos + (Utf8.decode s pos).2)) (k + 1) y := by
  rw [runesAt_cons s pos hp]
  show (if _ then _ else _) = _
  rw [hb, if_neg (by decide), if_neg hk, hy]
theorem scan_err {σ : Type} {step : σ → Nat → Nat → Except Nat σ} {s : ByteArray} {pos k c : Nat} {x : σ} (hp : pos < s.size) (hb : badAt k (Utf8.decode s pos).1 = false) (hk : ¬ k < 2) (hy : step x (k - 2) (digN (Utf8.decode s pos).1) = .error c) :
    scan step (runesAt s pos) k x = ((0, c, k), x) := by
  rw [runesAt_cons s pos hp]
  show (if _ then _ else _) = _
  rw [hb, if_neg (by decide), if_neg hk, hy]
theorem scan_end {σ : Type} {step : σ → Nat → Nat → Except Nat σ} {s : ByteArray} {pos k : Nat} {x : σ} (hp : ¬ pos < s.size) : scan step (runesAt s pos) k x = if k < 2 then ((0, 2, k), x) else ((k - 2, 0, 0), x) := by
  rw [runesAt_nil s pos hp]; rfl
/-- A block of two cells. -/
theorem two_cells {w : World} {g : Nat} {u v : Value} {t : TypeId} (h : w.heap[g]? = some (.cells #[u, v] t (0, 0))) : w.cell? ⟨g, 0, none⟩ = some u ∧ w.cell? ⟨g, 1, none⟩ = some v ∧ w.frozen? ⟨g, 0, none⟩ = false ∧ w.frozen? ⟨g, 1, none⟩ = false := by
  refine ⟨?_, ?_, ?_, ?_⟩
  · rw [cell_of_row _ _ _ _ t (0, 0) h]; rfl
  · rw [cell_of_row _ _ _ _ t (0, 0) h]; rfl
  · exact frozen_of_row _ _ _ _ t h
  · exact frozen_of_row _ _ _ _ t h

theorem kq_put2 {w : World} {g : Nat} {u v : Value} (h : w.heap[g]? = some (.cells #[u, v] 44 (0, 0))) (x y : Value) : Kq w ((w.setCell ⟨g, 0, none⟩ x).setCell ⟨g, 1, none⟩ y) := by
  refine ⟨by simp [World.setCell], fun i cs t z ht hi => ?_⟩
  have hne : i ≠ g := fun e => by subst e; rw [h] at hi; injection hi with hi; injection hi with _ h2 _; exact ht h2.symm
  rw [Below.heap_setCell _ ⟨g, 1, none⟩ y i hne, Below.heap_setCell _ ⟨g, 0, none⟩ x i hne]
  exact hi
set_option maxRecDepth 100000 in
set_option maxHeartbeats 6400000 in
theorem digits_c {σ : Type} {Inv : σ → World → Prop} {ok : σ → Nat → Prop} {step : σ → Nat → Nat → Except Nat σ} {F : FuncId} {c : Value} {B0 : Nat} {x0 : σ} (s : ByteArray) (w : World) (hs : s.size ≤ 140737488355328) (hB : B0 ≤ w.heap.size) (hR : Reader Inv ok step F c B0) (hk0 : ok x0 0) (hks : ∀ x k v y, v < 16 → ok x k → step x k v = .ok y → ok y (k + 1))
    (hI : Inv x0 w) (hq : ∀ x w w', Inv x w → Kq w w' → Inv x w') (he : ∀ args w, (callFunc F args).run Tryd.prog w = .ok (.enter F args) w) :
    Calls Tryd.prog 67 #[.string s, .func (.func F) #[] #[c]] w (RetDig Inv B0 (scan step (runesAt s 0) 0 x0) w) := by
  obtain ⟨q, hqq⟩ : ∃ q, q = scan step (runesAt s 0) 0 x0 := ⟨_, rfl⟩
  rw [← hqq]
  have HQ := Lib.hid hqq
  have HR := Lib.hid hR
  have HK0 : Hid (ok x0 (0 - 2)) := hk0
  have HKS := Lib.hid hks
  have HK := Lib.hid hq
  have hX : Kq w ((w.alloc (.cells #[.int .i64 0, .int .i64 0] 44)).alloc (.stringIter s 0)) := ⟨by simp; omega, fun i cs t z _ h => by
    have hlt : i < w.heap.size := (Array.getElem?_eq_some_iff.1 h).1
    rw [Below.heap_alloc _ _ i (by simp; omega), Below.heap_alloc _ _ i hlt]; exact h⟩
  have HI := Lib.hid (hq x0 _ _ hI hX)
  have HB := Lib.hid (((Below.refl B0 w).alloc hB (.cells #[.int .i64 0, .int .i64 0] 44)).alloc (by simp; omega) (.stringIter s 0))
  have h1 : ((w.alloc (.cells #[.int .i64 0, .int .i64 0] 44)).alloc (.stringIter s 0)).heap[w.heap.size + 1]? = some (.stringIter s 0) := by
    have := heap_alloc_new (w.alloc (.cells #[.int .i64 0, .int .i64 0] 44)) (.stringIter s 0)
    simpa using this
  have h2 : ((w.alloc (.cells #[.int .i64 0, .int .i64 0] 44)).alloc (.stringIter s 0)).heap[w.heap.size]? = some (.cells #[.int .i64 0, .int .i64 0] 44 (0, 0)) := by
    rw [Below.heap_alloc _ _ _ (by simp)]; exact heap_alloc_new w _
  have H1 := Lib.hid h1
  have H2 := Lib.hid h2
  clear hqq hR hk0 hks hq hX hI h1 h2
  go_enter Tryd.func67, Tryd.ntmps67
  go_wp2_with fail
  go_loopw [6] (fun a wr => ∃ (k pos : Nat) (x : σ), a = .int .i64 (k : Int) ∧ Hid (k ≤ pos) ∧ Hid (wr.heap[w.heap.size + 1]? = some (.stringIter s pos)) ∧ Hid (wr.heap[w.heap.size]? = some (.cells #[.int .i64 0, .int .i64 0] 44 (0, 0))) ∧ Hid (q = scan step (runesAt s pos) k x) ∧ Hid (Inv x wr ∧ ok x (k - 2)) ∧ Hid (Below B0 w wr) ∧ (k : Int) ≤ 140737488355328)
    (fun a _ => s.size - (intOf a).toNat)
  case atStart => exact ⟨0, 0, x0, rfl, Nat.le_refl _, H1.out, H2.out, HQ.out, ⟨HI.out, HK0.out⟩, HB.out, by omega⟩
  case round =>
    clear HI HB H1 H2 HQ HK0
    obtain ⟨k, pos, x, rfl, hkp, hit, hft, hq, hinv0, hbel, hk9⟩ := hrel
    have hinv := Lib.hid hinv0.out.1
    have hok0 := Lib.hid hinv0.out.2
    clear hinv0
    by_cases hp : pos < s.size
    · have hnx : ∀ ty, (Instr.next (.pointer (some ⟨w.heap.size + 1, 0, none⟩)) true ty).run Tryd.prog wr = _ := fun ty => Lib.run_next_any_at wr (w.heap.size + 1) s pos ty hit.out hp
      have hit2 := Lib.hid (Lib.iterAt_heap wr (w.heap.size + 1) s pos (pos + (Utf8.decode s pos).2) hit.out)
      have hft2 := Lib.hid ((Lib.iterAt_other wr (w.heap.size + 1) w.heap.size s (pos + (Utf8.decode s pos).2) (by omega)).trans hft.out)
      have hbel2 := Lib.hid (Lib.below_iterAt hbel.out (k := w.heap.size + 1) (by omega) s (pos + (Utf8.decode s pos).2))
      have hkq : Kq wr (wr.iterAt (w.heap.size + 1) s (pos + (Utf8.decode s pos).2)) := ⟨by rw [Lib.iterAt_size]; exact Nat.le_refl _, fun i cs t z _ h => by
        by_cases e : i = w.heap.size + 1
        · subst e; rw [hit.out] at h; cases h
        · rw [Lib.iterAt_other _ _ _ _ _ e]; exact h⟩
      have hinv2 := Lib.hid (HK.out x _ _ hinv.out hkq)
      have hwd := decode_wide s pos hp
      have hd1 := decode_le s pos
      have hpk : Hid (k + 1 ≤ pos + (Utf8.decode s pos).2) := by show _ ≤ _; have := hkp.out; omega
      have hks : k < s.size := by have := hkp.out; omega
      obtain ⟨W, hW⟩ : ∃ W, W = wr.iterAt (w.heap.size + 1) s (pos + (Utf8.decode s pos).2) := ⟨_, rfl⟩
      obtain ⟨r, hr⟩ : ∃ r, r = (Utf8.decode s pos).1 := ⟨_, rfl⟩
      have C1 := Lib.hid (digit_h (r : Int) (by omega) (by omega) W)
      obtain ⟨c0, c1, f0, f1⟩ := two_cells hft2.out
      rw [← hW] at hit2 hft2 hbel2 hinv2 c0 c1 f0 f1
      rw [← hW, ← hr] at hnx
      have HR1 := Lib.hid hr
      clear hW hr hkq hit hft hbel hinv hkp
      have hst : ∀ y : Int, Below B0 w ((W.setCell ⟨w.heap.size, 0, none⟩ (.int .i64 2)).setCell ⟨w.heap.size, 1, none⟩ (.int .i64 y)) := fun y => (hbel2.out.setCell (p := ⟨w.heap.size, 0, none⟩) hB _).setCell (p := ⟨w.heap.size, 1, none⟩) hB _
      have HST := Lib.hid hst
      clear hst
      rcases (show k = 0 ∨ k = 1 ∨ 2 ≤ k by omega) with h | h | h
      · subst h
        by_cases hb : r = 48
        · have hsk := Lib.hid (hq.out.trans (scan_skip (k := 0) hp (by rw [← HR1.out, hb]; rfl) (by omega)))
          have hne : ((r : Int) != 48) = false := by simp; omega
          clear hb
          go_wp2_with fail
          (with_reducible refine C1.out.mono ?_)
          rintro e w1 ⟨rfl, hw1⟩
          rw [hw1]
          clear hw1 C1
          go_wp2_with fail
          go_roundw
          case rel => exact ⟨1, _, x, rfl, hpk, hit2.out, hft2.out, hsk.out, ⟨hinv2.out, hok0.out⟩, hbel2.out, by omega⟩
          case measure => simp [intOf]; omega
        · have hsk := Lib.hid (hq.out.trans (scan_bad (k := 0) hp (by rw [← HR1.out]; show decide _ = true; simp; omega)))
          have hne : ((r : Int) != 48) = true := by simp; omega
          clear hb
          go_wp2_with fail
          (with_reducible refine C1.out.mono ?_)
          rintro e w1 ⟨rfl, hw1⟩
          rw [hw1]
          clear hw1 C1
          go_wp2_with fail
          refine bodyPost_ret (v := .tuple #[.int .i64 0, .agg #[.int .i64 2, .int .i64 0]]) (by simp [results, Tryd.results67, go_sem, c0, c1]) rfl ⟨?_, ?_, ?_⟩
          · rw [hsk.out]; rfl
          · rw [hsk.out]; intro h; cases h
          · exact HST.out _
      · subst h
        by_cases hb : r = 120
        · have hsk := Lib.hid (hq.out.trans (scan_skip (k := 1) hp (by rw [← HR1.out, hb]; rfl) (by omega)))
          have hne : ((r : Int) != 120) = false := by simp; omega
          clear hb
          go_wp2_with fail
          (with_reducible refine C1.out.mono ?_)
          rintro e w1 ⟨rfl, hw1⟩
          rw [hw1]
          clear hw1 C1
          go_wp2_with fail
          go_roundw
          case rel => exact ⟨2, _, x, rfl, hpk, hit2.out, hft2.out, hsk.out, ⟨hinv2.out, hok0.out⟩, hbel2.out, by omega⟩
          case measure => simp [intOf]; omega
        · have hsk := Lib.hid (hq.out.trans (scan_bad (k := 1) hp (by rw [← HR1.out]; show decide _ = true; simp; omega)))
          have hne : ((r : Int) != 120) = true := by simp; omega
          clear hb
          go_wp2_with fail
          (with_reducible refine C1.out.mono ?_)
          rintro e w1 ⟨rfl, hw1⟩
          rw [hw1]
          clear hw1 C1
          go_wp2_with fail
          refine bodyPost_ret (v := .tuple #[.int .i64 0, .agg #[.int .i64 2, .int .i64 1]]) (by simp [results, Tryd.results67, go_sem, c0, c1]) rfl ⟨?_, ?_, ?_⟩
          · rw [hsk.out]; rfl
          · rw [hsk.out]; intro h; cases h
          · exact HST.out _
      · have hk0 : ((k : Int) == 0) = false := beq_eq_false_iff_ne.2 (by omega)
        have hk1 : ((k : Int) == 1) = false := beq_eq_false_iff_ne.2 (by omega)
        have hk2 : (1 : Int) < (k : Int) := by omega
        have hk4 : (k : Int) - 2 = ((k - 2 : Nat) : Int) := by omega
        have hk5 : IntKind.i64.wrap ((k : Int) - 2) = ((k - 2 : Nat) : Int) := by rw [IntWalk.i64_in _ (by omega)]; omega
        have hbad : badAt k r = !(digOk r) := by unfold badAt; rw [if_neg (by omega), if_neg (by omega)]
        by_cases hd : digOk r = true
        · rw [hd] at hbad C1
          have hb : badAt k (Utf8.decode s pos).1 = false := by rw [← HR1.out]; exact hbad
          have C2 := Lib.hid (HR.out x (k - 2) (digN r) W hinv2.out hok0.out (Nat.le_trans hB hbel2.out.size) (by omega) (digN_lt _))
          cases hs : step x (k - 2) (digN r) with
          | ok y =>
            have hsk := Lib.hid (hq.out.trans (scan_ok (y := y) hp hb (by omega) (by rw [← HR1.out]; exact hs)))
            have HS := Lib.hid hs
            clear hd hb hbad hs
            go_wp2_with fail
            (with_reducible refine C1.out.mono ?_)
            rintro e w1 ⟨rfl, hw1⟩
            rw [hw1]
            clear hw1 C1
            go_wp2_with fail
            (with_reducible refine C2.out.mono ?_)
            rintro e w2 ⟨hok, _⟩
            obtain ⟨rfl, hinv3, hkp3, hbel3⟩ := hok y HS.out
            have hit3 := Lib.hid ((hkp3 _).1 _ _ hit2.out)
            have hft3 := Lib.hid ((hkp3 _).2 _ _ hft2.out)
            have hinv3 := Lib.hid hinv3
            have hok3 : Hid (ok y (k + 1 - 2)) := by show ok y (k + 1 - 2); rw [show k + 1 - 2 = k - 2 + 1 by omega]; exact HKS.out x (k - 2) _ y (digN_lt _) hok0.out HS.out
            have hbel3 := Lib.hid (hbel2.out.trans hbel3)
            clear C2 hok hkp3
            go_wp2_with fail
            go_roundw
            case rel => exact ⟨k + 1, _, y, by go_num, hpk, hit3.out, hft3.out, hsk.out, ⟨hinv3.out, hok3.out⟩, hbel3.out, by omega⟩
            case measure => simp [intOf]; omega
          | error ec =>
            have hsk := Lib.hid (hq.out.trans (scan_err (c := ec) hp hb (by omega) (by rw [← HR1.out]; exact hs)))
            have HS := Lib.hid hs
            clear hd hb hbad hs
            go_wp2_with fail
            (with_reducible refine C1.out.mono ?_)
            rintro e w1 ⟨rfl, hw1⟩
            rw [hw1]
            clear hw1 C1
            go_wp2_with fail
            (with_reducible refine C2.out.mono ?_)
            rintro e w2 ⟨_, herr⟩
            obtain ⟨hec, rfl, hkp3, hbel3⟩ := herr ec HS.out
            obtain ⟨c0, c1, f0, f1⟩ := two_cells ((hkp3 _).2 _ _ hft2.out)
            have hbel3 := Lib.hid (hbel2.out.trans hbel3)
            have hne : ((ec : Int) != 0) = true := by simp; omega
            clear C2 herr hkp3
            go_wp2_with fail
            refine bodyPost_ret (v := .tuple #[.int .i64 0, .agg #[.int .i64 (ec : Nat), .int .i64 (k : Nat)]]) (by simp [results, Tryd.results67, go_sem, c0, c1]) rfl ⟨?_, ?_, ?_⟩
            · rw [hsk.out]; rfl
            · rw [hsk.out]; intro h; exact absurd h (by show ¬ (ec = 0); omega)
            · exact (hbel3.out.setCell (p := ⟨w.heap.size, 0, none⟩) hB _).setCell (p := ⟨w.heap.size, 1, none⟩) hB _
        · have hd : digOk r = false := by simpa using hd
          rw [hd] at hbad C1
          have hsk := Lib.hid (hq.out.trans (scan_bad hp (by rw [← HR1.out]; exact hbad)))
          clear hd hbad
          go_wp2_with fail
          (with_reducible refine C1.out.mono ?_)
          rintro e w1 ⟨rfl, hw1⟩
          rw [hw1]
          clear hw1 C1
          go_wp2_with fail
          refine bodyPost_ret (v := .tuple #[.int .i64 0, .agg #[.int .i64 2, .int .i64 (k : Nat)]]) (by simp [results, Tryd.results67, go_sem, c0, c1]) rfl ⟨?_, ?_, ?_⟩
          · rw [hsk.out]; rfl
          · rw [hsk.out]; intro h; cases h
          · exact HST.out _
    · have hnx : ∀ ty, (Instr.next (.pointer (some ⟨w.heap.size + 1, 0, none⟩)) true ty).run Tryd.prog wr = _ := fun ty => Lib.run_next_end_at wr (w.heap.size + 1) s pos ty hit.out hp
      have hq2 := hq.out.trans (scan_end hp)
      obtain ⟨c0, c1, f0, f1⟩ := two_cells hft.out
      by_cases hk2 : (k : Int) < 2
      · rw [if_pos (by omega)] at hq2
        have HQ2 := Lib.hid hq2
        have C1 := Lib.hid (early_c ((k : Int) - 2) (by omega) (by omega) wr)
        clear hq2 hq
        go_wp2_with fail
        (with_reducible refine C1.out.mono ?_)
        rintro e w1 ⟨rfl, hb1⟩
        have hft1 := (hb1.block w.heap.size (Array.getElem?_eq_some_iff.1 hft.out).1).trans hft.out
        obtain ⟨c0, c1, f0, f1⟩ := two_cells hft1
        have HB1 := Lib.hid (hbel.out.trans (hb1.mono (Nat.le_trans hB hbel.out.size)))
        have hk8 : 2 + ((k : Int) - 2) = (k : Int) := by omega
        rw [hk8]
        clear C1 hb1 hft1 hk8
        go_wp2_with fail
        refine bodyPost_ret (v := .tuple #[.int .i64 0, .agg #[.int .i64 2, .int .i64 (k : Nat)]]) (by simp [results, Tryd.results67, go_sem, c0, c1]) rfl ⟨?_, ?_, ?_⟩
        · rw [HQ2.out]; rfl
        · rw [HQ2.out]; intro h; cases h
        · exact (HB1.out.setCell (p := ⟨w.heap.size, 0, none⟩) hB _).setCell (p := ⟨w.heap.size, 1, none⟩) hB _
      · rw [if_neg (by omega)] at hq2
        have HQ2 := Lib.hid hq2
        clear hq2 hq
        have hk3 : IntKind.i64.wrap ((k : Int) - 2) = ((k - 2 : Nat) : Int) := by rw [IntWalk.i64_in _ (by omega)]; omega
        have hk4 : (k : Int) - 2 = ((k - 2 : Nat) : Int) := by omega
        go_wp2_with fail
        refine bodyPost_ret (v := .tuple #[.int .i64 (k - 2 : Nat), .agg #[.int .i64 0, .int .i64 0]]) (by simp [results, Tryd.results67, go_sem, c0, c1]) rfl ⟨?_, ?_, ?_⟩
        · rw [HQ2.out]; rfl
        · rw [HQ2.out]; intro _; exact HK.out x _ _ hinv.out (kq_put2 hft.out _ _)
        · exact (hbel.out.setCell (p := ⟨w.heap.size, 0, none⟩) hB _).setCell (p := ⟨w.heap.size, 1, none⟩) hB _
end Go.Proofs.YtopeahjdglkheaaDoor
