/- Package quarryref13: Native. -/
import Derived.Test.YtijoafmbmplgcaaDoorFkFrom
import Derived.Test.YtijoafmbmplgcaaDoorDig
namespace Go.Proofs.YtijoafmbmplgcaaDoor
open Go.RowKit

/-- An address by value: its bytes. -/
abbrev AdC (bs : List Nat) : Array Value := (bs.map fun n : Nat => Value.int .u8 (n : Int)).toArray
def AdV (bs : List Nat) : Value := .agg (AdC bs)
/-- The number of a contract of the machine's own at an address; 0: there is none. -/
def nativeZ (f : Int) (bs : List Nat) : Int :=
  if bs.take 19 = List.replicate 19 0 ∧ 0 ≤ f ∧ f ≤ 15 ∧ ((bs.getD 19 0 : Nat) : Int) ≤ fromZ f 4 [(4, 8), (7, 9), (15, 10)] then ((bs.getD 19 0 : Nat) : Int) else 0
theorem zeros_of {bs : List Nat} (hl : 19 ≤ bs.length) (h : ∀ j, j < 19 → bs.getD j 0 = 0) : bs.take 19 = List.replicate 19 0 := by
  refine List.ext_getElem (by simp; omega) fun i h1 h2 => ?_
  have h3 : i < 19 := by simpa using h2
  have := h i h3
  rw [List.getD_eq_getElem?_getD, List.getElem?_eq_getElem (by omega)] at this
  rw [List.getElem_take, List.getElem_replicate]
  exact this
theorem zeros_not {bs : List Nat} {m : Nat} (hm : m < 19) (h : bs.getD m 0 ≠ 0) : bs.take 19 ≠ List.replicate 19 0 := by
  intro e
  have h2 := congrArg (fun l : List Nat => l.getD m 0) e
  simp only [List.getD_eq_getElem?_getD, List.getElem?_take, if_pos hm, List.getElem?_replicate] at h2
  rw [List.getD_eq_getElem?_getD] at h
  rw [h2] at h
  exact h rfl
theorem most_small (f : Int) : 0 ≤ fromZ f 4 [(4, 8), (7, 9), (15, 10)] ∧ fromZ f 4 [(4, 8), (7, 9), (15, 10)] ≤ 10 := by
  simp only [fromZ]
  repeat' split
  all_goals omega
theorem pairs_new (w : World) (t : TypeId) (l : List (Int × Int)) (cs : Array Value) (h : cs.toList = l.flatMap fun p => [.int .u64 p.1, .int .u64 p.2]) : PairsAt (w.alloc (.cells cs t)) w.heap.size l := by
  have hg : ∀ (l : List (Int × Int)) (i : Nat) (p : Int × Int), l[i]? = some p → (l.flatMap fun p => [Value.int .u64 p.1, Value.int .u64 p.2])[i * 2]? = some (.int .u64 p.1) ∧ (l.flatMap fun p => [Value.int .u64 p.1, Value.int .u64 p.2])[i * 2 + 1]? = some (.int .u64 p.2) := by
    intro l
    induction l with
    | nil => intro i p h; simp at h
    | cons x r ih =>
      intro i p h
      cases i with
      | zero => simp at h; subst h; exact ⟨rfl, rfl⟩
      | succ i =>
        have := ih i p (by simpa using h)
        rw [show (i + 1) * 2 = i * 2 + 1 + 1 by omega]
        simpa using this
  intro i p hp
  obtain ⟨h0, h1⟩ := hg l i p hp
  rw [← h, Array.getElem?_toList] at h0 h1
  exact ⟨by rw [cell_of_row _ _ (i * 2) _ t (0, 0) (heap_alloc_new w _)]; exact h0, by rw [cell_of_row _ _ (i * 2 + 1) _ t (0, 0) (heap_alloc_new w _)]; exact h1⟩

theorem native_zero {f : Int} {bs : List Nat} (h : ¬ (bs.take 19 = List.replicate 19 0 ∧ 0 ≤ f ∧ f ≤ 15 ∧ ((bs.getD 19 0 : Nat) : Int) ≤ fromZ f 4 [(4, 8), (7, 9), (15, 10)])) : nativeZ f bs = 0 := by unfold nativeZ; rw [if_neg h]

set_option maxRecDepth 100000 in
set_option maxHeartbeats 6400000 in
theorem rnative_c (f : Int) (bs : List Nat) (hl : bs.length = 20) (hd : Ds 256 bs) (w : World) : Calls Tryd.prog 21 #[.int .i64 f, AdV bs] w (RetV (.int .i64 (nativeZ f bs)) w) := by
  show Calls Tryd.prog 21 #[.int .i64 f, .agg (AdC bs)] w (RetV (.int .i64 (nativeZ f bs)) w)
  have hrow : Row .u8 (w.alloc (.cells (AdC bs) 27)) w.heap.size 27 bs := Row.new (k := .u8) w 27 bs
  have hbel : Below w.heap.size w (w.alloc (.cells (AdC bs) 27)) := (Below.refl _ _).alloc (Nat.le_refl _) _
  obtain ⟨b, hb⟩ : ∃ b, b = bs.getD 19 0 := ⟨_, rfl⟩
  have c19 := hrow.cell 19 (by omega)
  rw [← hb] at c19
  have hb256 : b < 256 := by rw [hb]; exact hd.get (by omega) _
  have HB := Lib.hid hb
  have HD := Lib.hid hd
  clear hb hd
  go_enter Tryd.func21, Tryd.ntmps21
  go_wp2_with fail
  go_loop [5] (fun n => ∃ m : Nat, m ≤ 19 ∧ n = .int .i64 m ∧ Hid (∀ j, j < m → bs.getD j 0 = 0)) (fun n => 19 - (intOf n).toNat)
  case atStart => exact ⟨0, by omega, rfl, fun j hj => by omega⟩
  case round =>
    obtain ⟨m, hm, rfl, hz⟩ := hrel
    by_cases h0 : m < 19
    · have cm := hrow.cell m (by omega)
      obtain ⟨x, hx⟩ : ∃ x, x = bs.getD m 0 := ⟨_, rfl⟩
      rw [← hx] at cm
      have HX := Lib.hid hx
      clear hx
      by_cases hx0 : x = 0
      · subst hx0
        go_wp2_with fail
        go_round
        case rel => exact ⟨m + 1, by omega, by go_num, fun j hj => by
          rcases Nat.lt_or_ge j m with h1 | h1
          · exact hz.out j h1
          · obtain rfl : j = m := by omega
            exact HX.out.symm⟩
        case measure => simp [intOf]; omega
      · have hne : ((x : Int) != 0) = true := by simp; omega
        have e : nativeZ f bs = 0 := native_zero fun h => zeros_not h0 (by rw [← HX.out]; exact hx0) h.1
        go_wp2_with fail
        go_ret
        exact ⟨rfl, hbel⟩
    · obtain rfl : m = 19 := by omega
      have hz2 := zeros_of (by omega) hz.out
      have HZ := Lib.hid hz2
      obtain ⟨W, hW⟩ : ∃ W, W = w.alloc (.cells (AdC bs) 27) := ⟨_, rfl⟩
      rw [← hW] at hrow hbel c19 ⊢
      clear hz hz2 h0 hm hW
      have hp := pairs_new W 24 [(4, 8), (7, 9), (15, 10)] #[.int .u64 4, .int .u64 8, .int .u64 7, .int .u64 9, .int .u64 15, .int .u64 10] rfl
      have C1 := Lib.hid (rffrom_n f 4 [(4, 8), (7, 9), (15, 10)] 3 W.heap.size _ hp rfl (by omega) (by simp))
      have hbel2 := hbel.alloc hbel.size (.cells #[.int .u64 4, .int .u64 8, .int .u64 7, .int .u64 9, .int .u64 15, .int .u64 10] 24)
      have HB2 := Lib.hid hbel2
      obtain ⟨k, hk⟩ : ∃ k, k = fromZ f 4 [(4, 8), (7, 9), (15, 10)] := ⟨_, rfl⟩
      have hms := most_small f
      rw [← hk] at C1 hms
      have HK := Lib.hid hk
      have vk : IntKind.i64.wrap k = k := IntWalk.i64_in _ (by omega)
      clear hp hbel2 hk
      go_wp2_with fail
      (with_reducible refine C1.out.mono ?_)
      rintro e w1 ⟨rfl, rfl⟩
      clear C1
      by_cases hf0 : f < 0
      · have e : nativeZ f bs = 0 := native_zero fun h => by omega
        go_wp2_with fail
        go_ret
        exact ⟨by rw [e]; rfl, HB2.out⟩
      · by_cases hf1 : 15 < f
        · have e : nativeZ f bs = 0 := native_zero fun h => by omega
          go_wp2_with fail
          go_ret
          exact ⟨by rw [e]; rfl, HB2.out⟩
        · by_cases hbk : k < (b : Int)
          · have e : nativeZ f bs = 0 := native_zero fun h => by have := h.2.2.2; rw [← HB.out, ← HK.out] at this; omega
            go_wp2_with fail
            go_ret
            exact ⟨by rw [e]; rfl, HB2.out⟩
          · have e : nativeZ f bs = (b : Int) := by unfold nativeZ; rw [if_pos ⟨HZ.out, by omega, by omega, by rw [← HB.out, ← HK.out]; omega⟩, ← HB.out]
            go_wp2_with fail
            go_ret
            exact ⟨by rw [e]; rfl, HB2.out⟩
end Go.Proofs.YtijoafmbmplgcaaDoor
