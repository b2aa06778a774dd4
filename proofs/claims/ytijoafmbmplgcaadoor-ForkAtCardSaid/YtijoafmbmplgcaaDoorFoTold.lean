/- Package fork: told, which tells the last of the numbers whose fork has come. -/
import Derived.Test.YtijoafmbmplgcaaDoorFoBase
import Derived.Test.YtijoafmbmplgcaaDoorFkNative
import Derived.Deep.MidRow
import Derived.Deep.DeepCutAuto
namespace Go.Proofs.YtijoafmbmplgcaaDoor
open Go.RowKit

/-- Pairs of a fork and its number lie in a block. -/
def SinceAt (w : World) (g : Nat) (l : List (Int × Int)) : Prop := g < w.heap.size ∧ ∀ i p, l[i]? = some p → w.rangeAt g (i * 2) [.int .i64 p.1, .int .u64 p.2]
theorem SinceAt.below {w v : World} {g B : Nat} {l : List (Int × Int)} (h : SinceAt w g l) (hb : Below B w v) (hg : g < B) : SinceAt v g l :=
  ⟨Nat.lt_of_lt_of_le h.1 hb.size, fun i p hp j v hv => by rw [Below.cell hb (show (⟨g, i * 2 + j, none⟩ : Addr).block < B from hg)]; exact h.2 i p hp j v hv⟩
theorem infoSince : (Tryd.prog.info? 66).map (·.size) = some 2 := by kernel_rfl

set_option maxRecDepth 100000 in
set_option maxHeartbeats 6400000 in
theorem told_c (f a : Int) (l : List (Int × Int)) (g : Nat) (w : World) (h : SinceAt w g l) (hl : l.length ≤ 100) :
    Calls Tryd.prog 29 #[.int .i64 f, .int .u64 a, .slice (some ⟨g, 0, none⟩) l.length l.length] w (RetV (.int .u64 (fromZ f a l)) w) := by
  have hg := h.1
  obtain ⟨L, hL⟩ : ∃ L, L = l.length := ⟨_, rfl⟩
  rw [← hL] at hl ⊢
  have HL := Lib.hid hL
  clear hL
  go_enter Tryd.func29, Tryd.ntmps29
  go_wp2_with fail
  go_loopw [7, 13] (fun x n wr => ∃ (m : Nat) (y : Int), m ≤ L ∧ n = .int .i64 m ∧ x = .int .u64 y ∧ Hid (fromZ f y (l.drop m) = fromZ f a l) ∧ Hid (SinceAt wr g l) ∧ Hid (Below w.heap.size w wr)) (fun _ n _ => L - (intOf n).toNat)
  case atStart => exact ⟨0, a, Nat.zero_le _, rfl, rfl, rfl, h, Below.refl _ _⟩
  case round =>
    clear h
    obtain ⟨m, y, hm, rfl, rfl, hz, hs, hb⟩ := hrel
    by_cases h0 : m < L
    · obtain ⟨p, hp1⟩ : ∃ p, l[m]? = some p := ⟨_, List.getElem?_eq_getElem (by rw [← HL.out]; exact h0)⟩
      have hr := hs.out.2 m p hp1
      obtain ⟨p0, p1⟩ := p
      have c0 : wr.cell? ⟨g, m * 2, none⟩ = some (.int .i64 p0) := hr 0 _ rfl
      have c1 : wr.cell? ⟨g, m * 2 + 1, none⟩ = some (.int .u64 p1) := hr 1 _ rfl
      have hd : l.drop m = (p0, p1) :: l.drop (m + 1) := by
        rw [List.drop_eq_getElem_cons (by rw [← HL.out]; exact h0)]
        rw [List.getElem?_eq_getElem (by rw [← HL.out]; exact h0)] at hp1
        injection hp1 with hp1
        rw [hp1]
      rw [hd] at hz
      have hz := hz.out
      rw [fromZ_cons] at hz
      have hgr : g < wr.heap.size := hs.out.1
      by_cases hf : p0 ≤ f
      · rw [if_pos hf] at hz
        have HZ := Lib.hid hz
        clear hz hd hp1 hr
        go_wp2_with fail
        go_roundw
        case rel => exact ⟨m + 1, p1, by omega, by go_num, rfl, HZ.out, hs.out.below ((Below.refl wr.heap.size _).alloc (Nat.le_refl _) _) hs.out.1, hb.out.alloc hb.out.size _⟩
        case measure => simp [intOf]; omega
      · rw [if_neg hf] at hz
        have HZ := Lib.hid hz
        clear hz hd hp1 hr
        go_wp2_with fail
        go_roundw
        case rel => exact ⟨m + 1, y, by omega, by go_num, rfl, HZ.out, hs.out.below ((Below.refl wr.heap.size _).alloc (Nat.le_refl _) _) hs.out.1, hb.out.alloc hb.out.size _⟩
        case measure => simp [intOf]; omega
    · have hz := hz.out
      rw [List.drop_eq_nil_of_le (by have := HL.out; omega)] at hz
      have HZ : Hid (y = fromZ f a l) := hz
      clear hz
      go_wp2_with fail
      go_ret
      exact ⟨by rw [← HZ.out]; rfl, hb.out⟩
theorem told_n (f a : Int) (l : List (Int × Int)) (n g : Nat) (w : World) (h : SinceAt w g l) (hn : l.length = n) (hl : n ≤ 100) :
    Calls Tryd.prog 29 #[.int .i64 f, .int .u64 a, .slice (some ⟨g, 0, none⟩) n n] w (RetV (.int .u64 (fromZ f a l)) w) := by
  subst hn; exact told_c f a l g w h hl
theorem since_new (w : World) (T : TypeId) (l : List (Int × Int)) (cs : Array Value) (h : cs.toList = l.flatMap fun p => [.int .i64 p.1, .int .u64 p.2]) : SinceAt (w.alloc (.cells cs T)) w.heap.size l := by
  refine ⟨by simp, fun i p hp j v hv => ?_⟩
  have key : ∀ (l : List (Int × Int)) (i : Nat) p, l[i]? = some p → ∀ j v, [Value.int IntKind.i64 p.1, Value.int IntKind.u64 p.2][j]? = some v → (l.flatMap fun p => [Value.int .i64 p.1, Value.int .u64 p.2])[i * 2 + j]? = some v := by
    intro l
    induction l with
    | nil => intro i p h; simp at h
    | cons q r ih =>
      intro i p h j v hv
      cases i with
      | zero =>
        simp at h; subst h
        match j, hv with
        | 0, hv => simpa using hv
        | 1, hv => simpa using hv
      | succ i =>
        simp at h
        have := ih i p h j v hv
        rw [List.flatMap_cons, List.getElem?_append_right (by simp; omega)]
        simpa [Nat.add_mul, Nat.add_right_comm] using this
  have hk := key l i p hp j v hv
  rw [← h] at hk
  have e : cs[i * 2 + j]? = some v := by rw [← Array.getElem?_toList]; exact hk
  have hg := heap_alloc_new w (.cells cs T)
  exact (cell_of_row _ _ (i * 2 + j) _ _ (0, 0) hg).trans e
end Go.Proofs.YtijoafmbmplgcaaDoor
