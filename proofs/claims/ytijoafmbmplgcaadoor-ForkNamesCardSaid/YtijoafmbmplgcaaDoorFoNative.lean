/- Package fork: Native. -/
import Derived.Test.YtijoafmbmplgcaaDoorFoOf1
import Derived.Test.YtijoafmbmplgcaaDoorFkCheck
import Derived.Great.BuildSlice
namespace Go.Proofs.YtijoafmbmplgcaaDoor
open Go.RowKit

theorem wpList_want {P : Program} {ops : Array Oper} {Q : Exit → Act → World → Prop} {a : Act} {w : World} {rest : List Oper} {o : Oper} (hw : Region.wanted o (yielded ops a.tmps) = true)
    (h : ∀ K : Act → World → Prop, (∀ a w, wpList P ops Q rest a w → K a w) → o.wp P a w K Q) : wpList P ops Q (o :: rest) a w :=
  wpList_step fun K hK => by rw [if_pos hw]; exact h K hK
theorem wp_buildTo {P : Program} {o : Oper} {a : Act} {w : World} {K : Act → World → Prop} {Q : Exit → Act → World → Prop} (t : TypeId) (parts : Array (Nat × Operand)) (ho : o.op = .build t parts)
    (cells : Array Value) (hf : P.built t (parts.map fun (i, x) => (i, a.eval x)).toList = some cells) (h : K (a.put o.dst (.agg cells)) w) : o.wp P a w K Q := by
  refine wp_build t parts ho (by rw [hf]; rfl) ?_
  rw [hf]
  exact h
/-- Nineteen zeros and a byte. -/
def lone (b : Nat) : List Nat := List.replicate 19 0 ++ [b]
theorem lone_len (b : Nat) : (lone b).length = 20 := by simp [lone]
theorem built_lone (b : Nat) : Tryd.prog.built 27 [(19, .int .u8 (b : Nat))] = some (AdC (lone b)) := by kernel_rfl
theorem lone_iff {bs : List Nat} (hl : bs.length = 20) : bs = lone (bs.getD 19 0) ↔ bs.take 19 = List.replicate 19 0 := by
  constructor
  · intro h
    rw [h, lone, List.take_left' (by simp)]
  · intro h
    have e := (List.take_append_drop 19 bs).symm
    have d : bs.drop 19 = [bs.getD 19 0] := by
      rw [List.drop_eq_getElem_cons (by omega), List.drop_eq_nil_of_le (by omega), List.getD_eq_getElem?_getD, List.getElem?_eq_getElem (by omega)]
      rfl
    rw [h, d] at e
    exact e

set_option maxRecDepth 100000 in
set_option maxHeartbeats 6400000 in
theorem fonative_c (f : Int) (bs : List Nat) (hl : bs.length = 20) (hd : Ds 256 bs) (w : World) : Calls Tryd.prog 20 #[.int .i64 f, AdV bs] w (RetV (.int .i64 (nativeZ f bs)) w) := by
  show Calls Tryd.prog 20 #[.int .i64 f, .agg (AdC bs)] w (RetV (.int .i64 (nativeZ f bs)) w)
  have hrow : Row .u8 (w.alloc (.cells (AdC bs) 27)) w.heap.size 27 bs := Row.new (k := .u8) w 27 bs
  have hbel : Below w.heap.size w (w.alloc (.cells (AdC bs) 27)) := (Below.refl _ _).alloc (Nat.le_refl _) _
  have hg : (w.alloc (.cells (AdC bs) 27)).heap[w.heap.size]? = some (.cells (AdC bs) 27 (0, 0)) := heap_alloc_new w _
  have hsz : (Tryd.prog.info? 27).map (·.size) = some (AdC bs).size := by rw [infoAd]; simp [hl]
  obtain ⟨b, hb⟩ : ∃ b, b = bs.getD 19 0 := ⟨_, rfl⟩
  have c19 := hrow.cell 19 (by omega)
  rw [← hb] at c19
  have hb256 : b < 256 := by rw [hb]; exact hd.get (by omega) _
  have qe : ∀ w, (Op.equalIn 10000 27 (.agg (AdC bs)) (.agg (AdC (lone b)))).run Tryd.prog w = .ok (decide (bs = lone b)) w := fun w => eqAd Tryd.underlying27 bs (lone b) hl (lone_len b) w
  have hb1 := built_lone b
  have v64 : IntKind.u64.wrap (b : Int) = b := IntWalk.u64_in _ (by omega)
  have hms := most_small f
  obtain ⟨k, hk⟩ : ∃ k, k = fromZ f 4 [(4, 8), (7, 9), (15, 10)] := ⟨_, rfl⟩
  rw [← hk] at hms
  have CN : Hid (∀ w, Calls Tryd.prog 35 #[.int .i64 f] w (RetV (.int .u64 k) w)) := fun w => by rw [hk]; exact natives_c f w
  have CF : Hid (∀ w, Calls Tryd.prog 28 #[.int .i64 f] w fun e w' => e = .returned (.bool (decide (0 ≤ f ∧ f ≤ 15))) ∧ w' = w) := fun w => isFork_c f w
  obtain ⟨z, hz⟩ : ∃ z, z = nativeZ f bs := ⟨_, rfl⟩
  rw [← hz]
  have HZ : Hid (z = if bs = lone b ∧ (0 ≤ f ∧ f ≤ 15) ∧ (b : Int) ≤ k then (b : Int) else 0) := by
    show _ = _
    rw [hz, nativeZ, ← hk, hb]
    by_cases h : bs = lone (bs.getD 19 0)
    · have h2 := (lone_iff hl).1 h
      simp only [← h, h2, true_and, and_assoc]
    · have h2 := fun x => h ((lone_iff hl).2 x)
      rw [if_neg (fun x => h2 x.1), if_neg (fun x => h x.1)]
  have HB := Lib.hid hbel
  have HG := Lib.hid hg
  have HS := Lib.hid hsz
  have HB1 := Lib.hid hb1
  clear hbel hg hsz hb hd hl hz hk hrow hb1
  generalize AdC bs = X at *
  generalize AdC (lone b) = Y at *
  go_enter Tryd.func20, Tryd.ntmps20
  go_wp2_with fail
  generalize w.alloc (.cells X 27) = W at *
  rename_i KK hKK
  (with_reducible refine (CF.out _).mono ?_)
  rintro e w1 ⟨rfl, hw1⟩
  rw [hw1]
  clear CF hw1 w1
  by_cases hf : 0 ≤ f ∧ f ≤ 15
  · rw [decide_eq_true hf]
    show KK _ _
    refine hKK _ _ ?_
    clear hKK KK
    iterate 2 (refine wpList_plain rfl fun K hK => ?_; go_simp; refine hK _ _ ?_; clear hK K)
    refine wpList_want (by rfl) fun K hK => wp_load_row 27 (.tmp 3) rfl w.heap.size rfl 27 X (0, 0) _ HG.out Tryd.underlying27 rfl HS.out (hK _ _ ?_)
    clear hK K
    refine wpList_want (by rfl) fun K hK => ?_
    go_simp
    refine hK _ _ ?_
    clear hK K
    refine wpList_want (by rfl) fun K hK => wp_buildTo 27 _ rfl Y (Eq.trans (b := Program.built Tryd.prog 27 [(19, .int .u8 (b : Nat))]) (congrArg (Program.built Tryd.prog 27) (by kernel_rfl)) HB1.out) (hK _ _ ?_)
    clear hK K
    by_cases hx : bs = lone b
    · rw [decide_eq_true hx] at qe
      refine wpList_want (by rfl) fun K hK => ?_
      go_simp
      refine hK _ _ ?_
      clear hK K
      iterate 2 (refine wpList_plain rfl fun K hK => ?_; go_simp; refine hK _ _ ?_; clear hK K)
      iterate 3 (refine wpList_want (by rfl) fun K hK => ?_; go_simp; refine hK _ _ ?_; clear hK K)
      refine wpList_want (by rfl) fun K hK => ?_
      go_simp
      (with_reducible refine (CN.out _).mono ?_)
      rintro e w1 ⟨rfl, hb1⟩
      have HB2 := Lib.hid (HB.out.trans (hb1.mono HB.out.size))
      clear CN hb1 HB
      by_cases hk : k < (b : Int)
      · have e : z = 0 := by rw [HZ.out, if_neg (fun h => by have := h.2.2; omega)]
        clear HZ hf qe hx
        go_simp
        refine hK _ _ ?_
        clear hK K
        go_simp
        refine wpList_want (by rfl) fun K hK => ?_
        go_simp
        refine hK _ _ ?_
        clear hK K
        refine wpList_plain rfl fun K hK => ?_
        go_simp
        refine hK _ _ ?_
        clear hK K
        refine wpList_nil ?_
        go_simp
        go_wp2_with fail
        go_ret
        exact ⟨by rw [e]; rfl, HB2.out⟩
      · have e : z = (b : Int) := by rw [HZ.out, if_pos ⟨hx, hf, by omega⟩]
        clear HZ hf qe hx
        go_simp
        refine hK _ _ ?_
        clear hK K
        refine wpList_want (by rfl) fun K hK => ?_
        go_simp
        refine hK _ _ ?_
        clear hK K
        refine wpList_plain rfl fun K hK => ?_
        go_simp
        refine hK _ _ ?_
        clear hK K
        refine wpList_nil ?_
        go_simp
        go_wp2_with fail
        go_ret
        exact ⟨rfl, HB2.out⟩
    · rw [decide_eq_false hx] at qe
      have e : z = 0 := by rw [HZ.out, if_neg (fun h => hx h.1)]
      clear HZ hf hx
      refine wpList_want (by rfl) fun K hK => ?_
      go_simp
      refine hK _ _ ?_
      clear hK K qe
      iterate 2 (refine wpList_plain rfl fun K hK => ?_; go_simp; refine hK _ _ ?_; clear hK K)
      iterate 5 (refine wpList_skip (by rfl) ?_)
      go_simp
      refine wpList_plain rfl fun K hK => ?_
      go_simp
      refine hK _ _ ?_
      clear hK K
      refine wpList_nil ?_
      go_simp
      go_wp2_with fail
      go_ret
      exact ⟨by rw [e]; rfl, HB.out⟩
  · rw [decide_eq_false hf]
    have e : z = 0 := by rw [HZ.out, if_neg (fun h => hf h.2.1)]
    clear HZ hf qe
    show KK _ _
    refine hKK _ _ ?_
    clear hKK KK
    iterate 2 (refine wpList_plain rfl fun K hK => ?_; go_simp; refine hK _ _ ?_; clear hK K)
    iterate 4 (refine wpList_skip (by rfl) ?_)
    go_simp
    iterate 2 (refine wpList_plain rfl fun K hK => ?_; go_simp; refine hK _ _ ?_; clear hK K)
    iterate 5 (refine wpList_skip (by rfl) ?_)
    go_simp
    refine wpList_plain rfl fun K hK => ?_
    go_simp
    refine hK _ _ ?_
    clear hK K
    refine wpList_nil ?_
    go_simp
    go_wp2_with fail
    go_ret
    exact ⟨by rw [e]; rfl, HB.out⟩
end Go.Proofs.YtijoafmbmplgcaaDoor
