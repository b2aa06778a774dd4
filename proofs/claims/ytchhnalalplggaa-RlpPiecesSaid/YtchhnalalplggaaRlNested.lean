/- The laws' nested: so many lists in one another around an item. -/
import Derived.Test.YtchhnalalplggaaRlRead
namespace Go.Proofs.Ytchhnalalplggaa
open Go.RowKit

def nestI (x : Itm) : Nat → Itm
  | 0 => x
  | n + 1 => .list [nestI x n]
/-- An item's value, laid in a new block, as the one item of a list. -/
theorem IAt.wrap {S : Nat → Prop} {w : World} {p q r : Value} {x : Itm} (h : IAt S w (.agg #[p, q, r]) x) (hX : S w.heap.size) :
    IAt S (w.alloc (.cells #[p, q, r] 25)) (.agg #[.bool true, .slice none 0 0, .slice (some ⟨w.heap.size, 0, none⟩) 1 1]) (.list [x]) := by
  have hb : Below w.heap.size w (w.alloc (.cells #[p, q, r] 25)) := (Below.refl _ _).alloc (Nat.le_refl _) _
  obtain ⟨c0, c1, c2, -, -, -⟩ := three_cells (heap_alloc_new w (.cells #[p, q, r] 25))
  have hsz : (w.alloc (.cells #[p, q, r] 25)).heap.size = w.heap.size + 1 := by simp
  exact IAt.mk (S := S) true none 0 (some ⟨w.heap.size, 0, none⟩) 1 w.heap.size 0 (fun j => #[p, q, r].getD j undef) [] [x] (Rd.nil _) Ds.nil (fun h => absurd h (by simp)) (fun _ => ⟨rfl, by omega, hX⟩) (Nat.le_refl _) (fun h => by cases h)
    (fun j hj => by
      have hj : j < 3 := hj
      rw [Nat.zero_add]
      match j, hj with
      | 0, _ => exact c0
      | 1, _ => exact c1
      | 2, _ => exact c2)
    (fun j y hj => by
      match j, hj with
      | 0, hj => injection hj with hj; subst hj; exact h.keep hb)
theorem item_far {w : World} {g k : Nat} {a b c : Value} (h : k ≠ g) : (((w.setCell ⟨g, 0, none⟩ a).setCell ⟨g, 1, none⟩ b).setCell ⟨g, 2, none⟩ c).heap[k]? = w.heap[k]? :=
  (Below.heap_setCell _ _ _ _ h).trans ((Below.heap_setCell _ _ _ _ h).trans (Below.heap_setCell _ _ _ _ h))
theorem results_item {fn : Func} {p : Tmp} (h : fn.results = #[.cell p 25]) (tmps : Array Value) (w : World) (g : Nat) (a b c : Value)
    (hp : tmps.getD p undef = .pointer (some ⟨g, 0, none⟩)) (hg : w.heap[g]? = some (.cells #[a, b, c] 25 (0, 0))) :
    (results fn tmps).run Try.prog w = .ok (.agg #[a, b, c]) w := by
  have hp' : tmps[p]?.getD undef = .pointer (some ⟨g, 0, none⟩) := by simpa using hp
  simp [results, h, hp', asAddr, run_loadVar_row w g 25 25 #[a, b, c] (0, 0) _ hg Try.underlying25 rfl infoItem]

set_option maxRecDepth 100000 in
set_option maxHeartbeats 6400000 in
theorem nested_c {S0 : Nat → Prop} {x : Itm} {v : Value} (w : World) (n : Nat) (hn : n ≤ 1000000) (h : IAt S0 w v x) :
    Calls Try.prog 11 #[v, .int .i64 (n : Nat)] w (RetR (fun w' v => IAt (fun _ => True) w' v (nestI x n)) w) := by
  obtain ⟨l, a1, m1, c1, b1, k1, d1, rfl⟩ := h.parts
  have hbx : Below w.heap.size w ((w.alloc (.cells #[.bool l, .slice a1 m1 c1, .slice b1 k1 d1] 25)).alloc (.cells #[.bool false, .slice none 0 0, .slice none 0 0] 25)) := ((Below.refl w.heap.size w).alloc (Nat.le_refl _) _).alloc (by simp) _
  have hp1 : ((w.alloc (.cells #[.bool l, .slice a1 m1 c1, .slice b1 k1 d1] 25)).alloc (.cells #[.bool false, .slice none 0 0, .slice none 0 0] 25)).heap[w.heap.size]? = some (.cells #[.bool l, .slice a1 m1 c1, .slice b1 k1 d1] 25 (0, 0)) := by
    rw [Below.heap_alloc _ _ _ (by simp)]
    exact heap_alloc_new w _
  have hp2 : ((w.alloc (.cells #[.bool l, .slice a1 m1 c1, .slice b1 k1 d1] 25)).alloc (.cells #[.bool false, .slice none 0 0, .slice none 0 0] 25)).heap[w.heap.size + 1]? = some (.cells #[.bool false, .slice none 0 0, .slice none 0 0] 25 (0, 0)) := by
    have := heap_alloc_new (w.alloc (.cells #[.bool l, .slice a1 m1 c1, .slice b1 k1 d1] 25)) (.cells #[.bool false, .slice none 0 0, .slice none 0 0] 25)
    simpa using this
  have hi0 : IAt (fun b => b ≠ w.heap.size ∧ b ≠ w.heap.size + 1) ((w.alloc (.cells #[.bool l, .slice a1 m1 c1, .slice b1 k1 d1] 25)).alloc (.cells #[.bool false, .slice none 0 0, .slice none 0 0] 25)) (.agg #[.bool l, .slice a1 m1 c1, .slice b1 k1 d1]) x :=
    (h.mono (fun b hb _ => by omega)).keep hbx
  have HBX := Lib.hid hbx
  have HP1 := Lib.hid hp1
  have HP2 := Lib.hid hp2
  have HI := Lib.hid hi0
  have HN := Lib.hid hn
  clear hbx hp1 hp2 hi0 hn h
  go_enter Try.func11, Try.ntmps11
  go_upto_region 1 with (fail)
  generalize hWe : ((w.alloc (.cells #[.bool l, .slice a1 m1 c1, .slice b1 k1 d1] 25)).alloc (.cells #[.bool false, .slice none 0 0, .slice none 0 0] 25)) = W at *
  clear hWe
  go_loopw [1] (fun i wr => ∃ (j : Nat) (p q r : Value), j ≤ n ∧ i = .int .i64 ((n - j : Nat) : Int) ∧ Hid (Below w.heap.size w wr) ∧ Hid (wr.heap[w.heap.size]? = some (.cells #[p, q, r] 25 (0, 0))) ∧ Hid (wr.heap[w.heap.size + 1]? = some (.cells #[.bool false, .slice none 0 0, .slice none 0 0] 25 (0, 0))) ∧ Hid (IAt (fun b => b ≠ w.heap.size ∧ b ≠ w.heap.size + 1) wr (.agg #[p, q, r]) (nestI x j)))
    (fun i _ => (intOf i).toNat)
  case atStart => exact ⟨0, _, _, _, by omega, rfl, HBX.out, HP1.out, HP2.out, HI.out⟩
  case round =>
    obtain ⟨j, p, q, r, hj, rfl, hb, hg, hg2, hi⟩ := hrel
    obtain ⟨l3, a3, n3, c3, a4, n4, c4, e3⟩ := hi.out.parts
    obtain ⟨rfl, rfl, rfl⟩ : p = .bool l3 ∧ q = .slice a3 n3 c3 ∧ r = .slice a4 n4 c4 := by simpa using e3
    clear e3
    obtain ⟨x0, x1, x2, y0, y1, y2⟩ := three_cells hg.out
    obtain ⟨u0, u1, u2, v0, v1, v2⟩ := three_cells hg2.out
    have HJ := Lib.hid hj
    obtain ⟨k, hk⟩ : ∃ k, k = n - j := ⟨_, rfl⟩
    rw [← hk]
    have HK := Lib.hid hk
    clear hk hj
    by_cases h0 : 0 < k
    · have h1 : (0 : Int) < (k : Int) := by omega
      have e1 : IntKind.i64.wrap ((k : Int) - 1) = ((k - 1 : Nat) : Int) := by
        rw [IntWalk.i64_in _ (by have := HN.out; have := HK.out; omega)]; omega
      have hlt : w.heap.size + 1 < wr.heap.size := (Array.getElem?_eq_some_iff.1 hg2.out).1
      have G1 := Lib.hid ((Below.heap_alloc wr (.cells #[.bool l3, .slice a3 n3 c3, .slice a4 n4 c4] 25) w.heap.size (by omega)).trans hg.out)
      have G2 := Lib.hid ((Below.heap_alloc wr (.cells #[.bool l3, .slice a3 n3 c3, .slice a4 n4 c4] 25) (w.heap.size + 1) hlt).trans hg2.out)
      have HB2 := Lib.hid (below_item (hb.out.alloc hb.out.size (.cells #[.bool l3, .slice a3 n3 c3, .slice a4 n4 c4] 25)) (Nat.le_refl _) (.bool true) (.slice none 0 0) (.slice (some ⟨wr.heap.size, 0, none⟩) 1 1))
      have GA := Lib.hid (item_set G1.out (.bool true) (.slice none 0 0) (.slice (some ⟨wr.heap.size, 0, none⟩) 1 1))
      have GB := Lib.hid ((item_far (a := .bool true) (b := .slice none 0 0) (c := .slice (some ⟨wr.heap.size, 0, none⟩) 1 1) (show w.heap.size + 1 ≠ w.heap.size by omega)).trans G2.out)
      have HI2 := Lib.hid ((hi.out.wrap (show wr.heap.size ≠ w.heap.size ∧ wr.heap.size ≠ w.heap.size + 1 by omega)).move (w' := (((wr.alloc (.cells #[.bool l3, .slice a3 n3 c3, .slice a4 n4 c4] 25)).setCell ⟨w.heap.size, 0, none⟩ (.bool true)).setCell ⟨w.heap.size, 1, none⟩ (.slice none 0 0)).setCell ⟨w.heap.size, 2, none⟩ (.slice (some ⟨wr.heap.size, 0, none⟩) 1 1)) (by simp) (fun _ _ h => h) (fun a ha _ => below_cell_item ha.1))
      obtain ⟨z0, z1, z2, t0, t1, t2⟩ := three_cells G1.out
      have H0 := Lib.hid h0
      clear h0 hb hg hg2 hi hlt u0 u1 u2 v0 v1 v2 y0 y1 y2 G1 G2
      go_wp2_with fail
      exact ⟨⟨j + 1, _, _, _, by have := H0.out; have := HK.out; omega, by have := H0.out; have := HK.out; rw [show n - (j + 1) = k - 1 by omega], HB2.out, GA.out, GB.out, HI2.out⟩, by simp [intOf]; have := H0.out; omega⟩
    · have h1 : ¬ (0 : Int) < (k : Int) := by omega
      have HJN : Hid (j = n) := by show _ = _; have := HK.out; have := HJ.out; omega
      have HB2 := Lib.hid (below_item hb.out (show w.heap.size ≤ w.heap.size + 1 by omega) (.bool l3) (.slice a3 n3 c3) (.slice a4 n4 c4))
      have HI2 := Lib.hid (hi.out.move (w' := ((wr.setCell ⟨w.heap.size + 1, 0, none⟩ (.bool l3)).setCell ⟨w.heap.size + 1, 1, none⟩ (.slice a3 n3 c3)).setCell ⟨w.heap.size + 1, 2, none⟩ (.slice a4 n4 c4)) (S' := fun _ => True) (by simp) (fun _ _ _ => trivial) (fun a ha _ => below_cell_item ha.2))
      have H0 := Lib.hid h0
      clear h0 hb hi
      go_wp2_with fail
      refine bodyPost_ret (results_item Try.results11 _ _ (w.heap.size + 1) _ _ _ rfl (item_set hg2.out _ _ _)) rfl ⟨_, rfl, ?_, HB2.out⟩
      rw [← HJN.out]
      exact HI2.out
end Go.Proofs.Ytchhnalalplggaa
