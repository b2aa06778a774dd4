/- The law CodeBack over package code's contracts. (Its last region written by wip/gencdbacklaw.py.) -/
import Derived.RangeFuncNested
import Derived.RangeFuncBound
import Derived.RangeFuncCalls
import Derived.RangeFuncLeaves
import Derived.Shelf.Abstract
import Derived.Shelf.RegionOpen
import Derived.WalkKit
import Derived.OwnWalkIn
import Derived.TacticsInMore
import Derived.LoopNIn
import Derived.LoopIn
import Derived.Test.YtopeahjdglkheaaDoorCdShelf
import Derived.Test.YtopeahjdglkheaaDoorCdPieces
import Derived.Test.YtopeahjdglkheaaDoorCcWritten
import Derived.Test.YtopeahjdglkheaaDoorCdWakes
import Derived.Test.YtopeahjdglkheaaDoorOpsS
import Derived.Test.YtopeahjdglkheaaDoorCdOps
namespace Go.Proofs.YtopeahjdglkheaaDoor
open Go.RowKit Go.Shelf

attribute [local go_sem] Oper.semAt_some

/-- Lines, one behind the other, with an end of a line between. -/
def joinN : List ByteArray → List UInt8
  | [] => []
  | [x] => x.data.toList
  | x :: y :: r => x.data.toList ++ 10 :: joinN (y :: r)
theorem idx_none : ∀ l : List UInt8, (∀ c ∈ l, c ≠ 10) → Lib.indexByte l 10 = -1
  | [], _ => rfl
  | b :: l, h => by
    rw [Lib.indexByte, if_neg (by simpa using h b List.mem_cons_self), idx_none l fun c hc => h c (List.mem_cons_of_mem _ hc)]; rfl
theorem idx_first : ∀ l r : List UInt8, (∀ c ∈ l, c ≠ 10) → Lib.indexByte (l ++ 10 :: r) 10 = (l.length : Nat)
  | [], r, _ => rfl
  | b :: l, r, h => by
    rw [List.cons_append, Lib.indexByte, if_neg (by simpa using h b List.mem_cons_self), idx_first l r fun c hc => h c (List.mem_cons_of_mem _ hc)]
    rw [if_neg (by simp), List.length_cons]
    omega

theorem joinN_tail (x : ByteArray) : ∀ r : List ByteArray, (joinN r).length ≤ (joinN (x :: r)).length
  | [] => Nat.zero_le _
  | y :: r => by rw [joinN, List.length_append, List.length_cons]; omega
theorem joinN_drop : ∀ (ls : List ByteArray) (k : Nat), (joinN (ls.drop k)).length ≤ (joinN ls).length
  | ls, 0 => Nat.le_refl _
  | [], k + 1 => by simp
  | x :: r, k + 1 => Nat.le_trans (joinN_drop r k) (joinN_tail x r)

theorem split_c (s : ByteArray) (w : World) : Calls Tryd.prog 51 #[.string s, .string ⟨#[10]⟩, .int .i64 0] w fun e w' => e = .returned (.func (.func 63) #[] #[.pointer (some ⟨w.heap.size + 1, 0, none⟩), .pointer (some ⟨w.heap.size, 0, none⟩), .pointer (some ⟨w.heap.size + 2, 0, none⟩)]) ∧
    w' = ((w.alloc (.cells #[.string s] 9)).alloc (.cells #[.string ⟨#[10]⟩] 9)).alloc (.cells #[.int .i64 0] 3) := by
  go_enter Tryd.func51, Tryd.ntmps51
  go_wp2_with fail
  go_ret
  exact ⟨rfl, rfl⟩
theorem splitseq_c (s : ByteArray) (w : World) : Calls Tryd.prog 40 #[.string s, .string ⟨#[10]⟩] w fun e w' => e = .returned (.func (.func 63) #[] #[.pointer (some ⟨w.heap.size + 1, 0, none⟩), .pointer (some ⟨w.heap.size, 0, none⟩), .pointer (some ⟨w.heap.size + 2, 0, none⟩)]) ∧
    w' = ((w.alloc (.cells #[.string s] 9)).alloc (.cells #[.string ⟨#[10]⟩] 9)).alloc (.cells #[.int .i64 0] 3) := by
  have K := Lib.hid (split_c s w)
  go_enter Tryd.func40, Tryd.ntmps40
  go_wp2_with fail
  (with_reducible refine K.out.mono ?_)
  rintro e w1 ⟨rfl, rfl⟩
  clear K
  go_wp2_with fail
  go_ret
  exact ⟨rfl, rfl⟩

/-- What is left of the text, in letters. -/
def leftIn (g : Nat) (w : World) : Nat := match w.cell? ⟨g, 0, none⟩ with
  | some (.string s) => s.size
  | _ => 0
theorem leftIn_at {g : Nat} {w : World} {s : ByteArray} (h : w.cell? ⟨g, 0, none⟩ = some (.string s)) : leftIn g w = s.size := by unfold leftIn; rw [h]

set_option maxRecDepth 100000 in
set_option maxHeartbeats 4000000 in
theorem iter_c (n : Nat) (hn : 2 ≤ n) (l g : Nat) (ls : List ByteArray) (hne : ls ≠ []) (hlow : ∀ x ∈ ls, ∀ c ∈ x.data.toList, c ≠ 10) (hsz : (joinN ls).length ≤ 1073741824) (J : Nat → World → Prop)
    (hJ : ∀ k W v, J k W → J k (W.setCell ⟨g, 0, none⟩ v))
    (hC : ∀ k W, J k W → W.cell? ⟨g + 1, 0, none⟩ = some (.string ⟨#[10]⟩) ∧ W.cell? ⟨g + 2, 0, none⟩ = some (.int .i64 0))
    (hY : ∀ k x W, ls[k]? = some x → J k W → YieldAt Fence.wide (n - 1) Tryd.prog l #[.string x] W fun e W' => e = .returned (.bool true) ∧ J (k + 1) W' ∧ ∀ u, Boxed W g 9 u → Boxed W' g 9 u)
    (W : World) {s0 : ByteArray} (hs0 : s0.data.toList = joinN ls) (hb0 : Boxed W g 9 (.string s0)) (h0 : J 0 W) :
    CallsIn Fence.wide n Tryd.prog 63 #[.func (.yield l) #[] #[], .pointer (some ⟨g + 1, 0, none⟩), .pointer (some ⟨g, 0, none⟩), .pointer (some ⟨g + 2, 0, none⟩)] W fun e W' => (∃ v, e = .returned v) ∧ J ls.length W' := by
  obtain ⟨hc1, hc2⟩ := hC 0 W h0
  refine callsIn_of_wp Tryd.func63 rfl trivial ?_ rfl
  simp only [Tryd.ntmps63, List.size_toArray, List.length_cons, List.length_nil, Nat.reduceAdd, Nat.reduceSub, Array.replicate_succ, Array.replicate_zero, List.push_toArray, List.append_toArray, List.nil_append, List.cons_append]
  gi_wp2
  gi_loopw [7, 8] (fun _ _ wr => ∃ (k : Nat) (s : ByteArray), k < ls.length ∧ s.data.toList = joinN (ls.drop k) ∧ Boxed wr g 9 (.string s) ∧ J k wr) (fun _ _ wr => leftIn g wr)
  case atStart =>
    exact ⟨0, s0, List.length_pos_iff.2 hne, hs0, hb0, h0⟩
  case round =>
    obtain ⟨k, s, hk, hs, hb, hJk⟩ := hrel
    obtain ⟨x, hx⟩ : ∃ x, ls[k]? = some x := ⟨_, List.getElem?_eq_getElem hk⟩
    have hdr : ls.drop k = x :: ls.drop (k + 1) := by
      rw [List.drop_eq_getElem_cons hk]
      rw [List.getElem?_eq_getElem hk] at hx
      injection hx with hx
      rw [hx]
    have hxl := hlow x (List.mem_of_getElem? hx)
    obtain ⟨hc1, hc2⟩ := hC k wr hJk
    have hss : s.size ≤ 1073741824 := by rw [size_of hs]; exact Nat.le_trans (joinN_drop ls k) hsz
    have hc0 := hb.cell
    have hf0 := hb.frozen
    by_cases hlast : k + 1 < ls.length
    · obtain ⟨y, r, hyr⟩ : ∃ y r, ls.drop (k + 1) = y :: r := by
        cases h : ls.drop (k + 1) with
        | nil => have := congrArg List.length h; simp at this; omega
        | cons y r => exact ⟨y, r, rfl⟩
      have hs2 : s.data.toList = x.data.toList ++ 10 :: joinN (ls.drop (k + 1)) := by rw [hs, hdr, hyr]; rfl
      obtain ⟨m, hm⟩ : ∃ m, m = x.data.toList.length := ⟨_, rfl⟩
      have hidx : Lib.indexByte s.data.toList 10 = (m : Nat) := by rw [hs2, hm]; exact idx_first _ _ hxl
      have hsize := size_of hs2
      rw [List.length_append, List.length_cons, ← hm] at hsize
      have hex : s.extract 0 m = x := by
        have h := ext_at (s := s) (p := []) (w := x.data.toList) (q := 10 :: joinN (ls.drop (k + 1))) (by rw [hs2]; rfl) (e := m) (by rw [hm]; simp)
        rw [← tx_of (s := x) rfl] at h
        exact h
      have hex2 : (s.extract (m + 1) s.size).data.toList = joinN (ls.drop (k + 1)) := by
        rw [ByteArray.data_extract, Array.toList_extract, List.extract_eq_take_drop, hs2]
        rw [show (x.data.toList ++ 10 :: joinN (ls.drop (k + 1))) = (x.data.toList ++ [10]) ++ joinN (ls.drop (k + 1)) by simp]
        rw [List.drop_left' (by simp [hm]), List.take_of_length_le (by omega)]
      have ki := fun u => hstrings_Index_one s 10 u
      rw [hidx] at ki
      have KI := Lib.hid ki
      obtain ⟨fn, tmps, assign, body, hy, hR⟩ := hY k x wr hx hJk
      have HY := Lib.hid hy
      have HEX := Lib.hid hex
      have HEX2 := Lib.hid hex2
      have HSZ := Lib.hid hsize
      have a1 : IntKind.i64.wrap ((m : Int) + 0) = (m : Int) := by rw [Int.add_zero]; exact IntWalk.i64_in _ (by omega)
      have a2 : IntKind.i64.wrap ((m : Int) + 1) = ((m + 1 : Nat) : Int) := by rw [IntWalk.i64_in _ (by omega)]; omega
      have a3 : (m : Int) ≤ (s.size : Int) := by omega
      have a4 : ((m + 1 : Nat) : Int) ≤ (s.size : Int) := by omega
      have a5 : (0 : Int) ≤ (m : Int) := by omega
      clear hy hex hex2 hidx hs2 hyr ki hm hsize hs hdr
      have hex := HEX.out
      have hy := HY.out
      gi_wp2
      refine ⟨trivial, fun _ => by omega, (callsIn_wide.2 (KI.out _)).mono ?_⟩
      rintro e w' ⟨rfl, rfl⟩
      gi_wp2
      refine ⟨fun _ => by omega, hR.mono ?_⟩
      rintro e W3 ⟨rfl, hJ3, hkp⟩
      have hb3 := hkp _ hb
      have HB3 := Lib.hid hb3
      have HB0 := Lib.hid hb
      obtain ⟨hd1, hd2⟩ := hC (k + 1) W3 hJ3
      have hd0 := hb3.cell
      have hg0 := hb3.frozen
      clear hkp hb3 hb hc0 hc1 hc2 hf0 hR hy HY KI
      gi_wp2
      go_roundw
      case rel => exact ⟨k + 1, s.extract (m + 1) s.size, hlast, HEX2.out, HB3.out.set _, hJ _ _ _ hJ3⟩
      case measure =>
        rw [leftIn_at HB0.out.cell, leftIn_at (HB3.out.set _).cell, ByteArray.size_extract]
        have := HSZ.out
        omega
    · have hk1 : k + 1 = ls.length := by omega
      rw [List.drop_eq_nil_of_le (show ls.length ≤ k + 1 by omega)] at hdr
      have hs2 : s.data.toList = x.data.toList := by rw [hs, hdr]; rfl
      obtain rfl : s = x := ByteArray.ext (Array.toList_inj.1 hs2)
      have hidx : Lib.indexByte s.data.toList 10 = -1 := idx_none _ hxl
      have ki := fun u => hstrings_Index_one s 10 u
      rw [hidx] at ki
      have KI := Lib.hid ki
      obtain ⟨fn, tmps, assign, body, hy, hR⟩ := hY k s wr hx hJk
      clear hidx hs2 ki hs hdr
      gi_wp2
      refine ⟨trivial, fun _ => by omega, (callsIn_wide.2 (KI.out _)).mono ?_⟩
      rintro e w' ⟨rfl, rfl⟩
      gi_wp2
      refine ⟨fun _ => by omega, hR.mono ?_⟩
      rintro e W3 ⟨rfl, hJ3, hkp⟩
      gi_wp2
      go_end0
      exact ⟨⟨_, rfl⟩, by rw [← hk1]; exact hJ3⟩
end Go.Proofs.YtopeahjdglkheaaDoor
namespace Go.Proofs.YtopeahjdglkheaaDoor
open Go.RowKit Go.Shelf

set_option maxRecDepth 100000 in
set_option maxHeartbeats 4000000 in
theorem range_lines (n : Nat) (hn : 4 ≤ n) {gop : Operand} {tp : Tmp} {assign body : Code} {Q : Exit → Act → World → Prop} {a : Act} {w : World} {gb : Nat}
    (hg : a.eval gop = .func (.func 63) #[] #[.pointer (some ⟨gb + 1, 0, none⟩), .pointer (some ⟨gb, 0, none⟩), .pointer (some ⟨gb + 2, 0, none⟩)])
    {ls : List ByteArray} (hne : ls ≠ []) (hlow : ∀ x ∈ ls, ∀ c ∈ x.data.toList, c ≠ 10) (hsz : (joinN ls).length ≤ 1073741824)
    (I : Nat → World → Prop) (hI : OwnFrom w.heap.size I) (hIs : ∀ k W v, I k W → I k (W.setCell ⟨gb, 0, none⟩ v))
    (hIc : ∀ k W, I k W → W.cell? ⟨gb + 1, 0, none⟩ = some (.string ⟨#[10]⟩) ∧ W.cell? ⟨gb + 2, 0, none⟩ = some (.int .i64 0))
    {s0 : ByteArray} (hs0 : s0.data.toList = joinN ls) (hb0 : Boxed w gb 9 (.string s0)) (h0 : I 0 w) (a₁ : ByteArray → Act)
    (hassign : ∀ (l : Nat) (x : ByteArray) (W : World) (K : Act → World → Prop), K (a₁ x) W → assign.wpIn (Fence.wide.inRound l) (n - 1 - 1) Tryd.prog (Exit.then K (fun _ _ _ => False)) { tmps := a.tmps.setIfInBounds tp (.string x), defers := [] } W)
    (hbody : ∀ (l k : Nat) (x : ByteArray) (W : World), ls[k]? = some x → I k W → body.wpIn (Fence.wide.inRound l) (n - 1 - 1) Tryd.prog (fun e _ W' => e = .normal ∧ KeepsFrom w.heap.size W W' ∧ I (k + 1) W' ∧ ∀ u, Boxed W gb 9 u → Boxed W' gb 9 u) (a₁ x) W)
    (hdone : ∀ (D : Nat) (W : World), w.heap.size ≤ D → I ls.length W → W.heap[D]? = some (.deferred (some [])) → Q .normal { a with defers := { target := .collected D, args := #[] } :: a.defers } W) :
    (Code.rangeFunc gop #[tp] assign body).wpIn Fence.wide n Tryd.prog Q a w := by
  have hgb := hb0.lt
  refine wpIn_rangeFunc ?_
  intro fn hfn
  rw [show Fence.wide.round = none from rfl]
  obtain ⟨rec, hrec⟩ : ∃ rec : LoopState → Option Code → Loop, rec = fun st pe => { state := st, pending := pe, fn, tmps := a.tmps, params := #[tp], assign, body, defers := w.heap.size } := ⟨_, rfl⟩
  obtain ⟨W1, hW1⟩ : ∃ W1, (w.alloc (.deferred (some []))).alloc (.loop (rec .ready none)) = W1 := ⟨_, rfl⟩
  have hL1 : W1.heap[w.heap.size + 1]? = some (.loop (rec .ready none)) := by
    rw [← hW1]; have := World.alloc_heap_new (w.alloc (.deferred (some []))) (.loop (rec .ready none)); rwa [World.size_alloc] at this
  have hK1 : W1.heap[w.heap.size]? = some (.deferred (some [])) := by
    rw [← hW1]; exact (Below.heap_alloc _ _ _ (by simp)).trans (World.alloc_heap_new w _)
  have hI1 : I 0 W1 := by rw [← hW1]; exact hI.alloc _ (hI.alloc _ h0)
  have hb1 : Boxed W1 gb 9 (.string s0) := by rw [← hW1]; exact (hb0.alloc _).alloc _
  refine ⟨w.heap.size + 1, [{ target := .collected w.heap.size, args := #[] }], W1, { target := .fn (.func 63) #[.pointer (some ⟨gb + 1, 0, none⟩), .pointer (some ⟨gb, 0, none⟩), .pointer (some ⟨gb + 2, 0, none⟩)], args := #[.func (.yield (w.heap.size + 1)) #[] #[]] }, W1, 63,
    #[.func (.yield (w.heap.size + 1)) #[] #[], .pointer (some ⟨gb + 1, 0, none⟩), .pointer (some ⟨gb, 0, none⟩), .pointer (some ⟨gb + 2, 0, none⟩)], W1, ?_, ?_, ?_, ?_, fun _ => by omega, ?_⟩
  · rw [← hW1, hrec]; exact run_enterLoop_outer _ _ _ _ _
  · simp only [resolve, hg]
    simp [go_sem]
  · intro f' _; trivial
  · have eg : ∀ args w, (callFunc 63 args).run Tryd.prog w = .ok (.enter 63 args) w := enters_of Tryd.func63 (by kernel_rfl) rfl
    simp [invoke, go_sem, eg]
  · have hkeep : ∀ (A : World) (v : Value) (r : Nat) (o : Obj), w.heap.size ≤ r → A.heap[r]? = some o → (A.setCell ⟨gb, 0, none⟩ v).heap[r]? = some o := fun A v r o hr ho => by
      rw [Below.heap_setCell _ ⟨gb, 0, none⟩ v r (by show r ≠ gb; omega)]; exact ho
    refine (iter_c (n - 1) (by omega) (w.heap.size + 1) gb ls hne hlow hsz
      (fun k W => I k W ∧ W.heap[w.heap.size + 1]? = some (.loop (rec .ready none)) ∧ W.heap[w.heap.size]? = some (.deferred (some [])))
      (fun k A v hs => ⟨hIs k A v hs.1, hkeep A v _ _ (by omega) hs.2.1, hkeep A v _ _ (Nat.le_refl _) hs.2.2⟩)
      (fun k A hs => hIc k A hs.1) ?_ W1 hs0 hb1 ⟨hI1, hL1, hK1⟩).mono ?_
    · -- one round
      rintro k x W hx ⟨hi, hl, hk⟩
      have hlt : w.heap.size + 1 < W.heap.size := (Array.getElem?_eq_some_iff.1 hl).1
      have hy := run_yield (P := Tryd.prog) (args := #[.string x]) hl (by rw [hrec]; rfl)
      have hz : ((#[tp] : Array Tmp).zip #[Value.string x]).foldl (fun (tmps : Array Value) (p : Tmp × Value) => tmps.setIfInBounds p.1 p.2) a.tmps = a.tmps.setIfInBounds tp (.string x) := by simp
      rw [hrec] at hy
      dsimp only at hy
      rw [hz] at hy
      refine ⟨fn, _, assign, body, hy, roundIn_of_wpIn hfn ?_⟩
      refine hassign _ x W _ ?_
      refine ⟨_, run_beginRound hl (by rw [hrec]), ?_⟩
      clear hy
      have hl2 : (W.putObj (w.heap.size + 1) (.loop { rec .ready none with state := .busy })).heap[w.heap.size + 1]? = some (.loop { rec .ready none with state := .busy }) := World.putObj_heap_same hlt
      have hk2 : (W.putObj (w.heap.size + 1) (.loop { rec .ready none with state := .busy })).heap[w.heap.size]? = some (.deferred (some [])) := (World.putObj_heap_other (by omega)).trans hk
      refine wpIn_mono (hbody _ k x _ hx (hI.putObj _ hi (by omega) hl rfl)) ?_
      rintro e a3 W3 ⟨rfl, hk3, hi3, hbx⟩
      have hl3 := hk3.same _ _ (by omega) hl2 rfl
      have hr := run_endRound (P := Tryd.prog) none hl3
      rw [hrec] at hr hl3
      refine ⟨_, _, hr, rfl, ⟨hI.putObj _ hi3 (by omega) hl3 rfl, ?_, ?_⟩, fun u hu => ?_⟩
      · rw [hrec]; exact World.putObj_heap_same (Array.getElem?_eq_some_iff.1 hl3).1
      · exact (World.putObj_heap_other (by omega)).trans (hk3.same _ _ (Nat.le_refl _) hk2 rfl)
      · have h1 := hbx u (by exact (World.putObj_heap_other (show gb ≠ w.heap.size + 1 by omega)).trans hu)
        exact (World.putObj_heap_other (show gb ≠ w.heap.size + 1 by omega)).trans h1
    · rintro e W2 ⟨⟨v, rfl⟩, hi, hl, hk⟩
      refine ⟨none, _, by have := run_endLoop (P := Tryd.prog) hl (by rw [hrec]; simp); rw [hrec] at this; exact this, hdone _ _ (Nat.le_refl _) (hI.putObj _ hi (by omega) hl rfl) ((World.putObj_heap_other (by omega)).trans hk)⟩
end Go.Proofs.YtopeahjdglkheaaDoor
namespace Go.Proofs.YtopeahjdglkheaaDoor
open Go.RowKit Go.Shelf

/-- A line that stands for bytes, of which some may be missing. -/
structure LineOk (f : Int) (x : ByteArray) (bs : List Nat) (ms : Nat) : Prop where
  len : 0 < (flds x 0 none).length ∧ (flds x 0 none).length ≤ 1000
  bsl : bs.length ≤ 100
  msl : ms ≤ 100
  wr : ∀ (w : World) (M c : Nat) (A : Option Addr), M < w.heap.size → KnownAt w M f → SsAt w A (flds x 0 none) → Calls Tryd.prog 42 #[.int .i64 f, .map (some M), .slice A (flds x 0 none).length c] w (WrR bs ms w)
/-- Such a line, or one without pieces. -/
structure RowOk (f : Int) (x : ByteArray) (bs : List Nat) (ms : Nat) : Prop where
  low : ∀ c ∈ x.data.toList, c ≠ 10
  size : x.size ≤ 1073741824
  row : (flds x 0 none = [] ∧ bs = [] ∧ ms = 0) ∨ LineOk f x bs ms

/-- Between two rounds of Read: what its variables hold. -/
structure RdI (f : Int) (n0 b2 b4 b5 b6 b7 b8 b9 gb M : Nat) (w : World) (k : Nat) (bs : List Nat) (cut : Int) (v : Value) (W : World) : Prop where
  c2 : Boxed W b2 3 (.int .i64 f)
  c4 : Boxed W b4 31 (.slice none 0 0)
  c5 : W.heap[b5]? = some (.cells #[.int .i64 0, .int .i64 0] 44 (0, 0))
  c6 : Boxed W b6 31 v
  c7 : Boxed W b7 69 (.map (some M))
  c8 : Boxed W b8 3 (.int .i64 (k : Nat))
  c9 : Boxed W b9 3 (.int .i64 cut)
  cs : ∃ u, Boxed W gb 9 u
  cp : Boxed W (gb + 1) 9 (.string ⟨#[10]⟩)
  cv : Boxed W (gb + 2) 3 (.int .i64 0)
  known : KnownAt W M f
  acc : Acc W n0 v bs
  bel : Below n0 w W
/-- The blocks' order. -/
structure RdB (n0 b2 b4 b5 b6 b7 b8 b9 gb : Nat) : Prop where
  o1 : n0 ≤ b2
  o2 : b2 < b4
  o3 : b4 < b5
  o4 : b5 < b6
  o5 : b6 < b7
  o6 : b7 < b8
  o7 : b8 < b9
  o8 : b9 < gb

section
variable {f : Int} {n0 b2 b4 b5 b6 b7 b8 b9 gb M : Nat} {w : World} {k : Nat} {bs : List Nat} {cut : Int} {v : Value} {W W' : World}
theorem KnownAt.kept {row : Option Nat} (h : KnownAt W M f) (hg : W.grownBy W' row) (hr : some M ≠ row) : KnownAt W' M f := by
  obtain ⟨es, clock, h1, h2⟩ := h
  exact ⟨es, clock, by rw [hg.block M (Array.getElem?_eq_some_iff.1 h1).1 hr]; exact h1, h2⟩
theorem known_not {b : Nat} {cs : Array Value} {t : TypeId} (h : KnownAt W M f) (hb : W.heap[b]? = some (.cells cs t (0, 0))) : M ≠ b := fun e => by
  obtain ⟨es, clock, h1, h2⟩ := h
  subst e
  rw [hb] at h1
  cases h1
theorem own_not {b : Nat} {cs : Array Value} {t : TypeId} (h : Acc W n0 v bs) (hb : W.heap[b]? = some (.cells cs t (0, 0))) (ht : t ≠ 5) : v.ownBlock ≠ some b := fun e => by
  rcases h.2 with ⟨rfl, _⟩ | ⟨g, cap, cur, rfl, _, hgb, _⟩
  · simp [Value.ownBlock] at e
  · obtain rfl : g = b := by simpa [Value.ownBlock] using e
    rw [hb] at hgb
    injection hgb with hgb
    injection hgb with _ h2 _
    exact ht h2
/-- Where blocks that it does not speak of turn alone, it holds. -/
theorem RdI.kept {row : Option Nat} (h : RdI f n0 b2 b4 b5 b6 b7 b8 b9 gb M w k bs cut v W) (hg : W.grownBy W' row) (h0 : ∀ r, row = some r → n0 ≤ r) (hn : n0 ≤ W.heap.size)
    (hb : ∀ r, row = some r → r ≠ b2 ∧ r ≠ b4 ∧ r ≠ b5 ∧ r ≠ b6 ∧ r ≠ b7 ∧ r ≠ b8 ∧ r ≠ b9 ∧ r ≠ gb ∧ r ≠ gb + 1 ∧ r ≠ gb + 2 ∧ r ≠ M) (hv : v.ownBlock = none ∨ v.ownBlock ≠ row) :
    RdI f n0 b2 b4 b5 b6 b7 b8 b9 gb M w k bs cut v W' := by
  have hne : ∀ b : Nat, (∀ r, row = some r → r ≠ b) → some b ≠ row := fun b h e => h b e.symm rfl
  obtain ⟨u, hu⟩ := h.cs
  exact { c2 := h.c2.kept hg (hne _ fun r e => (hb r e).1), c4 := h.c4.kept hg (hne _ fun r e => (hb r e).2.1),
          c5 := (hg.block b5 (Array.getElem?_eq_some_iff.1 h.c5).1 (hne _ fun r e => (hb r e).2.2.1)).trans h.c5,
          c6 := h.c6.kept hg (hne _ fun r e => (hb r e).2.2.2.1), c7 := h.c7.kept hg (hne _ fun r e => (hb r e).2.2.2.2.1),
          c8 := h.c8.kept hg (hne _ fun r e => (hb r e).2.2.2.2.2.1), c9 := h.c9.kept hg (hne _ fun r e => (hb r e).2.2.2.2.2.2.1),
          cs := ⟨u, hu.kept hg (hne _ fun r e => (hb r e).2.2.2.2.2.2.2.1)⟩, cp := h.cp.kept hg (hne _ fun r e => (hb r e).2.2.2.2.2.2.2.2.1),
          cv := h.cv.kept hg (hne _ fun r e => (hb r e).2.2.2.2.2.2.2.2.2.1), known := h.known.kept hg (hne _ fun r e => (hb r e).2.2.2.2.2.2.2.2.2.2),
          acc := World.ownsRow.kept h.acc hg (by
            rcases hv with hv | hv
            · rcases h.acc.2 with ⟨rfl, _⟩ | ⟨g, cap, cur, rfl, _, hgb, _⟩
              · exact .inl rfl
              · simp [Value.ownBlock] at hv
            · exact .inr hv),
          bel := h.bel.grown hg hn h0 }
/-- Where nothing that lay has turned. -/
theorem RdI.grows (h : RdI f n0 b2 b4 b5 b6 b7 b8 b9 gb M w k bs cut v W) (hg : W.grownBy W' none) (hn : n0 ≤ W.heap.size) : RdI f n0 b2 b4 b5 b6 b7 b8 b9 gb M w k bs cut v W' :=
  h.kept hg (fun r e => by cases e) hn (fun r e => by cases e) (by
    cases hv : v.ownBlock with
    | none => exact .inl rfl
    | some g => exact .inr (by simp))
theorem below_grown (h : Below W.heap.size W W') : W.grownBy W' none := ⟨h.os, h.tape, h.output, h.size, fun k hk _ => h.block k hk⟩
/-- The text's own variable turned. -/
theorem RdI.text (hB : RdB n0 b2 b4 b5 b6 b7 b8 b9 gb) (h : RdI f n0 b2 b4 b5 b6 b7 b8 b9 gb M w k bs cut v W) (u : Value) : RdI f n0 b2 b4 b5 b6 b7 b8 b9 gb M w k bs cut v (W.setCell ⟨gb, 0, none⟩ u) := by
  obtain ⟨u0, hu⟩ := h.cs
  have := hB.o1; have := hB.o2; have := hB.o3; have := hB.o4; have := hB.o5; have := hB.o6; have := hB.o7; have := hB.o8
  have hg := grownBy_setCell' W gb u
  exact { c2 := h.c2.other (by omega) u, c4 := h.c4.other (by omega) u, c5 := by rw [Below.heap_setCell _ ⟨gb, 0, none⟩ u b5 (by show b5 ≠ gb; omega)]; exact h.c5,
          c6 := h.c6.other (by omega) u, c7 := h.c7.other (by omega) u, c8 := h.c8.other (by omega) u, c9 := h.c9.other (by omega) u,
          cs := ⟨u, hu.set u⟩, cp := h.cp.other (by omega) u, cv := h.cv.other (by omega) u,
          known := h.known.kept hg (fun e => by injection e with e; exact known_not h.known hu e),
          acc := World.ownsRow.kept h.acc hg (.inr (own_not h.acc hu (by decide))),
          bel := h.bel.setCell (p := ⟨gb, 0, none⟩) (by show n0 ≤ gb; omega) u }
/-- It speaks of cells, and of one map that lay ahead. -/
theorem RdI.own {D : Nat} (hB : RdB n0 b2 b4 b5 b6 b7 b8 b9 gb) (hM : M < D) (hn : n0 ≤ D) (h : RdI f n0 b2 b4 b5 b6 b7 b8 b9 gb M w k bs cut v W) {row : Option Nat} (hg : W.grownBy W' row)
    (hr : ∀ r, row = some r → D ≤ r ∧ ∃ o : Obj, W.heap[r]? = some o ∧ o.isCells = false) : RdI f n0 b2 b4 b5 b6 b7 b8 b9 gb M w k bs cut v W' := by
  have hcell : ∀ {b : Nat} {cs : Array Value} {t : TypeId} {z : Nat × Nat}, W.heap[b]? = some (.cells cs t z) → ∀ r, row = some r → r ≠ b := fun hb r e he => by
    obtain ⟨_, o, ho, hc⟩ := hr r e
    rw [he, hb] at ho
    injection ho with ho
    subst ho
    cases hc
  obtain ⟨u0, hu⟩ := h.cs
  have hbn : b2 < W.heap.size := h.c2.lt
  have := hB.o1
  refine h.kept hg (fun r e => by have := (hr r e).1; omega) (by omega) (fun r e => ⟨hcell h.c2 r e, hcell h.c4 r e, hcell h.c5 r e, hcell h.c6 r e, hcell h.c7 r e, hcell h.c8 r e, hcell h.c9 r e, hcell hu r e, hcell h.cp r e, hcell h.cv r e, by have := (hr r e).1; omega⟩) ?_
  rcases h.acc.2 with ⟨rfl, _⟩ | ⟨g, cap, cur, rfl, _, hgb, _⟩
  · exact .inl rfl
  · refine .inr fun e => ?_
    exact hcell hgb g (by simpa [Value.ownBlock] using e.symm) rfl
/-- What a round may turn: the bytes so far, their variable, the line's number, the line that was cut. -/
def Chg (b6 b8 b9 : Nat) (v : Value) (W W' : World) : Prop := W.heap.size ≤ W'.heap.size ∧ ∀ j, j < W.heap.size → j ≠ b6 → j ≠ b8 → j ≠ b9 → some j ≠ v.ownBlock → W'.heap[j]? = W.heap[j]?
theorem Chg.trans {b6 b8 b9 : Nat} {v : Value} {A B C : World} (h : Chg b6 b8 b9 v A B) (k : Chg b6 b8 b9 v B C) : Chg b6 b8 b9 v A C :=
  ⟨Nat.le_trans h.1 k.1, fun j h1 h2 h3 h4 h5 => (k.2 j (Nat.lt_of_lt_of_le h1 h.1) h2 h3 h4 h5).trans (h.2 j h1 h2 h3 h4 h5)⟩
theorem Chg.of {b6 b8 b9 : Nat} {v : Value} {A B : World} {row : Option Nat} (h : A.grownBy B row) (hr : row = none ∨ row = some b6 ∨ row = some b8 ∨ row = some b9 ∨ row = v.ownBlock) : Chg b6 b8 b9 v A B :=
  ⟨h.size, fun j h1 h2 h3 h4 h5 => h.block j h1 (fun e => by
    rcases hr with h | h | h | h | h
    · rw [h] at e; cases e
    · rw [h] at e; injection e with e; exact h2 e
    · rw [h] at e; injection e with e; exact h3 e
    · rw [h] at e; injection e with e; exact h4 e
    · rw [h] at e; exact h5 e)⟩
theorem Chg.fin {D : Nat} (hB : RdB n0 b2 b4 b5 b6 b7 b8 b9 gb) (h : RdI f n0 b2 b4 b5 b6 b7 b8 b9 gb M w k bs cut v W) (hc : Chg b6 b8 b9 v W W') : KeepsFrom D W W' ∧ ∀ u, Boxed W gb 9 u → Boxed W' gb 9 u := by
  have := hB.o5; have := hB.o6; have := hB.o7; have := hB.o8
  have hcell : ∀ {b : Nat} {cs : Array Value} {t : TypeId} {z : Nat × Nat} {j : Nat} {o : Obj}, W.heap[b]? = some (.cells cs t z) → W.heap[j]? = some o → o.isCells = false → j ≠ b := fun hb ho hc he => by
    rw [he, hb] at ho
    injection ho with ho
    subst ho
    cases hc
  refine ⟨⟨hc.1, fun j o _ ho hcl => ?_⟩, fun u hu => ?_⟩
  · refine (hc.2 j (Array.getElem?_eq_some_iff.1 ho).1 (hcell h.c6 ho hcl) (hcell h.c8 ho hcl) (hcell h.c9 ho hcl) fun e => ?_).trans ho
    rcases h.acc.2 with ⟨rfl, _⟩ | ⟨g, cap, cur, rfl, _, hgb, _⟩
    · simp [Value.ownBlock] at e
    · exact hcell hgb ho hcl (by simpa [Value.ownBlock] using e)
  · exact (hc.2 gb hu.lt (by omega) (by omega) (by omega) fun e => own_not h.acc hu (by decide) e.symm).trans hu
/-- The line that was cut, told. -/
theorem RdI.cutAt (hB : RdB n0 b2 b4 b5 b6 b7 b8 b9 gb) (h : RdI f n0 b2 b4 b5 b6 b7 b8 b9 gb M w k bs cut v W) (z : Int) : RdI f n0 b2 b4 b5 b6 b7 b8 b9 gb M w k bs z v (W.setCell ⟨b9, 0, none⟩ (.int .i64 z)) := by
  obtain ⟨u0, hu⟩ := h.cs
  have := hB.o1; have := hB.o2; have := hB.o3; have := hB.o4; have := hB.o5; have := hB.o6; have := hB.o7; have := hB.o8
  have hg := grownBy_setCell' W b9 (.int .i64 z)
  exact { c2 := h.c2.other (by omega) _, c4 := h.c4.other (by omega) _, c5 := by rw [Below.heap_setCell _ ⟨b9, 0, none⟩ _ b5 (by show b5 ≠ b9; omega)]; exact h.c5,
          c6 := h.c6.other (by omega) _, c7 := h.c7.other (by omega) _, c8 := h.c8.other (by omega) _, c9 := h.c9.set _,
          cs := ⟨u0, hu.other (by omega) _⟩, cp := h.cp.other (by omega) _, cv := h.cv.other (by omega) _,
          known := h.known.kept hg (fun e => by injection e with e; exact known_not h.known h.c9 e),
          acc := World.ownsRow.kept h.acc hg (.inr (own_not h.acc h.c9 (by decide))),
          bel := h.bel.setCell (p := ⟨b9, 0, none⟩) (by show n0 ≤ b9; omega) _ }
/-- The next line's number. -/
theorem RdI.skip (hB : RdB n0 b2 b4 b5 b6 b7 b8 b9 gb) (h : RdI f n0 b2 b4 b5 b6 b7 b8 b9 gb M w k bs cut v W) : RdI f n0 b2 b4 b5 b6 b7 b8 b9 gb M w (k + 1) bs cut v (W.setCell ⟨b8, 0, none⟩ (.int .i64 (k + 1 : Nat))) := by
  obtain ⟨u0, hu⟩ := h.cs
  have := hB.o1; have := hB.o2; have := hB.o3; have := hB.o4; have := hB.o5; have := hB.o6; have := hB.o7; have := hB.o8
  have hg := grownBy_setCell' W b8 (.int .i64 (k + 1 : Nat))
  exact { c2 := h.c2.other (by omega) _, c4 := h.c4.other (by omega) _, c5 := by rw [Below.heap_setCell _ ⟨b8, 0, none⟩ _ b5 (by show b5 ≠ b8; omega)]; exact h.c5,
          c6 := h.c6.other (by omega) _, c7 := h.c7.other (by omega) _, c8 := h.c8.set _, c9 := h.c9.other (by omega) _,
          cs := ⟨u0, hu.other (by omega) _⟩, cp := h.cp.other (by omega) _, cv := h.cv.other (by omega) _,
          known := h.known.kept hg (fun e => by injection e with e; exact known_not h.known h.c8 e),
          acc := World.ownsRow.kept h.acc hg (.inr (own_not h.acc h.c8 (by decide))),
          bel := h.bel.setCell (p := ⟨b8, 0, none⟩) (by show n0 ≤ b8; omega) _ }
/-- A line's bytes behind those so far, and the next line's number. -/
theorem RdI.next (hB : RdB n0 b2 b4 b5 b6 b7 b8 b9 gb) (h : RdI f n0 b2 b4 b5 b6 b7 b8 b9 gb M w k bs cut v W) {A2 : Option Addr} {n2 base2 : Nat} {bs1 : List Nat} (h2 : Acc W base2 (.slice A2 bs1.length n2) bs1) (hn : bs.length + bs1.length ≤ 2000000) (t' : TypeId) :
    ∃ (A' : Option Addr) (L' c' : Nat) (W3 : World), (Builtin.append_ #[31, 31] t' #[v, .slice A2 bs1.length n2]).run Tryd.prog W = .ok (.slice A' L' c') W3 ∧ Boxed W3 b6 31 v ∧ Boxed (W3.setCell ⟨b6, 0, none⟩ (.slice A' L' c')) b8 3 (.int .i64 (k : Nat)) ∧
      RdI f n0 b2 b4 b5 b6 b7 b8 b9 gb M w (k + 1) (bs ++ bs1) cut (.slice A' L' c') ((W3.setCell ⟨b6, 0, none⟩ (.slice A' L' c')).setCell ⟨b8, 0, none⟩ (.int .i64 (k + 1 : Nat))) ∧
      Chg b6 b8 b9 v W ((W3.setCell ⟨b6, 0, none⟩ (.slice A' L' c')).setCell ⟨b8, 0, none⟩ (.int .i64 (k + 1 : Nat))) := by
  obtain ⟨u0, hu⟩ := h.cs
  have := hB.o1; have := hB.o2; have := hB.o3; have := hB.o4; have := hB.o5; have := hB.o6; have := hB.o7; have := hB.o8
  have hn0 : n0 ≤ W.heap.size := by have := h.c2.lt; omega
  obtain ⟨v', W3, hrun, hacc, hg, hv⟩ := cc_append_rd t' h.acc h2.rd (by omega) hn0
  obtain ⟨A', c', rfl⟩ := hacc.form
  have no : ∀ {b : Nat} {cs : Array Value} {t : TypeId}, W.heap[b]? = some (.cells cs t (0, 0)) → t ≠ 5 → some b ≠ v.ownBlock := fun hb ht e => own_not h.acc hb ht e.symm
  have k2 := h.c2.kept hg (no h.c2 (by decide))
  have k4 := h.c4.kept hg (no h.c4 (by decide))
  have k5 : W3.heap[b5]? = _ := (hg.block b5 (Array.getElem?_eq_some_iff.1 h.c5).1 (no h.c5 (by decide))).trans h.c5
  have k6 := h.c6.kept hg (no h.c6 (by decide))
  have k7 := h.c7.kept hg (no h.c7 (by decide))
  have k8 := h.c8.kept hg (no h.c8 (by decide))
  have k9 := h.c9.kept hg (no h.c9 (by decide))
  have ks := hu.kept hg (no hu (by decide))
  have kp := h.cp.kept hg (no h.cp (by decide))
  have kv := h.cv.kept hg (no h.cv (by decide))
  have kM : some M ≠ v.ownBlock := fun e => by
    rcases h.acc.2 with ⟨rfl, _⟩ | ⟨g, cap, cur, rfl, _, hgb, _⟩
    · simp [Value.ownBlock] at e
    · exact known_not h.known hgb (by simpa [Value.ownBlock] using e)
  have kK := h.known.kept hg kM
  have kB : Below n0 w W3 := h.bel.grown hg hn0 (fun j e => h.acc.own j e)
  have g6 := grownBy_setCell' W3 b6 (.slice A' (bs ++ bs1).length c')
  have a6 : Acc (W3.setCell ⟨b6, 0, none⟩ (.slice A' (bs ++ bs1).length c')) n0 (.slice A' (bs ++ bs1).length c') (bs ++ bs1) := World.ownsRow.kept hacc g6 (.inr (own_not hacc k6 (by decide)))
  have j8 := k8.other (by omega : b8 ≠ b6) (.slice A' (bs ++ bs1).length c')
  have g8 := grownBy_setCell' (W3.setCell ⟨b6, 0, none⟩ (.slice A' (bs ++ bs1).length c')) b8 (.int .i64 (k + 1 : Nat))
  refine ⟨A', (bs ++ bs1).length, c', W3, hrun, k6, j8, ?_, ((Chg.of hg (.inr (.inr (.inr (.inr rfl))))).trans (Chg.of g6 (.inr (.inl rfl)))).trans (Chg.of g8 (.inr (.inr (.inl rfl))))⟩
  exact { c2 := (k2.other (by omega) _).other (by omega) _, c4 := (k4.other (by omega) _).other (by omega) _,
          c5 := by rw [Below.heap_setCell _ ⟨b8, 0, none⟩ _ b5 (by show b5 ≠ b8; omega), Below.heap_setCell _ ⟨b6, 0, none⟩ _ b5 (by show b5 ≠ b6; omega)]; exact k5,
          c6 := (k6.set _).other (by omega) _, c7 := (k7.other (by omega) _).other (by omega) _, c8 := j8.set _, c9 := (k9.other (by omega) _).other (by omega) _,
          cs := ⟨u0, (ks.other (by omega) _).other (by omega) _⟩, cp := (kp.other (by omega) _).other (by omega) _, cv := (kv.other (by omega) _).other (by omega) _,
          known := (kK.kept g6 (fun e => by injection e with e; exact known_not kK k6 e)).kept g8 (fun e => by injection e with e; exact known_not (kK.kept g6 (fun e => by injection e with e; exact known_not kK k6 e)) j8 e),
          acc := World.ownsRow.kept a6 g8 (.inr (own_not a6 j8 (by decide))),
          bel := (kB.setCell (p := ⟨b6, 0, none⟩) (by show n0 ≤ b6; omega) _).setCell (p := ⟨b8, 0, none⟩) (by show n0 ≤ b8; omega) _ }
end
theorem cdi_append_run {F : Fence} {n : Nat} {ops : Array Oper} {rest : List Oper} {o : Oper} {a : Act} {w : World} {Q : Exit → Act → World → Prop} (hgd : o.guard = none) (s x : Operand) (t : TypeId) (ho : o.op = .call { callee := .builtin .append, args := #[s, x], argTypes := #[t, t] }) {v' : Value} {w' : World}
    (hr : (Builtin.append_ #[t, t] o.type #[a.eval s, a.eval x]).run Tryd.prog w = .ok v' w') (h : wpListIn F n Tryd.prog ops Q rest (a.put o.dst v') w') : wpListIn F n Tryd.prog ops Q (o :: rest) a w := by
  refine wpListIn_plain hgd fun K hK => ?_
  unfold Oper.wpIn
  refine ⟨?_, ?_⟩
  · simp [Oper.about, ho, resolve, Target.leads, Sem.run_pure]
  · rw [Oper.semAt_plain F _ _ (by rw [ho]; intro c hc'; cases hc')]
    simp [execOp, ho, resolve, invoke, builtin, hr, Result.andThen]
    exact hK _ _ h
end Go.Proofs.YtopeahjdglkheaaDoor
namespace Go.Proofs.YtopeahjdglkheaaDoor
open Go.RowKit Go.Shelf

attribute [local go_sem] Oper.semAt_some

/-- The bytes of the first k lines. -/
def byt (ld : List (ByteArray × List Nat × Nat)) (k : Nat) : List Nat := ((ld.take k).map fun y => y.2.1).flatten
theorem byt_succ {ld : List (ByteArray × List Nat × Nat)} {k : Nat} {y : ByteArray × List Nat × Nat} (h : ld[k]? = some y) : byt ld (k + 1) = byt ld k ++ y.2.1 := by
  unfold byt
  rw [List.take_add_one, h, List.map_append, List.flatten_append]
  simp
theorem byt_all (ld : List (ByteArray × List Nat × Nat)) : byt ld ld.length = (ld.map fun y => y.2.1).flatten := by unfold byt; rw [List.take_length]

set_option maxRecDepth 100000 in
set_option maxHeartbeats 12800000 in
theorem read_c (f : Int) (s0 : ByteArray) (ld : List (ByteArray × List Nat × Nat)) (hne : ld ≠ []) (hs0 : s0.data.toList = joinN (ld.map (·.1))) (hsz : (joinN (ld.map (·.1))).length ≤ 1073741824) (hlen : ld.length ≤ 1000000)
    (hok : ∀ y ∈ ld, RowOk f y.1 y.2.1 y.2.2) (hms : ∀ i y, ld[i]? = some y → i + 1 < ld.length → y.2.2 = 0) (hby : ∀ k, (byt ld k).length ≤ 1000000) (w : World) :
    Calls Tryd.prog 22 #[.int .i64 f, .string s0] w fun e w' => ∃ v, e = .returned (.tuple #[v, .agg #[.int .i64 0, .int .i64 0]]) ∧ Acc w' w.heap.size v (byt ld ld.length) ∧ Below w.heap.size w w' := by
  have HOK := Lib.hid hok
  have HMS := Lib.hid hms
  have HBY := Lib.hid hby
  have HLN := Lib.hid hlen
  clear hok hms hby hlen
  refine (callsIn_wide (n := 5)).1 ?_
  refine callsIn_of_wp_marks Tryd.func22 rfl trivial ?_ rfl
  simp only [Tryd.ntmps22, List.size_toArray, List.length_cons, List.length_nil, Nat.reduceAdd, Nat.reduceSub, Array.replicate_succ, Array.replicate_zero, List.push_toArray, List.append_toArray, List.nil_append, List.cons_append]
  gi_wp2
  have b2 := Boxed.new w 3 (.int .i64 f)
  have b4 := Boxed.new (w.alloc (.cells #[.int .i64 f] 3)) 31 (.slice none 0 0)
  have b5 := heap_alloc_new ((w.alloc (.cells #[.int .i64 f] 3)).alloc (.cells #[.slice none 0 0] 31)) (.cells #[.int .i64 0, .int .i64 0] 44)
  have b6 := Boxed.new (((w.alloc (.cells #[.int .i64 f] 3)).alloc (.cells #[.slice none 0 0] 31)).alloc (.cells #[.int .i64 0, .int .i64 0] 44)) 31 (.slice none 0 0)
  rw [World.size_alloc] at b4
  rw [World.size_alloc, World.size_alloc] at b5
  rw [World.size_alloc, World.size_alloc, World.size_alloc] at b6
  replace b2 := ((b2.alloc (.cells #[.slice none 0 0] 31)).alloc (.cells #[.int .i64 0, .int .i64 0] 44)).alloc (.cells #[.slice none 0 0] 31)
  replace b4 := (b4.alloc (.cells #[.int .i64 0, .int .i64 0] 44)).alloc (.cells #[.slice none 0 0] 31)
  replace b5 := (Below.heap_alloc _ (.cells #[.slice none 0 0] 31) _ (by simp)).trans b5
  have hB4 : Below w.heap.size w ((((w.alloc (.cells #[.int .i64 f] 3)).alloc (.cells #[.slice none 0 0] 31)).alloc (.cells #[.int .i64 0, .int .i64 0] 44)).alloc (.cells #[.slice none 0 0] 31)) :=
    ((((Below.refl w.heap.size w).alloc (Nat.le_refl _) _).alloc (by simp) _).alloc (by simp; omega) _).alloc (by simp; omega) _
  have hS4 : ((((w.alloc (.cells #[.int .i64 f] 3)).alloc (.cells #[.slice none 0 0] 31)).alloc (.cells #[.int .i64 0, .int .i64 0] 44)).alloc (.cells #[.slice none 0 0] 31)).heap.size = w.heap.size + 4 := by simp
  generalize ((((w.alloc (.cells #[.int .i64 f] 3)).alloc (.cells #[.slice none 0 0] 31)).alloc (.cells #[.int .i64 0, .int .i64 0] 44)).alloc (.cells #[.slice none 0 0] 31)) = W4 at *
  refine ⟨trivial, (callsIn_wide.2 (names_c f _)).mono ?_⟩
  rintro e w5 ⟨M, rfl, hK, hb5⟩
  have g5 := below_grown hb5
  replace b2 := b2.kept g5 (by simp)
  replace b4 := b4.kept g5 (by simp)
  replace b5 := (hb5.block _ (by rw [hS4]; omega)).trans b5
  replace b6 := b6.kept g5 (by simp)
  have hB5 := hB4.trans (hb5.mono hB4.size)
  have hS5 : w.heap.size + 4 ≤ w5.heap.size := by have := hb5.size; omega
  have hMlt : M < w5.heap.size := by
    obtain ⟨es, clock, h1, _⟩ := hK
    exact (Array.getElem?_eq_some_iff.1 h1).1
  clear hb5 g5 hB4 hS4
  gi_wp2
  refine ⟨trivial, (callsIn_wide.2 (splitseq_c s0 _)).mono ?_⟩
  rintro e w9 ⟨rfl, rfl⟩
  gi_wp2
  have d7 := (((((Boxed.new w5 69 (.map (some M))).alloc (.cells #[.int .i64 0] 3)).alloc (.cells #[.int .i64 (-1)] 3)).alloc (.cells #[.string s0] 9)).alloc (.cells #[.string ⟨#[10]⟩] 9)).alloc (.cells #[.int .i64 0] 3)
  have d8 := ((((Boxed.new (w5.alloc (.cells #[.map (some M)] 69)) 3 (.int .i64 0)).alloc (.cells #[.int .i64 (-1)] 3)).alloc (.cells #[.string s0] 9)).alloc (.cells #[.string ⟨#[10]⟩] 9)).alloc (.cells #[.int .i64 0] 3)
  have d9 := (((Boxed.new ((w5.alloc (.cells #[.map (some M)] 69)).alloc (.cells #[.int .i64 0] 3)) 3 (.int .i64 (-1))).alloc (.cells #[.string s0] 9)).alloc (.cells #[.string ⟨#[10]⟩] 9)).alloc (.cells #[.int .i64 0] 3)
  have ds := ((Boxed.new (((w5.alloc (.cells #[.map (some M)] 69)).alloc (.cells #[.int .i64 0] 3)).alloc (.cells #[.int .i64 (-1)] 3)) 9 (.string s0)).alloc (.cells #[.string ⟨#[10]⟩] 9)).alloc (.cells #[.int .i64 0] 3)
  have dp := (Boxed.new ((((w5.alloc (.cells #[.map (some M)] 69)).alloc (.cells #[.int .i64 0] 3)).alloc (.cells #[.int .i64 (-1)] 3)).alloc (.cells #[.string s0] 9)) 9 (.string ⟨#[10]⟩)).alloc (.cells #[.int .i64 0] 3)
  have dv := Boxed.new (((((w5.alloc (.cells #[.map (some M)] 69)).alloc (.cells #[.int .i64 0] 3)).alloc (.cells #[.int .i64 (-1)] 3)).alloc (.cells #[.string s0] 9)).alloc (.cells #[.string ⟨#[10]⟩] 9)) 3 (.int .i64 0)
  rw [World.size_alloc] at d8
  rw [World.size_alloc, World.size_alloc] at d9
  rw [World.size_alloc, World.size_alloc, World.size_alloc] at ds
  rw [World.size_alloc, World.size_alloc, World.size_alloc, World.size_alloc] at dp
  rw [World.size_alloc, World.size_alloc, World.size_alloc, World.size_alloc, World.size_alloc] at dv
  have hS0 : ((((((w5.alloc (.cells #[.map (some M)] 69)).alloc (.cells #[.int .i64 0] 3)).alloc (.cells #[.int .i64 (-1)] 3)).alloc (.cells #[.string s0] 9)).alloc (.cells #[.string ⟨#[10]⟩] 9)).alloc (.cells #[.int .i64 0] 3)).heap.size = w5.heap.size + 6 := by simp
  have g0 : w5.grownBy ((((((w5.alloc (.cells #[.map (some M)] 69)).alloc (.cells #[.int .i64 0] 3)).alloc (.cells #[.int .i64 (-1)] 3)).alloc (.cells #[.string s0] 9)).alloc (.cells #[.string ⟨#[10]⟩] 9)).alloc (.cells #[.int .i64 0] 3)) none :=
    below_grown ((((((((Below.refl w5.heap.size w5).alloc (Nat.le_refl _) _).alloc (by simp) _).alloc (by simp; omega) _).alloc (by simp; omega) _).alloc (by simp; omega) _).alloc (by simp; omega) _))
  obtain ⟨W0, hW0⟩ : ∃ W0, W0 = ((((((w5.alloc (.cells #[.map (some M)] 69)).alloc (.cells #[.int .i64 0] 3)).alloc (.cells #[.int .i64 (-1)] 3)).alloc (.cells #[.string s0] 9)).alloc (.cells #[.string ⟨#[10]⟩] 9)).alloc (.cells #[.int .i64 0] 3)) := ⟨_, rfl⟩
  rw [← hW0] at d7 d8 d9 ds dp dv hS0 g0 ⊢
  have hO : RdB w.heap.size w.heap.size (w.heap.size + 1) (w.heap.size + 1 + 1) (w.heap.size + 1 + 1 + 1) w5.heap.size (w5.heap.size + 1) (w5.heap.size + 1 + 1) (w5.heap.size + 1 + 1 + 1) := by constructor <;> omega
  have hI0 : RdI f w.heap.size w.heap.size (w.heap.size + 1) (w.heap.size + 1 + 1) (w.heap.size + 1 + 1 + 1) w5.heap.size (w5.heap.size + 1) (w5.heap.size + 1 + 1) (w5.heap.size + 1 + 1 + 1) M w 0 (byt ld 0) (-1) (.slice none 0 0) W0 :=
    { c2 := b2.kept g0 (by simp), c4 := b4.kept g0 (by simp), c5 := (g0.block _ (by omega) (by simp)).trans b5, c6 := b6.kept g0 (by simp), c7 := d7, c8 := d8, c9 := d9, cs := ⟨_, ds⟩, cp := dp, cv := dv,
      known := hK.kept g0 (by simp), acc := Acc.nil _ _, bel := hB5.grown g0 (by omega) (fun k e => by cases e) }
  clear d7 d8 d9 dp dv b2 b4 b5 b6 hK hB5 g0 hW0
  refine range_lines 5 (by omega) (gb := w5.heap.size + 1 + 1 + 1) (ls := ld.map (·.1)) rfl (by simpa using hne) (fun x hx => ?low) hsz
    (fun k W => ∃ v c, RdI f w.heap.size w.heap.size (w.heap.size + 1) (w.heap.size + 1 + 1) (w.heap.size + 1 + 1 + 1) w5.heap.size (w5.heap.size + 1) (w5.heap.size + 1 + 1) (w5.heap.size + 1 + 1 + 1) M w k (byt ld k) c v W ∧ (k < ld.length → c = -1))
    ?own ?txt ?sep hs0 ds ⟨_, _, hI0, fun _ => rfl⟩
    (fun x => { tmps := #[.int .i64 f, .string s0, .pointer (some ⟨w.heap.size, 0, none⟩), undef, .pointer (some ⟨w.heap.size + 1, 0, none⟩), .pointer (some ⟨w.heap.size + 1 + 1, 0, none⟩), .pointer (some ⟨w.heap.size + 1 + 1 + 1, 0, none⟩), .pointer (some ⟨w5.heap.size, 0, none⟩), .pointer (some ⟨w5.heap.size + 1, 0, none⟩), .pointer (some ⟨w5.heap.size + 1 + 1, 0, none⟩), .string x, undef, undef, undef, undef, .int .i64 f, .map (some M), .string s0, .func (.func 63) #[] #[.pointer (some ⟨w5.heap.size + 1 + 1 + 1 + 1, 0, none⟩), .pointer (some ⟨w5.heap.size + 1 + 1 + 1, 0, none⟩), .pointer (some ⟨w5.heap.size + 1 + 1 + 1 + 2, 0, none⟩)], .string x, undef, undef, undef, undef, undef, undef, undef, undef, undef, undef, undef, undef, undef, undef, undef, undef, undef, undef, undef, undef, undef, undef, undef, undef, undef, undef, undef, undef, undef, undef, undef], defers := [] }) ?assign ?body ?done
  case low =>
    obtain ⟨y, hy, rfl⟩ := List.mem_map.1 hx
    exact (HOK.out y hy).low
  case own =>
    rintro k A B row ⟨v, c, h1, h2⟩ hg hr
    exact ⟨v, c, h1.own hO (D := W0.heap.size) (by omega) (by omega) hg hr, h2⟩
  case txt =>
    rintro k A u ⟨v, c, h1, h2⟩
    exact ⟨v, c, h1.text hO u, h2⟩
  case sep =>
    rintro k A ⟨v, c, h1, h2⟩
    exact ⟨h1.cp.cell, h1.cv.cell⟩
  case assign =>
    intro l x W K hK
    gi_wp2
    exact hK
  case body =>
    rintro l k x W hx ⟨v, c, hI, hc⟩
    obtain ⟨y, hy, rfl⟩ : ∃ y, ld[k]? = some y ∧ y.1 = x := by
      rw [List.getElem?_map] at hx
      obtain ⟨y, h1, h2⟩ := Option.map_eq_some_iff.1 hx
      exact ⟨y, h1, h2⟩
    have hk : k < ld.length := (List.getElem?_eq_some_iff.1 hy).1
    obtain rfl : c = -1 := hc hk
    have hL := HOK.out y (List.mem_of_getElem? hy)
    have hm0 := HMS.out k y hy
    have hbs := byt_succ hy
    have hbb := HBY.out (k + 1)
    obtain ⟨x, bs1, ms⟩ := y
    dsimp only at hL hm0 hbs hx ⊢
    have HSX := Lib.hid hL.size
    have hrow := hL.row
    have HM0 := Lib.hid hm0
    have HBS := Lib.hid hbs
    have HBB := Lib.hid hbb
    have HI := Lib.hid hI
    have HC := Lib.hid hc
    have HHK := Lib.hid hk
    have kL := HLN.out
    clear hx hy hL hm0 hbs hbb hI hc
    have HROW := Lib.hid hrow
    clear hrow
    gi_wp2
    refine ⟨trivial, (CallsIn.inRound l (callsIn_wide.2 (fields_c x W HSX.out))).mono ?_⟩
    rintro e w1 ⟨pv, rfl, hps, hb1⟩
    obtain ⟨A, pc, rfl, hss⟩ := ownS_at (show w1.ownsRow W.heap.size 9 1 pv (flds x 0 none).length (strC (flds x 0 none)) from hps)
    have hlw : w.heap.size ≤ W.heap.size := HI.out.bel.size
    have hI1 := HI.out.grows (below_grown hb1) hlw
    rcases HROW.out with ⟨hf0, rfl, rfl⟩ | hL
    · rw [hf0]
      have hCh1 : Chg (w.heap.size + 1 + 1 + 1) (w5.heap.size + 1) (w5.heap.size + 1 + 1) v W w1 := Chg.of (below_grown hb1) (.inl rfl)
      have HF := Lib.hid (And.intro (hI1.skip hO) (hCh1.trans (Chg.of (grownBy_setCell' w1 (w5.heap.size + 1) (.int .i64 (k + 1 : Nat))) (.inr (.inr (.inl rfl))))))
      have d8 := hI1.c8.cell
      have e8 := hI1.c8.frozen
      have wk : IntKind.i64.wrap ((k : Int) + 1) = ((k + 1 : Nat) : Int) := by rw [IntWalk.i64_in _ (by have := HHK.out; omega)]; omega
      clear hps hss hb1 hI1 hCh1 hf0
      gi_wp2
      obtain ⟨hf1, hf2⟩ := Chg.fin (D := w5.heap.size + 6) hO HI.out HF.out.2
      exact ⟨hf1, ⟨_, _, by rw [HBS.out, List.append_nil]; exact HF.out.1, fun _ => rfl⟩, hf2⟩
    have HL := Lib.hid hL
    have kw := HL.out.wr w1 M pc A (by have := HI.out.bel; have h1 := hI1.known; obtain ⟨es, clock, h1, _⟩ := h1; exact (Array.getElem?_eq_some_iff.1 h1).1) hI1.known hss
    have hpn := HL.out.len
    obtain ⟨pn, hpe⟩ : ∃ pn, pn = (flds x 0 none).length := ⟨_, rfl⟩
    rw [← hpe] at kw hpn ⊢
    have hCh1 : Chg (w.heap.size + 1 + 1 + 1) (w5.heap.size + 1) (w5.heap.size + 1 + 1) v W w1 := Chg.of (below_grown hb1) (.inl rfl)
    have KW := Lib.hid kw
    have HI1 := Lib.hid hI1
    have HCH1 := Lib.hid hCh1
    have c2 := hI1.c2.cell
    have c7 := hI1.c7.cell
    have c9 := hI1.c9.cell
    have p1 : 0 < pn := hpn.1
    have p2 : (0 : Int) < (pn : Int) := by omega
    clear hps hss hb1 hI1 kw hpn hpe hCh1
    gi_wp2
    refine ⟨trivial, (CallsIn.inRound l (callsIn_wide.2 KW.out)).mono ?_⟩
    rintro e w2 ⟨v2, rfl, hacc2, hb2⟩
    obtain ⟨A2, n2, rfl⟩ := hacc2.form
    have hI2 := HI1.out.grows (below_grown hb2) HI1.out.bel.size
    have hCh2 := HCH1.out.trans (Chg.of (below_grown hb2) (.inl rfl))
    have HI2 := Lib.hid hI2
    have HCH2 := Lib.hid hCh2
    have HA2 := Lib.hid hacc2
    clear hacc2 hb2 hI2 hCh2 HI1 HCH1 KW c2 c7 c9 p1 p2
    obtain ⟨bl, hbl⟩ : ∃ bl, bl = bs1.length := ⟨_, rfl⟩
    rw [← hbl]
    have HBL := Lib.hid hbl
    clear hbl
    by_cases hm : 0 < ms
    · have m1 : (0 : Int) < (ms : Int) := by omega
      have c8 := HI2.out.c8.cell
      have c9 := HI2.out.c9.cell
      have f9 := HI2.out.c9.frozen
      have hI3 := HI2.out.cutAt hO (k : Nat)
      have hA3 : Acc (w2.setCell ⟨w5.heap.size + 1 + 1, 0, none⟩ (.int .i64 (k : Nat))) w1.heap.size (.slice A2 bs1.length n2) bs1 := World.ownsRow.kept HA2.out (grownBy_setCell' w2 _ _) (.inr (own_not HA2.out HI2.out.c9 (by decide)))
      have hCh3 := HCH2.out.trans (Chg.of (grownBy_setCell' w2 (w5.heap.size + 1 + 1) (.int .i64 (k : Nat))) (.inr (.inr (.inr (.inl rfl)))))
      obtain ⟨A', L', c', W3, hrun, k6, k8, hI5, hch⟩ := hI3.next hO hA3 (by have h1 := HBB.out; rw [HBS.out, List.length_append] at h1; omega) 31
      rw [← HBL.out] at hrun
      have c6 := hI3.c6.cell
      have d6 := k6.cell
      have e6 := k6.frozen
      have d8 := k8.cell
      have e8 := k8.frozen
      have HF := Lib.hid (And.intro hI5 (hCh3.trans hch))
      have HRUN := Lib.hid hrun
      have wk : IntKind.i64.wrap ((k : Int) + 1) = ((k + 1 : Nat) : Int) := by rw [IntWalk.i64_in _ (by have := HHK.out; omega)]; omega
      clear hI3 hA3 hCh3 hrun k6 k8 hI5 hch
      gi_wp2_with (gi_at_builtin; refine cdi_append_run rfl (.tmp 44) (.tmp 45) 31 rfl HRUN.out ?_)
      obtain ⟨hf1, hf2⟩ := Chg.fin (D := w5.heap.size + 6) hO HI.out HF.out.2
      exact ⟨hf1, ⟨_, _, by rw [HBS.out]; exact HF.out.1, fun h => absurd (HM0.out h) (by omega)⟩, hf2⟩
    · have m1 : ¬ (0 : Int) < (ms : Int) := by omega
      have c8 := HI2.out.c8.cell
      obtain ⟨A', L', c', W3, hrun, k6, k8, hI5, hch⟩ := HI2.out.next hO HA2.out (by have h1 := HBB.out; rw [HBS.out, List.length_append] at h1; omega) 31
      rw [← HBL.out] at hrun
      have c6 := HI2.out.c6.cell
      have d6 := k6.cell
      have e6 := k6.frozen
      have d8 := k8.cell
      have e8 := k8.frozen
      have HF := Lib.hid (And.intro hI5 (HCH2.out.trans hch))
      have HRUN := Lib.hid hrun
      have wk : IntKind.i64.wrap ((k : Int) + 1) = ((k + 1 : Nat) : Int) := by rw [IntWalk.i64_in _ (by have := HHK.out; omega)]; omega
      clear hrun k6 k8 hI5 hch
      gi_wp2_with (gi_at_builtin; refine cdi_append_run rfl (.tmp 44) (.tmp 45) 31 rfl HRUN.out ?_)
      obtain ⟨hf1, hf2⟩ := Chg.fin (D := w5.heap.size + 6) hO HI.out HF.out.2
      exact ⟨hf1, ⟨_, _, by rw [HBS.out]; exact HF.out.1, fun _ => rfl⟩, hf2⟩
  case done =>
    rintro D W hD ⟨v, c, hI, hc⟩ hK
    rw [List.length_map] at hI hc
    obtain ⟨A', c', rfl⟩ := hI.acc.form
    have c6 := hI.c6.cell
    have c4 := hI.c4.cell
    have f4 := hI.c4.frozen
    obtain ⟨e0, e1, g0, g1⟩ := two_cells hI.c5
    gi_wp2
    have z4 : (((W.setCell ⟨w.heap.size + 1, 0, none⟩ (.slice A' (byt ld ld.length).length c')).setCell ⟨w.heap.size + 1 + 1, 0, none⟩ (.int .i64 0)).setCell ⟨w.heap.size + 1 + 1, 1, none⟩ (.int .i64 0)).cell? ⟨w.heap.size + 1, 0, none⟩ = some (.slice A' (byt ld ld.length).length c') := by
      have h := (hI.c4.set (.slice A' (byt ld ld.length).length c')).cell
      rw [← h]
      unfold World.cell?
      dsimp only
      rw [Below.heap_setCell _ ⟨w.heap.size + 1 + 1, 1, none⟩ _ _ (by show w.heap.size + 1 ≠ w.heap.size + 1 + 1; omega), Below.heap_setCell _ ⟨w.heap.size + 1 + 1, 0, none⟩ _ _ (by show w.heap.size + 1 ≠ w.heap.size + 1 + 1; omega)]
    have z5 : (((W.setCell ⟨w.heap.size + 1, 0, none⟩ (.slice A' (byt ld ld.length).length c')).setCell ⟨w.heap.size + 1 + 1, 0, none⟩ (.int .i64 0)).setCell ⟨w.heap.size + 1 + 1, 1, none⟩ (.int .i64 0)).cell? ⟨w.heap.size + 1 + 1, 0, none⟩ = some (.int .i64 0) := by
      simp [go_sem, e0]
    have z6 : (((W.setCell ⟨w.heap.size + 1, 0, none⟩ (.slice A' (byt ld ld.length).length c')).setCell ⟨w.heap.size + 1 + 1, 0, none⟩ (.int .i64 0)).setCell ⟨w.heap.size + 1 + 1, 1, none⟩ (.int .i64 0)).cell? ⟨w.heap.size + 1 + 1, 1, none⟩ = some (.int .i64 0) := by
      simp [go_sem, e1]
    have hKX := (((KeepsOthers.setCell W ⟨w.heap.size + 1, 0, none⟩ (.slice A' (byt ld ld.length).length c')).trans (KeepsOthers.setCell _ ⟨w.heap.size + 1 + 1, 0, none⟩ (.int .i64 0))).trans (KeepsOthers.setCell _ ⟨w.heap.size + 1 + 1, 1, none⟩ (.int .i64 0))).same D _ hK rfl
    have hA : Acc (((W.setCell ⟨w.heap.size + 1, 0, none⟩ (.slice A' (byt ld ld.length).length c')).setCell ⟨w.heap.size + 1 + 1, 0, none⟩ (.int .i64 0)).setCell ⟨w.heap.size + 1 + 1, 1, none⟩ (.int .i64 0)) w.heap.size (.slice A' (byt ld ld.length).length c') (byt ld ld.length) := by
      have gs : ∀ (A : World) (j : Nat) (u : Value), A.grownBy (A.setCell ⟨w.heap.size + 1 + 1, j, none⟩ u) (some (w.heap.size + 1 + 1)) := fun A j u => ⟨rfl, rfl, rfl, (KeepsWalks.setCell A _ u).size, fun k _ hk => Below.heap_setCell _ _ _ k (fun e => hk (by rw [e]))⟩
      have n4 := own_not hI.acc hI.c4 (by decide)
      have n5 := own_not hI.acc hI.c5 (by decide)
      exact World.ownsRow.kept (World.ownsRow.kept (World.ownsRow.kept hI.acc (grownBy_setCell' W _ _) (.inr n4)) (gs _ _ _) (.inr n5)) (gs _ _ _) (.inr n5)
    have hB : Below w.heap.size w (((W.setCell ⟨w.heap.size + 1, 0, none⟩ (.slice A' (byt ld ld.length).length c')).setCell ⟨w.heap.size + 1 + 1, 0, none⟩ (.int .i64 0)).setCell ⟨w.heap.size + 1 + 1, 1, none⟩ (.int .i64 0)) :=
      ((hI.bel.setCell (p := ⟨w.heap.size + 1, 0, none⟩) (by show w.heap.size ≤ w.heap.size + 1; omega) _).setCell (p := ⟨w.heap.size + 1 + 1, 0, none⟩) (by show w.heap.size ≤ w.heap.size + 1 + 1; omega) _).setCell (p := ⟨w.heap.size + 1 + 1, 1, none⟩) (by show w.heap.size ≤ w.heap.size + 1 + 1; omega) _
    generalize (((W.setCell ⟨w.heap.size + 1, 0, none⟩ (.slice A' (byt ld ld.length).length c')).setCell ⟨w.heap.size + 1 + 1, 0, none⟩ (.int .i64 0)).setCell ⟨w.heap.size + 1 + 1, 1, none⟩ (.int .i64 0)) = X at *
    refine ⟨by simp, .inl ⟨_, _, rfl, run_takeDeferred hKX, ?_⟩⟩
    have y4 : (X.putObj D (.deferred none)).cell? ⟨w.heap.size + 1, 0, none⟩ = some (.slice A' (byt ld ld.length).length c') := by
      rw [← z4]; unfold World.cell?; dsimp only; rw [World.putObj_heap_other (by omega)]
    have y5 : (X.putObj D (.deferred none)).cell? ⟨w.heap.size + 1 + 1, 0, none⟩ = some (.int .i64 0) := by
      rw [← z5]; unfold World.cell?; dsimp only; rw [World.putObj_heap_other (by omega)]
    have y6 : (X.putObj D (.deferred none)).cell? ⟨w.heap.size + 1 + 1, 1, none⟩ = some (.int .i64 0) := by
      rw [← z6]; unfold World.cell?; dsimp only; rw [World.putObj_heap_other (by omega)]
    have hA2 : Acc (X.putObj D (.deferred none)) w.heap.size (.slice A' (byt ld ld.length).length c') (byt ld ld.length) := ownsRow_putObj hA _ hKX rfl
    have hB2 : Below w.heap.size w (X.putObj D (.deferred none)) := hB.trans (belowK_b (w := w) (Nat.le_refl _) X D _ _ (by omega) hKX rfl rfl)
    generalize X.putObj D (.deferred none) = Y at *
    exact ⟨.tuple #[.slice A' (byt ld ld.length).length c', .agg #[.int .i64 0, .int .i64 0]], by simp [results, Tryd.results22, go_sem, y4, y5, y6], _, rfl, hA2, hB2⟩
end Go.Proofs.YtopeahjdglkheaaDoor
namespace Go.Proofs.YtopeahjdglkheaaDoor
open Go.RowKit

/-- The lines of a code, with the bytes that each stands for, and how many of its own are missing. -/
def ldZ (f : Int) : Nat → Nat → List Nat → List (ByteArray × List Nat × Nat)
  | _, _, [] => []
  | s + 1, i, _ :: r => ldZ f s (i + 1) r
  | 0, i, b :: r => (lineZ f i b r, b :: r.take (skipZ f b), skipZ f b - (r.take (skipZ f b)).length) :: ldZ f (skipZ f b) (i + 1) r
theorem ldZ_lst (f : Int) : ∀ (s i : Nat) (l : List Nat), (ldZ f s i l).map (·.1) = lst f s i l
  | _, _, [] => by simp [ldZ, lst]
  | s + 1, i, _ :: r => by rw [ldZ, lst, ldZ_lst f s (i + 1) r]
  | 0, i, b :: r => by rw [ldZ, lst, List.map_cons, ldZ_lst f (skipZ f b) (i + 1) r]
theorem ldZ_bytes (f : Int) : ∀ (s i : Nat) (l : List Nat), ((ldZ f s i l).map fun y => y.2.1).flatten = l.drop s
  | _, _, [] => by simp [ldZ]
  | s + 1, i, _ :: r => by rw [ldZ, ldZ_bytes f s (i + 1) r]; rfl
  | 0, i, b :: r => by
    rw [ldZ, List.map_cons, List.flatten_cons, ldZ_bytes f (skipZ f b) (i + 1) r]
    show (b :: r.take (skipZ f b)) ++ r.drop (skipZ f b) = b :: r
    rw [List.cons_append, List.take_append_drop]
theorem ldZ_nil (f : Int) : ∀ (s i : Nat) (l : List Nat), l.length ≤ s → ldZ f s i l = []
  | _, _, [], _ => by simp [ldZ]
  | s + 1, i, _ :: r, h => by rw [ldZ]; exact ldZ_nil f s (i + 1) r (by simpa using h)
  | 0, i, b :: r, h => by simp at h
theorem ldZ_ms (f : Int) : ∀ (s i : Nat) (l : List Nat) (j : Nat) (y : ByteArray × List Nat × Nat), (ldZ f s i l)[j]? = some y → j + 1 < (ldZ f s i l).length → y.2.2 = 0
  | _, _, [], j, y, h, _ => by simp [ldZ] at h
  | s + 1, i, _ :: r, j, y, h, hl => by rw [ldZ] at h hl; exact ldZ_ms f s (i + 1) r j y h hl
  | 0, i, b :: r, 0, y, h, hl => by
    rw [ldZ] at h hl
    simp only [List.getElem?_cons_zero, Option.some.injEq] at h
    subst h
    rw [List.length_cons] at hl
    by_cases hr : r.length ≤ skipZ f b
    · rw [ldZ_nil f _ _ _ hr] at hl
      simp at hl
    · show skipZ f b - (r.take (skipZ f b)).length = 0
      rw [List.length_take]
      omega
  | 0, i, b :: r, j + 1, y, h, hl => by
    rw [ldZ] at h hl
    rw [List.getElem?_cons_succ] at h
    exact ldZ_ms f (skipZ f b) (i + 1) r j y h (by simpa using hl)
theorem ldZ_len (f : Int) (s i : Nat) (l : List Nat) : (ldZ f s i l).length ≤ l.length := by
  have h := congrArg List.length (ldZ_lst f s i l)
  rw [List.length_map] at h
  rw [h]
  exact lst_len f s i l
theorem skip_le (f : Int) (b : Nat) : skipZ f b ≤ 32 := by unfold skipZ; split; omega; exact ownZ_le b

theorem dec_digit (i : Nat) : ∀ c ∈ (tx ((decL i).map UInt8.ofNat)).data.toList, 48 ≤ c.toNat ∧ c.toNat ≤ 57 := by
  rw [tx_list]
  intro c hc
  obtain ⟨x, hx, rfl⟩ := List.mem_map.1 hc
  have := (decF_dig 9 i).2 x hx
  rw [UInt8.toNat_ofNat_of_lt' (by show x < 256; omega)]
  exact this
theorem dec_size (i : Nat) : (tx ((decL i).map UInt8.ofNat)).size ≤ 10 := by
  rw [size_of (tx_list _), List.length_map]
  exact decF_len 9 i
theorem text_tx {bs : List Nat} (h : Ds 256 bs) : tx (htext bs) = sOf (textL bs) := (tx_of (textL_htext h)).symm
theorem text_size {bs : List Nat} (h : Ds 256 bs) (hl : bs.length ≤ 32) : (tx (htext bs)).size ≤ 66 := by
  rw [text_tx h, sOf_size, textL, List.length_append, hexL_len]
  simp
  omega
theorem nameZ_name {f : Int} {b : Nat} (h : nameZ f b ≠ ⟨#[]⟩) : opZ f b = true := by
  cases ho : opZ f b with
  | true => rfl
  | false => exact absurd (nameZ_none ho) h
theorem nameZ_empty {f : Int} {b : Nat} (h : nameZ f b = ⟨#[]⟩) : opZ f b = false := by
  cases ho : opZ f b with
  | false => rfl
  | true => exact absurd h (nameZ_some ho)
theorem line_size {f : Int} {i b : Nat} {r : List Nat} (_hb : b < 256) (_hr : Ds 256 r) : (lineZ f i b r).size ≤ 200 := by
  have h1 : (sOf (decL i)).size ≤ 10 := by rw [sOf_size]; exact decF_len 9 i
  have h2 := nameZ_size f b
  have h3 : ∀ bs : List Nat, bs.length ≤ 32 → (sOf (textL bs)).size ≤ 66 := fun bs hl => by
    rw [sOf_size, textL, List.length_append, hexL_len]; simp; omega
  have e1 : (⟨#[32]⟩ : ByteArray).size = 1 := rfl
  have e2 : (⟨#[73, 78, 86, 65, 76, 73, 68, 32]⟩ : ByteArray).size = 8 := rfl
  unfold lineZ
  split
  · have := h3 [b] (by simp)
    simp only [ByteArray.size_append, e1, e2]
    omega
  · split
    · have := h3 (r.take (ownZ b)) (by rw [List.length_take]; have := ownZ_le b; omega)
      simp only [ByteArray.size_append, e1]
      omega
    · simp only [ByteArray.size_append, e1]
      omega
/-- Each line is one. -/
theorem line_ok (f : Int) {i b : Nat} {r : List Nat} (hb : b < 256) (hr : Ds 256 r) : RowOk f (lineZ f i b r) (b :: r.take (skipZ f b)) (skipZ f b - (r.take (skipZ f b)).length) where
  low := fun c hc => by
    have := line_low hb hr c hc
    intro e
    subst e
    have h : (10 : UInt8).toNat = 10 := rfl
    omega
  size := by have := line_size (f := f) (i := i) hb hr; omega
  row := .inr (by
    have hf := flds_line (f := f) (i := i) hb hr
    have hsk := skip_le f b
    have hd1 : Ds 256 [b] := fun x hx => by simp at hx; omega
    have hd2 : Ds 256 (r.take (ownZ b)) := fun x hx => hr x (List.mem_of_mem_take hx)
    unfold wordsZ at hf
    by_cases hn : nameZ f b = ⟨#[]⟩
    · have hs0 : skipZ f b = 0 := by unfold skipZ; rw [if_pos hn]
      rw [if_pos hn] at hf
      rw [hs0, List.take_zero]
      refine ⟨by rw [hf]; simp, by simp, by simp, fun w M c A hM hK hS => ?_⟩
      rw [hf] at hS ⊢
      exact written_inv f w hS (dec_digit i) (by have := dec_size i; omega) (by have := text_size hd1 (by simp); omega) (by rw [text_tx hd1]; exact bres_text hd1) hb (nameZ_empty hn)
    · have ho := nameZ_name hn
      have hs1 : skipZ f b = ownZ b := by unfold skipZ; rw [if_neg hn]
      rw [if_neg hn] at hf
      rw [hs1]
      have hN : tx (nameZ f b).data.toList = nameZ f b := (tx_of rfl).symm
      have ht : (r.take (ownZ b)).length ≤ ownZ b := by rw [List.length_take]; omega
      have hw32 := ownZ_le b
      by_cases hw : 0 < ownZ b
      · rw [if_pos hw] at hf
        refine ⟨by rw [hf]; simp, by simp; omega, by omega, fun w M c A hM hK hS => ?_⟩
        rw [hf] at hS ⊢
        exact written_three f w hS hM hK (dec_digit i) (by have := dec_size i; omega) (by have := text_size hd2 (by omega); omega) (by rw [text_tx hd2]; exact bres_text hd2) hb ho hN hw ht
      · rw [if_neg hw] at hf
        have hw0 : ownZ b = 0 := by omega
        rw [hw0, List.take_zero]
        refine ⟨by rw [hf]; simp, by simp, by simp, fun w M c A hM hK hS => ?_⟩
        rw [hf] at hS ⊢
        exact written_two f w hS hM hK (dec_digit i) (by have := dec_size i; omega) hb ho hN hw0)
theorem ldZ_ok (f : Int) : ∀ (s i : Nat) (l : List Nat), Ds 256 l → ∀ y ∈ ldZ f s i l, RowOk f y.1 y.2.1 y.2.2
  | _, _, [], _, y, hy => by simp [ldZ] at hy
  | s + 1, i, _ :: r, h, y, hy => by
    rw [ldZ] at hy
    exact ldZ_ok f s (i + 1) r (fun x hx => h x (List.mem_cons_of_mem _ hx)) y hy
  | 0, i, b :: r, h, y, hy => by
    rw [ldZ] at hy
    rcases List.mem_cons.1 hy with rfl | hy
    · exact line_ok f (h b List.mem_cons_self) fun x hx => h x (List.mem_cons_of_mem _ hx)
    · exact ldZ_ok f (skipZ f b) (i + 1) r (fun x hx => h x (List.mem_cons_of_mem _ hx)) y hy
theorem lst_size (f : Int) : ∀ (s i : Nat) (l : List Nat), Ds 256 l → ∀ x ∈ lst f s i l, x.size ≤ 200
  | _, _, [], _, y, hy => by simp [lst] at hy
  | s + 1, i, _ :: r, h, y, hy => by
    rw [lst] at hy
    exact lst_size f s (i + 1) r (fun x hx => h x (List.mem_cons_of_mem _ hx)) y hy
  | 0, i, b :: r, h, y, hy => by
    rw [lst] at hy
    rcases List.mem_cons.1 hy with rfl | hy
    · exact line_size (h b List.mem_cons_self) fun x hx => h x (List.mem_cons_of_mem _ hx)
    · exact lst_size f (skipZ f b) (i + 1) r (fun x hx => h x (List.mem_cons_of_mem _ hx)) y hy
theorem joinN_len : ∀ ls : List ByteArray, (∀ x ∈ ls, x.size ≤ 200) → (joinN ls).length ≤ 201 * ls.length
  | [], _ => by simp [joinN]
  | [x], h => by
    have := h x List.mem_cons_self
    simp only [joinN, List.length_cons, List.length_nil]
    rw [← size_of (s := x) rfl]
    omega
  | x :: y :: r, h => by
    have h1 := h x List.mem_cons_self
    have ih := joinN_len (y :: r) fun z hz => h z (List.mem_cons_of_mem _ hz)
    rw [joinN, List.length_append, List.length_cons, ← size_of (s := x) rfl]
    simp only [List.length_cons] at ih ⊢
    omega
/-- The lines of a code: none: one without letters. -/
def ldA (f : Int) (bs : List Nat) : List (ByteArray × List Nat × Nat) := if bs = [] then [(⟨#[]⟩, [], 0)] else ldZ f 0 0 bs
theorem byt_le (ld : List (ByteArray × List Nat × Nat)) (k : Nat) : (byt ld k).length ≤ ((ld.map fun y => y.2.1).flatten).length := by
  have h : (ld.map fun y => y.2.1).flatten = byt ld k ++ ((ld.drop k).map fun y => y.2.1).flatten := by
    unfold byt
    rw [← List.flatten_append, ← List.map_append, List.take_append_drop]
  rw [h, List.length_append]
  omega
/-- What List writes, one line behind the other, Read reads again. -/
theorem read_back (f : Int) {bs : List Nat} (hd : Ds 256 bs) (hl : bs.length ≤ 3000) {s : ByteArray} (hs : s.data.toList = joinN (lst f 0 0 bs)) (w : World) :
    Calls Tryd.prog 22 #[.int .i64 f, .string s] w fun e w' => ∃ v, e = .returned (.tuple #[v, .agg #[.int .i64 0, .int .i64 0]]) ∧ Acc w' w.heap.size v bs ∧ Below w.heap.size w w' := by
  by_cases h0 : bs = []
  · subst h0
    refine (read_c f s [(⟨#[]⟩, [], 0)] (by simp) (by rw [hs]; simp [joinN, lst]) (by simp [joinN]) (by simp) (fun y hy => ?_) (fun j y hy _ => ?_) (fun k => ?_) w).mono fun e w' ⟨v, h1, h2, h3⟩ => ⟨v, h1, by rw [byt_all] at h2; simpa using h2, h3⟩
    · simp only [List.mem_singleton] at hy
      subst hy
      exact ⟨fun c hc => by simp at hc, by show (0 : Nat) ≤ _; omega, .inl ⟨by rw [flds_end _ _ _ (by show ¬ 0 < 0; omega)], rfl, rfl⟩⟩
    · cases j with
      | zero => simp at hy; rw [← hy]
      | succ j => simp at hy
    · have := byt_le [((⟨#[]⟩ : ByteArray), ([] : List Nat), 0)] k
      simp at this
      simp [this]
  · have hb := ldZ_bytes f 0 0 bs
    have hne : ldZ f 0 0 bs ≠ [] := fun e => by
      rw [e] at hb
      exact h0 (by simpa using hb.symm)
    have hln := ldZ_len f 0 0 bs
    have hjl := joinN_len (lst f 0 0 bs) (lst_size f 0 0 bs hd)
    have hl2 := lst_len f 0 0 bs
    refine (read_c f s (ldZ f 0 0 bs) hne (by rw [ldZ_lst]; exact hs) (by rw [ldZ_lst]; omega) (by omega) (ldZ_ok f 0 0 bs hd) (ldZ_ms f 0 0 bs) (fun k => ?_) w).mono fun e w' ⟨v, h1, h2, h3⟩ => ⟨v, h1, by rw [byt_all, hb] at h2; exact h2, h3⟩
    have := byt_le (ldZ f 0 0 bs) k
    rw [hb, List.drop_zero] at this
    omega
end Go.Proofs.YtopeahjdglkheaaDoor
namespace Go.Proofs.YtopeahjdglkheaaDoor
open Go.RowKit

theorem joinN_snoc (x : ByteArray) : ∀ l : List ByteArray, l ≠ [] → joinN (l ++ [x]) = joinN l ++ 10 :: x.data.toList
  | [], h => absurd rfl h
  | [y], _ => rfl
  | y :: z :: r, _ => by
    have ih := joinN_snoc x (z :: r) (by simp)
    show y.data.toList ++ 10 :: joinN ((z :: r) ++ [x]) = (y.data.toList ++ 10 :: joinN (z :: r)) ++ 10 :: x.data.toList
    rw [ih]
    simp
theorem jmp_rise : ∀ (s i : Nat) (l : List Nat), (jmp s i l).Pairwise (· < ·)
  | _, _, [] => by simp [jmp]
  | s + 1, i, _ :: r => by rw [jmp]; exact jmp_rise s (i + 1) r
  | 0, i, b :: r => by
    rw [jmp]
    split
    · refine List.pairwise_cons.2 ⟨fun x hx => ?_, jmp_rise _ _ _⟩
      have := jmp_ge _ _ _ _ hx
      omega
    · exact jmp_rise _ _ _

section
variable {ops : Array Oper} {T : Facts} {o : Oper} {a : Act} {w : World}
theorem cb_not {g t : Nat} {b c : Bool} (h : o.guard = some (g, b)) (hg : (ops[g]?).bind (·.dst) = some t) (hv : a.tmps.getD t undef = .bool c) (hne : (c == b) = false) : Region.wanted o (yielded ops a.tmps) = false := by
  unfold Region.wanted
  rw [h]
  have : a.tmps[t]? = some (.bool c) := by
    rw [Array.getD_eq_getD_getElem?] at hv
    cases hx : a.tmps[t]? with
    | none => rw [hx] at hv; simp [undef] at hv
    | some v => rw [hx] at hv; simp at hv; rw [hv]
  cases b <;> cases c <;> simp_all [yielded]
theorem cb_len8 {A : Option Addr} {n c : Nat} (x : Operand) (ho : o.op = .call { callee := .builtin .len, args := #[x], argTypes := #[31] }) (hx : a.eval x = .slice A n c) (hw : Region.wanted o (yielded ops a.tmps) = true) (hf : factTo T o.dst (.int .i64 (n : Nat)) w) : relStep Tryd.prog ops T o a w :=
  relStep_val (.int .i64 (n : Nat)) hw hf (by
    clear hw hf
    generalize a.eval = p at *
    unfold execOp
    rw [ho]
    go_simp)
theorem cb_idxI {g k c m : Nat} (x y : Operand) (ho : o.op = .indexAddr 36 x y) (hm : m < k) (hx : a.eval x = .slice (some ⟨g, 0, none⟩) k c) (hy : a.eval y = .int .i64 (m : Nat)) (hw : Region.wanted o (yielded ops a.tmps) = true) (hf : factTo T o.dst (.pointer (some ⟨g, m, none⟩)) w) : relStep Tryd.prog ops T o a w :=
  relStep_val (.pointer (some ⟨g, m, none⟩)) hw hf (by
    have h1 : (m : Int) < (k : Int) := by omega
    unfold execOp
    rw [ho]
    simp only [hx, hy]
    go_simp)
theorem cb_loadI {g k : Nat} {v : Value} (x : Operand) (ho : o.op = .load 3 x) (hx : a.eval x = .pointer (some ⟨g, k, none⟩)) (hc : w.cell? ⟨g, k, none⟩ = some v) (hw : Region.wanted o (yielded ops a.tmps) = true) (hf : factTo T o.dst v w) : relStep Tryd.prog ops T o a w :=
  relStep_val v hw hf (by
    unfold execOp
    rw [ho]
    simp only [hx]
    go_simp)
theorem cb_idx8 {g p k c m : Nat} (x y : Operand) (ho : o.op = .indexAddr 31 x y) (hm : m < k) (hx : a.eval x = .slice (some ⟨g, p, none⟩) k c) (hy : a.eval y = .int .i64 (m : Nat)) (hw : Region.wanted o (yielded ops a.tmps) = true) (hf : factTo T o.dst (.pointer (some ⟨g, p + m, none⟩)) w) : relStep Tryd.prog ops T o a w :=
  relStep_val (.pointer (some ⟨g, p + m, none⟩)) hw hf (by
    have h1 : (m : Int) < (k : Int) := by omega
    unfold execOp
    rw [ho]
    simp only [hx, hy]
    go_simp)
theorem cb_load8 {g k : Nat} {v : Value} (x : Operand) (ho : o.op = .load 5 x) (hx : a.eval x = .pointer (some ⟨g, k, none⟩)) (hc : w.cell? ⟨g, k, none⟩ = some v) (hw : Region.wanted o (yielded ops a.tmps) = true) (hf : factTo T o.dst v w) : relStep Tryd.prog ops T o a w :=
  relStep_val v hw hf (by
    unfold execOp
    rw [ho]
    simp only [hx]
    go_simp)
end

set_option maxRecDepth 100000 in
set_option maxHeartbeats 12800000 in
theorem codeBack_c (w : World) (hP : PowAt w) (f : Int) (_ : -9223372036854775808 ≤ f) (_ : f < 9223372036854775808) {A : Option Addr} {c : Nat} {bs : List Nat} (h : Rd .u8 w A c bs) (hd : Ds 256 bs) : Calls Tryd.prog 6 #[.int .i64 f, .slice A bs.length c] w (RetV (.bool true) w) := by
  obtain ⟨n, hn⟩ : ∃ n, n = bs.length := ⟨_, rfl⟩
  obtain ⟨b, hb0⟩ : ∃ b, b = bs.take 3000 := ⟨_, rfl⟩
  obtain ⟨L, hL⟩ : ∃ L, L = lst f 0 0 b := ⟨_, rfl⟩
  obtain ⟨k, hk⟩ : ∃ k, k = L.length := ⟨_, rfl⟩
  obtain ⟨P, hPj⟩ : ∃ P, P = jmp 0 0 b := ⟨_, rfl⟩
  obtain ⟨q, hq⟩ : ∃ q, q = P.length := ⟨_, rfl⟩
  have hlb : b.length ≤ 3000 := by rw [hb0, List.length_take]; omega
  have hdb : Ds 256 b := fun x hx => hd x (List.mem_of_mem_take (hb0 ▸ hx))
  have hk2 : k ≤ 3000 := by rw [hk, hL]; exact Nat.le_trans (lst_len f 0 0 b) hlb
  have hq2 : q ≤ 3000 := by rw [hq, hPj]; exact Nat.le_trans (jmp_len 0 0 b) hlb
  have KF : Hid (∀ u, Below w.heap.size w u → Calls Tryd.prog 15 #[.slice A n c] u (RetR (fun w' v => Byt w' v b) u)) := fun u hu => by rw [hn, hb0]; exact few_c u (h.below hu) hd
  rw [← hn]
  have KFB : Hid (∀ u v, Byt u v b → Calls Tryd.prog 15 #[v] u (RetR (fun w' v => Byt w' v b) u)) := fun u v hv => by
    obtain ⟨A', c', rfl, hr, hd⟩ := hv
    have h := few_c u hr hd
    rw [List.take_of_length_le hlb] at h
    exact h
  have KL : Hid (∀ u v, Below w.heap.size w u → Byt u v b → Calls Tryd.prog 20 #[.int .i64 f, v] u (fun e w' => ∃ A c, e = .returned (.slice A k c) ∧ SsAt w' A L ∧ Below u.heap.size u w')) := fun u v hu hv => by
    rw [hk, hL]
    obtain ⟨A, c, rfl, hr, hd⟩ := hv
    exact cdList f u (hP.below hu) hr hd hlb
  have KJ : Hid (∀ u v, Byt u v b → Calls Tryd.prog 16 #[v] u (fun e w' => ∃ A c, e = .returned (.slice A q c) ∧ IntsAt w' A P ∧ Below u.heap.size u w')) := fun u v hv => by
    rw [hq, hPj]
    obtain ⟨A, c, rfl, hr, hd⟩ := hv
    exact cdJumps u hr hd hlb
  have KR : Hid (∀ u s, s.data.toList = joinN L → Calls Tryd.prog 22 #[.int .i64 f, .string s] u fun e w' => ∃ v, e = .returned (.tuple #[v, .agg #[.int .i64 0, .int .i64 0]]) ∧ Acc w' u.heap.size v b ∧ Below u.heap.size u w') := fun u s hs => read_back f hdb hlb (by rw [hs, hL]) u
  have KW : Hid (∀ u, Calls Tryd.prog 14 #[] u (RetV (.bool true) u)) := fun u => cdwakes_c u
  have HLS : Hid (∀ x ∈ L, x.size ≤ 200) := fun x hx => lst_size f 0 0 b hdb x (hL ▸ hx)
  have HPX : Hid (∀ i x, P[i]? = some x → x < b.length ∧ b[x]? = some 91 ∧ ∀ y, 0 < i → P[i - 1]? = some y → y < x) := fun i x hx => by
    rw [hPj] at hx
    have h1 := jmp_lt 0 0 b x (List.mem_of_getElem? hx)
    obtain ⟨j, e, hj⟩ := jmp_at 0 0 b x (List.mem_of_getElem? hx)
    obtain rfl : x = j := by omega
    refine ⟨by omega, hj, fun y hi hy => ?_⟩
    rw [hPj] at hy
    obtain ⟨h2, e2⟩ := List.getElem?_eq_some_iff.1 hx
    obtain ⟨h3, e3⟩ := List.getElem?_eq_some_iff.1 hy
    have := List.pairwise_iff_getElem.1 (jmp_rise 0 0 b) (i - 1) i h3 h2 (by omega)
    rw [e2, e3] at this
    exact this
  have HDB := Lib.hid hdb
  have HLB := Lib.hid hlb
  have HK := Lib.hid hk
  have HK2 := Lib.hid hk2
  have HQ := Lib.hid hq
  have HQ2 := Lib.hid hq2
  clear hn hb0 hL hk hPj hq hlb hdb hk2 hq2 h hd hP
  go_enter Tryd.func6, Tryd.ntmps6
  go_wp2_with fail
  (with_reducible refine (KF.out _ (Below.refl _ _)).mono ?_)
  rintro e w1 ⟨v5, rfl, hby, hb1⟩
  obtain ⟨A5, c5, rfl, hr5, hd5⟩ := hby
  obtain ⟨n5, hn5⟩ : ∃ n5, n5 = b.length := ⟨_, rfl⟩
  rw [← hn5]
  have HBY1 : Hid (Byt w1 (.slice A5 n5 c5) b) := by rw [hn5]; exact ⟨A5, c5, rfl, hr5, hd5⟩
  have HB1 := Lib.hid hb1
  have HN5 := Lib.hid hn5
  clear hr5 hd5 hn5 hb1 KF
  go_wp2_with fail
  (with_reducible refine (KFB.out _ _ HBY1.out).mono ?_)
  rintro e w2 ⟨v, rfl, hby2, hb2⟩
  have HBY2 := Lib.hid (HBY1.out.below hb2)
  have HB2 := Lib.hid (HB1.out.trans (hb2.mono HB1.out.size))
  have HV := Lib.hid hby2
  clear hby2 hb2 HBY1 HB1
  go_wp2_with fail
  (with_reducible refine (KL.out _ _ HB2.out HV.out).mono ?_)
  rintro e w3 ⟨A6, c6, rfl, hat6, hb3⟩
  have HAT6 := Lib.hid hat6
  have HBY3 := Lib.hid (HBY2.out.below hb3)
  have HB3 := Lib.hid (HB2.out.trans (hb3.mono HB2.out.size))
  clear hat6 hb3 HBY2 HB2 HV KL
  go_wp2_with fail
  go_loopw [7, 8] (fun tv i wr => ∃ (m : Nat) (s : ByteArray), tv = .string s ∧ i = .int .i64 (m : Nat) ∧ m ≤ k ∧ Hid (s.data.toList = joinN (L.take m)) ∧ Hid (wr = w3)) (fun _ i _ => k - (intOf i).toNat)
  case atStart => exact ⟨0, ⟨#[]⟩, rfl, rfl, Nat.zero_le _, rfl, rfl⟩
  case round =>
    obtain ⟨m, s, rfl, rfl, hm, hs, hwr⟩ := hrel
    obtain rfl := hwr.out
    clear hwr
    have hk3 : k ≤ 3000 := HK2.out
    have hsz : s.size ≤ 201 * m := by
      have h1 := joinN_len (L.take m) fun x hx => HLS.out x (List.mem_of_mem_take hx)
      rw [size_of hs.out]
      rw [List.length_take] at h1
      omega
    by_cases h0 : m < k
    · obtain ⟨x, hx⟩ : ∃ x, L[m]? = some x := ⟨_, List.getElem?_eq_getElem (by rw [← HK.out]; exact h0)⟩
      obtain ⟨g6, rfl, hg6, c6m⟩ := HAT6.out m x hx
      have hxs := HLS.out x (List.mem_of_getElem? hx)
      have htk : L.take (m + 1) = L.take m ++ [x] := by rw [List.take_add_one, hx]; rfl
      have h0i : (m : Int) < (k : Int) := by omega
      rw [Nat.zero_add] at c6m
      have HM := Lib.hid h0
      by_cases hm0 : m = 0
      · subst hm0
        have hz : ¬ 9223372036854775807 < s.size + x.size := by omega
        have HS2 : Hid ((s ++ x).data.toList = joinN (L.take (0 + 1))) := by
          show _ = _
          rw [htk, ByteArray.data_append, Array.toList_append, hs.out]
          rfl
        clear hs hsz hxs htk hx h0 hm
        go_wp2_with fail
        go_roundw
        case rel => exact ⟨0 + 1, s ++ x, rfl, by go_num, by have := HM.out; omega, HS2.out, Lib.hid trivial⟩
        case measure => have := HM.out; simp [intOf]; omega
      · have hm1 : (0 : Int) < (m : Int) := by omega
        have hz1 : ¬ 9223372036854775807 < s.size + (⟨#[10]⟩ : ByteArray).size := by rw [show (⟨#[10]⟩ : ByteArray).size = 1 from rfl]; omega
        have hz2 : ¬ 9223372036854775807 < (s ++ (⟨#[10]⟩ : ByteArray)).size + x.size := by rw [ByteArray.size_append, show (⟨#[10]⟩ : ByteArray).size = 1 from rfl]; omega
        have HS2 : Hid (((s ++ (⟨#[10]⟩ : ByteArray)) ++ x).data.toList = joinN (L.take (m + 1))) := by
          show _ = _
          rw [htk, joinN_snoc x _ (fun e => by have := congrArg List.length e; rw [List.length_take, ← HK.out] at this; simp at this; omega), ByteArray.data_append, Array.toList_append, ByteArray.data_append, Array.toList_append, hs.out]
          simp
        have hmp : 0 < m := by omega
        clear hs hsz hxs htk hx h0 hm hm0
        go_wp2_with fail
        go_roundw
        case rel => exact ⟨m + 1, (s ++ (⟨#[10]⟩ : ByteArray)) ++ x, rfl, by go_num, by have := HM.out; omega, HS2.out, Lib.hid trivial⟩
        case measure => have := HM.out; simp [intOf]; omega
    · have h0i : ¬ (m : Int) < (k : Int) := by omega
      have HSJ : Hid (s.data.toList = joinN L) := by
        have h := hs.out
        rw [List.take_of_length_le (by rw [← HK.out]; omega)] at h
        exact h
      clear hs hsz h0 hm hk3
      go_wp2_with fail
      (with_reducible refine (KR.out _ s HSJ.out).mono ?_)
      rintro e w4 ⟨v, rfl, hacc, hb4⟩
      obtain ⟨A9, c9, rfl⟩ := hacc.form
      have HB4 := Lib.hid (HB3.out.trans (hb4.mono HB3.out.size))
      have hbA := (Below.refl w4.heap.size w4).alloc (Nat.le_refl _) (.cells #[.int .i64 0, .int .i64 0] 44)
      have hf2 := heap_alloc_new w4 (.cells #[.int .i64 0, .int .i64 0] 44)
      obtain ⟨d0, d1, g0, g1⟩ := two_cells hf2
      have HBY5 := Lib.hid ((HBY3.out.below hb4).below hbA)
      have cv1 := run_sOf HBY5.out
      have cv2 := run_sOf ((hacc.byt HDB.out).below hbA)
      have HB5 := Lib.hid (HB4.out.alloc HB4.out.size (.cells #[.int .i64 0, .int .i64 0] 44))
      obtain ⟨n9, hn9⟩ : ∃ n9, n9 = b.length := ⟨_, rfl⟩
      rw [← hn9] at cv2 ⊢
      clear hb4 hf2 hacc HB3 HBY3 HAT6 hbA hn9 KR
      obtain ⟨S, hS⟩ : ∃ S, S = sOf b := ⟨_, rfl⟩
      rw [← hS] at cv1 cv2
      clear hS
      go_wp2_with fail
      generalize w4.alloc (.cells #[.int .i64 0, .int .i64 0] 44) = Y at *
      clear cv1 cv2 d0 d1 g0 g1
      (with_reducible refine (KFB.out _ _ HBY5.out).mono ?_)
      rintro e w6 ⟨v6, rfl, hby6, hb6⟩
      have HV6 := Lib.hid hby6
      have HBY6 := Lib.hid (HBY5.out.below hb6)
      have HB6 := Lib.hid (HB5.out.trans (hb6.mono HB5.out.size))
      clear hby6 hb6 HBY5 HB5 KFB HB4
      go_wp2_with fail
      (with_reducible refine (KJ.out _ _ HV6.out).mono ?_)
      rintro e w7 ⟨A8, c8, rfl, hat8, hb7⟩
      have HAT8 := Lib.hid hat8
      have HBY7 := Lib.hid (HBY6.out.below hb7)
      have HB7 := Lib.hid (HB6.out.trans (hb7.mono HB6.out.size))
      clear hat8 hb7 HBY6 HB6 HV6 KJ
      go_wp2_with fail
      go_loopw [12] (fun i wr => ∃ (j : Nat), i = .int .i64 (j : Nat) ∧ j ≤ q ∧ Hid (IntsAt wr A8 P) ∧ Hid (Byt wr (.slice A5 n5 c5) b) ∧ Hid (Below w.heap.size w wr)) (fun i _ => q - (intOf i).toNat)
      case atStart => exact ⟨0, rfl, Nat.zero_le _, HAT8, HBY7, HB7⟩
      case round =>
        clear HAT8 HBY7 HB7
        obtain ⟨j, rfl, hj, HAT, HBY, HB⟩ := hrel
        have hq3 : q ≤ 3000 := HQ2.out
        by_cases h1 : j < q
        · obtain ⟨x, hx⟩ : ∃ x, P[j]? = some x := ⟨_, List.getElem?_eq_getElem (by rw [← HQ.out]; exact h1)⟩
          obtain ⟨g8, rfl, hg8, c8m⟩ := HAT.out j x hx
          obtain ⟨hp1, hp2, hp3⟩ := HPX.out j x hx
          rw [Nat.zero_add] at c8m
          obtain ⟨A', c', e', hr, _⟩ := HBY.out
          injection e' with e1 e2 e3
          subst e1 e3
          obtain ⟨bb, oo, rfl, hlt, hcell⟩ := hr.at_ (by omega)
          have hc0 := hcell x hp1
          rw [show b.getD x 0 = 91 by rw [List.getD_eq_getElem?_getD, hp2]; rfl] at hc0
          have hc1 : wr.cell? ⟨bb, oo + x, none⟩ = some (.int .u8 91) := hc0
          have a1 : (j : Int) < (q : Int) := by omega
          have a2 : x < n5 := by rw [HN5.out]; exact hp1
          have a3 : (x : Int) < (n5 : Int) := by omega
          have a4 : ¬ (x : Int) < 0 := by omega
          have a5 : ¬ n5 ≤ x := by omega
          have HJ := Lib.hid h1
          by_cases hj0 : j = 0
          · have b2 : ¬ (0 : Int) < (j : Int) := by omega
            have b5 : ¬ 0 < j := by omega
            clear hx hp1 hp2 hp3 hc0 hcell hr e2 h1 hj0
            go_upto_region 17 with (fail)
            refine wp_region_see 40 [60, 61, 62, 63, 64, 65, 66, 67, 68, 69, 70, 71, 72, 73, 74, 75, 76, 77, 78, 79, 80, 81, 82, 83, 84, 85, 86, 87, 88, 89, 90, 91, 92, 93, 94, 95, 96, 97, 98, 99] [(60, .is (.slice (some ⟨g8, 0, none⟩) q c8)), (61, .is (.int .i64 (j : Nat))), (62, .is (.pointer (some ⟨g8, j, none⟩))), (63, .is (.int .i64 (x : Nat))), (64, .is (.bool false)), (65, .is (.bool false)), (66, .is (.slice (some ⟨g8, 0, none⟩) q c8)), (67, .is (.int .i64 (j : Nat))), (68, .is (.pointer (some ⟨g8, j, none⟩))), (69, .is (.int .i64 (x : Nat))), (70, .is (.slice (some ⟨bb, oo, none⟩) n5 c5)), (71, .is (.int .i64 (n5 : Nat))), (72, .is (.bool false)), (73, .is (.bool false)), (74, .is (.bool false)), (75, .is (.slice (some ⟨bb, oo, none⟩) n5 c5)), (76, .is (.slice (some ⟨g8, 0, none⟩) q c8)), (77, .is (.int .i64 (j : Nat))), (78, .is (.pointer (some ⟨g8, j, none⟩))), (79, .is (.int .i64 (x : Nat))), (80, .is (.pointer (some ⟨bb, oo + x, none⟩))), (81, .is (.int .u8 91)), (82, .is (.bool false)), (83, .is (.bool false)), (84, .is (.bool false)), (85, .is (.int .i64 (j : Nat))), (86, .is (.bool false)), (87, .is (.bool false)), (88, .is (undef)), (89, .is (undef)), (90, .is (undef)), (91, .is (undef)), (92, .is (undef)), (93, .is (undef)), (94, .is (undef)), (95, .is (undef)), (96, .is (undef)), (97, .is (undef)), (98, .is (.bool false)), (99, .is (.bool false))] (by kernel_rfl) (by kernel_rfl) (by rfl) ?_ ?_
            · refine seeOps_cons ?_ (seeOps_cons ?_ (seeOps_cons ?_ (seeOps_cons ?_ (seeOps_cons ?_ (seeOps_cons ?_ (seeOps_cons ?_ (seeOps_cons ?_ (seeOps_cons ?_ (seeOps_cons ?_ (seeOps_cons ?_ (seeOps_cons ?_ (seeOps_cons ?_ (seeOps_cons ?_ (seeOps_cons ?_ (seeOps_cons ?_ (seeOps_cons ?_ (seeOps_cons ?_ (seeOps_cons ?_ (seeOps_cons ?_ (seeOps_cons ?_ (seeOps_cons ?_ (seeOps_cons ?_ (seeOps_cons ?_ (seeOps_cons ?_ (seeOps_cons ?_ (seeOps_cons ?_ (seeOps_cons ?_ (seeOps_cons ?_ (seeOps_cons ?_ (seeOps_cons ?_ (seeOps_cons ?_ (seeOps_cons ?_ (seeOps_cons ?_ (seeOps_cons ?_ (seeOps_cons ?_ (seeOps_cons ?_ (seeOps_cons ?_ (seeOps_cons ?_ (seeOps_cons ?_ seeOps_nil)))))))))))))))))))))))))))))))))))))))
              · intro w9 hb9 fr hout hin
                have h11 : fr.tmps.getD 11 undef = .slice (some ⟨g8, 0, none⟩) q c8 := hout 11 (by decide)
                clear hout hin
                exact relStep_move (.tmp 11) rfl (wanted_none rfl) (by show fr.tmps.getD 11 undef = _; rw [h11])
              · intro w9 hb9 fr hout hin
                have h12 : fr.tmps.getD 12 undef = .int .i64 (j : Nat) := hout 12 (by decide)
                clear hout hin
                exact relStep_move (.tmp 12) rfl (wanted_none rfl) (by show fr.tmps.getD 12 undef = _; rw [h12])
              · intro w9 hb9 fr hout hin
                have h60 : fr.tmps.getD 60 undef = .slice (some ⟨g8, 0, none⟩) q c8 := hin 60 (by decide) (by decide)
                have h61 : fr.tmps.getD 61 undef = .int .i64 (j : Nat) := hin 61 (by decide) (by decide)
                clear hout hin
                exact cb_idxI (.tmp 60) (.tmp 61) rfl HJ.out h60 h61 (wanted_none rfl) rfl
              · intro w9 hb9 fr hout hin
                have h62 : fr.tmps.getD 62 undef = .pointer (some ⟨g8, j, none⟩) := hin 62 (by decide) (by decide)
                clear hout hin
                exact cb_loadI (.tmp 62) rfl h62 ((hb9.cell (p := ⟨g8, j, none⟩) hg8).trans c8m) (wanted_none rfl) rfl
              · intro w9 hb9 fr hout hin
                have h63 : fr.tmps.getD 63 undef = .int .i64 (x : Nat) := hin 63 (by decide) (by decide)
                clear hout hin
                exact cd_bin .lss 3 (.tmp 63) (.const (.int .i64 0)) _ rfl h63 rfl (fun w => by go_simp) (fun w => by go_simp) (wanted_none rfl) rfl
              · intro w9 hb9 fr hout hin
                have h64 : fr.tmps.getD 64 undef = .bool false := hin 64 (by decide) (by decide)
                clear hout hin
                exact relStep_move (.tmp 64) rfl (wanted_none rfl) (by show fr.tmps.getD 64 undef = _; rw [h64])
              · intro w9 hb9 fr hout hin
                have h11 : fr.tmps.getD 11 undef = .slice (some ⟨g8, 0, none⟩) q c8 := hout 11 (by decide)
                have h65 : fr.tmps.getD 65 undef = .bool false := hin 65 (by decide) (by decide)
                clear hout hin
                exact relStep_move (.tmp 11) rfl (wanted_some (g := 5) (t := 65) (b := false) rfl rfl h65) (by show fr.tmps.getD 11 undef = _; rw [h11])
              · intro w9 hb9 fr hout hin
                have h12 : fr.tmps.getD 12 undef = .int .i64 (j : Nat) := hout 12 (by decide)
                have h65 : fr.tmps.getD 65 undef = .bool false := hin 65 (by decide) (by decide)
                clear hout hin
                exact relStep_move (.tmp 12) rfl (wanted_some (g := 5) (t := 65) (b := false) rfl rfl h65) (by show fr.tmps.getD 12 undef = _; rw [h12])
              · intro w9 hb9 fr hout hin
                have h66 : fr.tmps.getD 66 undef = .slice (some ⟨g8, 0, none⟩) q c8 := hin 66 (by decide) (by decide)
                have h67 : fr.tmps.getD 67 undef = .int .i64 (j : Nat) := hin 67 (by decide) (by decide)
                have h65 : fr.tmps.getD 65 undef = .bool false := hin 65 (by decide) (by decide)
                clear hout hin
                exact cb_idxI (.tmp 66) (.tmp 67) rfl HJ.out h66 h67 (wanted_some (g := 5) (t := 65) (b := false) rfl rfl h65) rfl
              · intro w9 hb9 fr hout hin
                have h68 : fr.tmps.getD 68 undef = .pointer (some ⟨g8, j, none⟩) := hin 68 (by decide) (by decide)
                have h65 : fr.tmps.getD 65 undef = .bool false := hin 65 (by decide) (by decide)
                clear hout hin
                exact cb_loadI (.tmp 68) rfl h68 ((hb9.cell (p := ⟨g8, j, none⟩) hg8).trans c8m) (wanted_some (g := 5) (t := 65) (b := false) rfl rfl h65) rfl
              · intro w9 hb9 fr hout hin
                have h5 : fr.tmps.getD 5 undef = .slice (some ⟨bb, oo, none⟩) n5 c5 := hout 5 (by decide)
                have h65 : fr.tmps.getD 65 undef = .bool false := hin 65 (by decide) (by decide)
                clear hout hin
                exact relStep_move (.tmp 5) rfl (wanted_some (g := 5) (t := 65) (b := false) rfl rfl h65) (by show fr.tmps.getD 5 undef = _; rw [h5])
              · intro w9 hb9 fr hout hin
                have h70 : fr.tmps.getD 70 undef = .slice (some ⟨bb, oo, none⟩) n5 c5 := hin 70 (by decide) (by decide)
                have h65 : fr.tmps.getD 65 undef = .bool false := hin 65 (by decide) (by decide)
                clear hout hin
                exact cb_len8 (.tmp 70) rfl h70 (wanted_some (g := 5) (t := 65) (b := false) rfl rfl h65) rfl
              · intro w9 hb9 fr hout hin
                have h69 : fr.tmps.getD 69 undef = .int .i64 (x : Nat) := hin 69 (by decide) (by decide)
                have h71 : fr.tmps.getD 71 undef = .int .i64 (n5 : Nat) := hin 71 (by decide) (by decide)
                have h65 : fr.tmps.getD 65 undef = .bool false := hin 65 (by decide) (by decide)
                clear hout hin
                exact cd_bin .geq 3 (.tmp 69) (.tmp 71) _ rfl h69 h71 (fun w => by go_simp) (fun w => by go_simp) (wanted_some (g := 5) (t := 65) (b := false) rfl rfl h65) rfl
              · intro w9 hb9 fr hout hin
                have h65 : fr.tmps.getD 65 undef = .bool false := hin 65 (by decide) (by decide)
                have h72 : fr.tmps.getD 72 undef = .bool false := hin 72 (by decide) (by decide)
                clear hout hin
                exact relStep_pickF (.tmp 65) (.const (.bool true)) (.tmp 72) rfl h65 (wanted_none rfl) (by show fr.tmps.getD 72 undef = _; rw [h72])
              · intro w9 hb9 fr hout hin
                have h73 : fr.tmps.getD 73 undef = .bool false := hin 73 (by decide) (by decide)
                clear hout hin
                exact relStep_move (.tmp 73) rfl (wanted_none rfl) (by show fr.tmps.getD 73 undef = _; rw [h73])
              · intro w9 hb9 fr hout hin
                have h5 : fr.tmps.getD 5 undef = .slice (some ⟨bb, oo, none⟩) n5 c5 := hout 5 (by decide)
                have h74 : fr.tmps.getD 74 undef = .bool false := hin 74 (by decide) (by decide)
                clear hout hin
                exact relStep_move (.tmp 5) rfl (wanted_some (g := 14) (t := 74) (b := false) rfl rfl h74) (by show fr.tmps.getD 5 undef = _; rw [h5])
              · intro w9 hb9 fr hout hin
                have h11 : fr.tmps.getD 11 undef = .slice (some ⟨g8, 0, none⟩) q c8 := hout 11 (by decide)
                have h74 : fr.tmps.getD 74 undef = .bool false := hin 74 (by decide) (by decide)
                clear hout hin
                exact relStep_move (.tmp 11) rfl (wanted_some (g := 14) (t := 74) (b := false) rfl rfl h74) (by show fr.tmps.getD 11 undef = _; rw [h11])
              · intro w9 hb9 fr hout hin
                have h12 : fr.tmps.getD 12 undef = .int .i64 (j : Nat) := hout 12 (by decide)
                have h74 : fr.tmps.getD 74 undef = .bool false := hin 74 (by decide) (by decide)
                clear hout hin
                exact relStep_move (.tmp 12) rfl (wanted_some (g := 14) (t := 74) (b := false) rfl rfl h74) (by show fr.tmps.getD 12 undef = _; rw [h12])
              · intro w9 hb9 fr hout hin
                have h76 : fr.tmps.getD 76 undef = .slice (some ⟨g8, 0, none⟩) q c8 := hin 76 (by decide) (by decide)
                have h77 : fr.tmps.getD 77 undef = .int .i64 (j : Nat) := hin 77 (by decide) (by decide)
                have h74 : fr.tmps.getD 74 undef = .bool false := hin 74 (by decide) (by decide)
                clear hout hin
                exact cb_idxI (.tmp 76) (.tmp 77) rfl HJ.out h76 h77 (wanted_some (g := 14) (t := 74) (b := false) rfl rfl h74) rfl
              · intro w9 hb9 fr hout hin
                have h78 : fr.tmps.getD 78 undef = .pointer (some ⟨g8, j, none⟩) := hin 78 (by decide) (by decide)
                have h74 : fr.tmps.getD 74 undef = .bool false := hin 74 (by decide) (by decide)
                clear hout hin
                exact cb_loadI (.tmp 78) rfl h78 ((hb9.cell (p := ⟨g8, j, none⟩) hg8).trans c8m) (wanted_some (g := 14) (t := 74) (b := false) rfl rfl h74) rfl
              · intro w9 hb9 fr hout hin
                have h75 : fr.tmps.getD 75 undef = .slice (some ⟨bb, oo, none⟩) n5 c5 := hin 75 (by decide) (by decide)
                have h79 : fr.tmps.getD 79 undef = .int .i64 (x : Nat) := hin 79 (by decide) (by decide)
                have h74 : fr.tmps.getD 74 undef = .bool false := hin 74 (by decide) (by decide)
                clear hout hin
                exact cb_idx8 (.tmp 75) (.tmp 79) rfl a2 h75 h79 (wanted_some (g := 14) (t := 74) (b := false) rfl rfl h74) rfl
              · intro w9 hb9 fr hout hin
                have h80 : fr.tmps.getD 80 undef = .pointer (some ⟨bb, oo + x, none⟩) := hin 80 (by decide) (by decide)
                have h74 : fr.tmps.getD 74 undef = .bool false := hin 74 (by decide) (by decide)
                clear hout hin
                exact cb_load8 (.tmp 80) rfl h80 ((hb9.cell (p := ⟨bb, oo + x, none⟩) hlt).trans hc1) (wanted_some (g := 14) (t := 74) (b := false) rfl rfl h74) rfl
              · intro w9 hb9 fr hout hin
                have h81 : fr.tmps.getD 81 undef = .int .u8 91 := hin 81 (by decide) (by decide)
                have h74 : fr.tmps.getD 74 undef = .bool false := hin 74 (by decide) (by decide)
                clear hout hin
                exact cd_bin .neq 5 (.tmp 81) (.const (.int .u8 91)) _ rfl h81 rfl (fun w => by go_simp) (fun w => by go_simp) (wanted_some (g := 14) (t := 74) (b := false) rfl rfl h74) rfl
              · intro w9 hb9 fr hout hin
                have h74 : fr.tmps.getD 74 undef = .bool false := hin 74 (by decide) (by decide)
                have h82 : fr.tmps.getD 82 undef = .bool false := hin 82 (by decide) (by decide)
                clear hout hin
                exact relStep_pickF (.tmp 74) (.const (.bool true)) (.tmp 82) rfl h74 (wanted_none rfl) (by show fr.tmps.getD 82 undef = _; rw [h82])
              · intro w9 hb9 fr hout hin
                have h83 : fr.tmps.getD 83 undef = .bool false := hin 83 (by decide) (by decide)
                clear hout hin
                exact relStep_move (.tmp 83) rfl (wanted_none rfl) (by show fr.tmps.getD 83 undef = _; rw [h83])
              · intro w9 hb9 fr hout hin
                have h12 : fr.tmps.getD 12 undef = .int .i64 (j : Nat) := hout 12 (by decide)
                have h84 : fr.tmps.getD 84 undef = .bool false := hin 84 (by decide) (by decide)
                clear hout hin
                exact relStep_move (.tmp 12) rfl (wanted_some (g := 24) (t := 84) (b := false) rfl rfl h84) (by show fr.tmps.getD 12 undef = _; rw [h12])
              · intro w9 hb9 fr hout hin
                have h85 : fr.tmps.getD 85 undef = .int .i64 (j : Nat) := hin 85 (by decide) (by decide)
                have h84 : fr.tmps.getD 84 undef = .bool false := hin 84 (by decide) (by decide)
                clear hout hin
                exact cd_bin .gtr 3 (.tmp 85) (.const (.int .i64 0)) _ rfl h85 rfl (fun w => by go_simp) (fun w => by go_simp) (wanted_some (g := 24) (t := 84) (b := false) rfl rfl h84) rfl
              · intro w9 hb9 fr hout hin
                have h86 : fr.tmps.getD 86 undef = .bool false := hin 86 (by decide) (by decide)
                have h84 : fr.tmps.getD 84 undef = .bool false := hin 84 (by decide) (by decide)
                clear hout hin
                exact relStep_move (.tmp 86) rfl (wanted_some (g := 24) (t := 84) (b := false) rfl rfl h84) (by show fr.tmps.getD 86 undef = _; rw [h86])
              · intro w9 hb9 fr hout hin
                have h87 : fr.tmps.getD 87 undef = .bool false := hin 87 (by decide) (by decide)
                clear hout hin
                exact relStep_skip (cb_not (g := 27) (t := 87) (b := true) rfl rfl h87 rfl) rfl
              · intro w9 hb9 fr hout hin
                have h87 : fr.tmps.getD 87 undef = .bool false := hin 87 (by decide) (by decide)
                clear hout hin
                exact relStep_skip (cb_not (g := 27) (t := 87) (b := true) rfl rfl h87 rfl) rfl
              · intro w9 hb9 fr hout hin
                have h87 : fr.tmps.getD 87 undef = .bool false := hin 87 (by decide) (by decide)
                clear hout hin
                exact relStep_skip (cb_not (g := 27) (t := 87) (b := true) rfl rfl h87 rfl) rfl
              · intro w9 hb9 fr hout hin
                have h87 : fr.tmps.getD 87 undef = .bool false := hin 87 (by decide) (by decide)
                clear hout hin
                exact relStep_skip (cb_not (g := 27) (t := 87) (b := true) rfl rfl h87 rfl) rfl
              · intro w9 hb9 fr hout hin
                have h87 : fr.tmps.getD 87 undef = .bool false := hin 87 (by decide) (by decide)
                clear hout hin
                exact relStep_skip (cb_not (g := 27) (t := 87) (b := true) rfl rfl h87 rfl) rfl
              · intro w9 hb9 fr hout hin
                have h87 : fr.tmps.getD 87 undef = .bool false := hin 87 (by decide) (by decide)
                clear hout hin
                exact relStep_skip (cb_not (g := 27) (t := 87) (b := true) rfl rfl h87 rfl) rfl
              · intro w9 hb9 fr hout hin
                have h87 : fr.tmps.getD 87 undef = .bool false := hin 87 (by decide) (by decide)
                clear hout hin
                exact relStep_skip (cb_not (g := 27) (t := 87) (b := true) rfl rfl h87 rfl) rfl
              · intro w9 hb9 fr hout hin
                have h87 : fr.tmps.getD 87 undef = .bool false := hin 87 (by decide) (by decide)
                clear hout hin
                exact relStep_skip (cb_not (g := 27) (t := 87) (b := true) rfl rfl h87 rfl) rfl
              · intro w9 hb9 fr hout hin
                have h87 : fr.tmps.getD 87 undef = .bool false := hin 87 (by decide) (by decide)
                clear hout hin
                exact relStep_skip (cb_not (g := 27) (t := 87) (b := true) rfl rfl h87 rfl) rfl
              · intro w9 hb9 fr hout hin
                have h87 : fr.tmps.getD 87 undef = .bool false := hin 87 (by decide) (by decide)
                clear hout hin
                exact relStep_skip (cb_not (g := 27) (t := 87) (b := true) rfl rfl h87 rfl) rfl
              · intro w9 hb9 fr hout hin
                have h87 : fr.tmps.getD 87 undef = .bool false := hin 87 (by decide) (by decide)
                have h84 : fr.tmps.getD 84 undef = .bool false := hin 84 (by decide) (by decide)
                clear hout hin
                exact relStep_pickF (.tmp 87) (.tmp 97) (.const (.bool false)) rfl h87 (wanted_some (g := 24) (t := 84) (b := false) rfl rfl h84) rfl
              · intro w9 hb9 fr hout hin
                have h84 : fr.tmps.getD 84 undef = .bool false := hin 84 (by decide) (by decide)
                have h98 : fr.tmps.getD 98 undef = .bool false := hin 98 (by decide) (by decide)
                clear hout hin
                exact relStep_pickF (.tmp 84) (.const (.bool true)) (.tmp 98) rfl h84 (wanted_none rfl) (by show fr.tmps.getD 98 undef = _; rw [h98])
            intro X9 hb9
            refine relAsk_in (by rfl) ?_
            intro v60 h60
            obtain rfl : v60 = .slice (some ⟨g8, 0, none⟩) q c8 := h60
            refine relAsk_in (by rfl) ?_
            intro v61 h61
            obtain rfl : v61 = .int .i64 (j : Nat) := h61
            refine relAsk_in (by rfl) ?_
            intro v62 h62
            obtain rfl : v62 = .pointer (some ⟨g8, j, none⟩) := h62
            refine relAsk_in (by rfl) ?_
            intro v63 h63
            obtain rfl : v63 = .int .i64 (x : Nat) := h63
            refine relAsk_in (by rfl) ?_
            intro v64 h64
            obtain rfl : v64 = .bool false := h64
            refine relAsk_in (by rfl) ?_
            intro v65 h65
            obtain rfl : v65 = .bool false := h65
            refine relAsk_in (by rfl) ?_
            intro v66 h66
            obtain rfl : v66 = .slice (some ⟨g8, 0, none⟩) q c8 := h66
            refine relAsk_in (by rfl) ?_
            intro v67 h67
            obtain rfl : v67 = .int .i64 (j : Nat) := h67
            refine relAsk_in (by rfl) ?_
            intro v68 h68
            obtain rfl : v68 = .pointer (some ⟨g8, j, none⟩) := h68
            refine relAsk_in (by rfl) ?_
            intro v69 h69
            obtain rfl : v69 = .int .i64 (x : Nat) := h69
            refine relAsk_in (by rfl) ?_
            intro v70 h70
            obtain rfl : v70 = .slice (some ⟨bb, oo, none⟩) n5 c5 := h70
            refine relAsk_in (by rfl) ?_
            intro v71 h71
            obtain rfl : v71 = .int .i64 (n5 : Nat) := h71
            refine relAsk_in (by rfl) ?_
            intro v72 h72
            obtain rfl : v72 = .bool false := h72
            refine relAsk_in (by rfl) ?_
            intro v73 h73
            obtain rfl : v73 = .bool false := h73
            refine relAsk_in (by rfl) ?_
            intro v74 h74
            obtain rfl : v74 = .bool false := h74
            refine relAsk_in (by rfl) ?_
            intro v75 h75
            obtain rfl : v75 = .slice (some ⟨bb, oo, none⟩) n5 c5 := h75
            refine relAsk_in (by rfl) ?_
            intro v76 h76
            obtain rfl : v76 = .slice (some ⟨g8, 0, none⟩) q c8 := h76
            refine relAsk_in (by rfl) ?_
            intro v77 h77
            obtain rfl : v77 = .int .i64 (j : Nat) := h77
            refine relAsk_in (by rfl) ?_
            intro v78 h78
            obtain rfl : v78 = .pointer (some ⟨g8, j, none⟩) := h78
            refine relAsk_in (by rfl) ?_
            intro v79 h79
            obtain rfl : v79 = .int .i64 (x : Nat) := h79
            refine relAsk_in (by rfl) ?_
            intro v80 h80
            obtain rfl : v80 = .pointer (some ⟨bb, oo + x, none⟩) := h80
            refine relAsk_in (by rfl) ?_
            intro v81 h81
            obtain rfl : v81 = .int .u8 91 := h81
            refine relAsk_in (by rfl) ?_
            intro v82 h82
            obtain rfl : v82 = .bool false := h82
            refine relAsk_in (by rfl) ?_
            intro v83 h83
            obtain rfl : v83 = .bool false := h83
            refine relAsk_in (by rfl) ?_
            intro v84 h84
            obtain rfl : v84 = .bool false := h84
            refine relAsk_in (by rfl) ?_
            intro v85 h85
            obtain rfl : v85 = .int .i64 (j : Nat) := h85
            refine relAsk_in (by rfl) ?_
            intro v86 h86
            obtain rfl : v86 = .bool false := h86
            refine relAsk_in (by rfl) ?_
            intro v87 h87
            obtain rfl : v87 = .bool false := h87
            refine relAsk_in (by rfl) ?_
            intro v88 h88
            obtain rfl : v88 = undef := h88
            refine relAsk_in (by rfl) ?_
            intro v89 h89
            obtain rfl : v89 = undef := h89
            refine relAsk_in (by rfl) ?_
            intro v90 h90
            obtain rfl : v90 = undef := h90
            refine relAsk_in (by rfl) ?_
            intro v91 h91
            obtain rfl : v91 = undef := h91
            refine relAsk_in (by rfl) ?_
            intro v92 h92
            obtain rfl : v92 = undef := h92
            refine relAsk_in (by rfl) ?_
            intro v93 h93
            obtain rfl : v93 = undef := h93
            refine relAsk_in (by rfl) ?_
            intro v94 h94
            obtain rfl : v94 = undef := h94
            refine relAsk_in (by rfl) ?_
            intro v95 h95
            obtain rfl : v95 = undef := h95
            refine relAsk_in (by rfl) ?_
            intro v96 h96
            obtain rfl : v96 = undef := h96
            refine relAsk_in (by rfl) ?_
            intro v97 h97
            obtain rfl : v97 = undef := h97
            refine relAsk_in (by rfl) ?_
            intro v98 h98
            obtain rfl : v98 = .bool false := h98
            refine relAsk_in (by rfl) ?_
            intro v99 h99
            obtain rfl : v99 = .bool false := h99
            refine relAsk_nil ?_
            refine wpList_nil ?_
            go_simp
            have HAT2 := Lib.hid (HAT.out.below hb9)
            have HBY2 := Lib.hid (HBY.out.below hb9)
            have HB2 := Lib.hid (HB.out.trans (hb9.mono HB.out.size))
            clear hb9 HAT HBY HB
            go_wp2_with fail
            go_roundw
            case rel => exact ⟨j + 1, by go_num, by have := HJ.out; omega, HAT2.out, HBY2.out, HB2.out⟩
            case measure => have := HJ.out; simp [intOf]; omega
          · obtain ⟨y, hy⟩ : ∃ y, P[j - 1]? = some y := ⟨_, List.getElem?_eq_getElem (by rw [← HQ.out]; omega)⟩
            obtain ⟨g9, e9, _, c9m⟩ := HAT.out (j - 1) y hy
            injection e9 with e9
            injection e9 with e9
            subst e9
            rw [Nat.zero_add] at c9m
            have hyx := hp3 y (by omega) hy
            obtain ⟨i, hi⟩ : ∃ i, i = j - 1 := ⟨_, rfl⟩
            rw [← hi] at c9m
            have wj : IntKind.i64.wrap ((j : Int) - 1) = (i : Int) := by rw [IntWalk.i64_in _ (by omega)]; omega
            have b1 : i < q := by omega
            have b2 : (0 : Int) < (j : Int) := by omega
            have b3 : ¬ (x : Int) ≤ (y : Int) := by omega
            have b4 : ¬ x ≤ y := by omega
            have b5 : 0 < j := by omega
            clear hx hy hp1 hp2 hp3 hc0 hcell hr e2 h1 hyx hi hj0
            go_upto_region 17 with (fail)
            refine wp_region_see 40 [60, 61, 62, 63, 64, 65, 66, 67, 68, 69, 70, 71, 72, 73, 74, 75, 76, 77, 78, 79, 80, 81, 82, 83, 84, 85, 86, 87, 88, 89, 90, 91, 92, 93, 94, 95, 96, 97, 98, 99] [(60, .is (.slice (some ⟨g8, 0, none⟩) q c8)), (61, .is (.int .i64 (j : Nat))), (62, .is (.pointer (some ⟨g8, j, none⟩))), (63, .is (.int .i64 (x : Nat))), (64, .is (.bool false)), (65, .is (.bool false)), (66, .is (.slice (some ⟨g8, 0, none⟩) q c8)), (67, .is (.int .i64 (j : Nat))), (68, .is (.pointer (some ⟨g8, j, none⟩))), (69, .is (.int .i64 (x : Nat))), (70, .is (.slice (some ⟨bb, oo, none⟩) n5 c5)), (71, .is (.int .i64 (n5 : Nat))), (72, .is (.bool false)), (73, .is (.bool false)), (74, .is (.bool false)), (75, .is (.slice (some ⟨bb, oo, none⟩) n5 c5)), (76, .is (.slice (some ⟨g8, 0, none⟩) q c8)), (77, .is (.int .i64 (j : Nat))), (78, .is (.pointer (some ⟨g8, j, none⟩))), (79, .is (.int .i64 (x : Nat))), (80, .is (.pointer (some ⟨bb, oo + x, none⟩))), (81, .is (.int .u8 91)), (82, .is (.bool false)), (83, .is (.bool false)), (84, .is (.bool false)), (85, .is (.int .i64 (j : Nat))), (86, .is (.bool true)), (87, .is (.bool true)), (88, .is (.slice (some ⟨g8, 0, none⟩) q c8)), (89, .is (.int .i64 (j : Nat))), (90, .is (.int .i64 (i : Nat))), (91, .is (.pointer (some ⟨g8, i, none⟩))), (92, .is (.int .i64 (y : Nat))), (93, .is (.slice (some ⟨g8, 0, none⟩) q c8)), (94, .is (.int .i64 (j : Nat))), (95, .is (.pointer (some ⟨g8, j, none⟩))), (96, .is (.int .i64 (x : Nat))), (97, .is (.bool false)), (98, .is (.bool false)), (99, .is (.bool false))] (by kernel_rfl) (by kernel_rfl) (by rfl) ?_ ?_
            · refine seeOps_cons ?_ (seeOps_cons ?_ (seeOps_cons ?_ (seeOps_cons ?_ (seeOps_cons ?_ (seeOps_cons ?_ (seeOps_cons ?_ (seeOps_cons ?_ (seeOps_cons ?_ (seeOps_cons ?_ (seeOps_cons ?_ (seeOps_cons ?_ (seeOps_cons ?_ (seeOps_cons ?_ (seeOps_cons ?_ (seeOps_cons ?_ (seeOps_cons ?_ (seeOps_cons ?_ (seeOps_cons ?_ (seeOps_cons ?_ (seeOps_cons ?_ (seeOps_cons ?_ (seeOps_cons ?_ (seeOps_cons ?_ (seeOps_cons ?_ (seeOps_cons ?_ (seeOps_cons ?_ (seeOps_cons ?_ (seeOps_cons ?_ (seeOps_cons ?_ (seeOps_cons ?_ (seeOps_cons ?_ (seeOps_cons ?_ (seeOps_cons ?_ (seeOps_cons ?_ (seeOps_cons ?_ (seeOps_cons ?_ (seeOps_cons ?_ (seeOps_cons ?_ (seeOps_cons ?_ seeOps_nil)))))))))))))))))))))))))))))))))))))))
              · intro w9 hb9 fr hout hin
                have h11 : fr.tmps.getD 11 undef = .slice (some ⟨g8, 0, none⟩) q c8 := hout 11 (by decide)
                clear hout hin
                exact relStep_move (.tmp 11) rfl (wanted_none rfl) (by show fr.tmps.getD 11 undef = _; rw [h11])
              · intro w9 hb9 fr hout hin
                have h12 : fr.tmps.getD 12 undef = .int .i64 (j : Nat) := hout 12 (by decide)
                clear hout hin
                exact relStep_move (.tmp 12) rfl (wanted_none rfl) (by show fr.tmps.getD 12 undef = _; rw [h12])
              · intro w9 hb9 fr hout hin
                have h60 : fr.tmps.getD 60 undef = .slice (some ⟨g8, 0, none⟩) q c8 := hin 60 (by decide) (by decide)
                have h61 : fr.tmps.getD 61 undef = .int .i64 (j : Nat) := hin 61 (by decide) (by decide)
                clear hout hin
                exact cb_idxI (.tmp 60) (.tmp 61) rfl HJ.out h60 h61 (wanted_none rfl) rfl
              · intro w9 hb9 fr hout hin
                have h62 : fr.tmps.getD 62 undef = .pointer (some ⟨g8, j, none⟩) := hin 62 (by decide) (by decide)
                clear hout hin
                exact cb_loadI (.tmp 62) rfl h62 ((hb9.cell (p := ⟨g8, j, none⟩) hg8).trans c8m) (wanted_none rfl) rfl
              · intro w9 hb9 fr hout hin
                have h63 : fr.tmps.getD 63 undef = .int .i64 (x : Nat) := hin 63 (by decide) (by decide)
                clear hout hin
                exact cd_bin .lss 3 (.tmp 63) (.const (.int .i64 0)) _ rfl h63 rfl (fun w => by go_simp) (fun w => by go_simp) (wanted_none rfl) rfl
              · intro w9 hb9 fr hout hin
                have h64 : fr.tmps.getD 64 undef = .bool false := hin 64 (by decide) (by decide)
                clear hout hin
                exact relStep_move (.tmp 64) rfl (wanted_none rfl) (by show fr.tmps.getD 64 undef = _; rw [h64])
              · intro w9 hb9 fr hout hin
                have h11 : fr.tmps.getD 11 undef = .slice (some ⟨g8, 0, none⟩) q c8 := hout 11 (by decide)
                have h65 : fr.tmps.getD 65 undef = .bool false := hin 65 (by decide) (by decide)
                clear hout hin
                exact relStep_move (.tmp 11) rfl (wanted_some (g := 5) (t := 65) (b := false) rfl rfl h65) (by show fr.tmps.getD 11 undef = _; rw [h11])
              · intro w9 hb9 fr hout hin
                have h12 : fr.tmps.getD 12 undef = .int .i64 (j : Nat) := hout 12 (by decide)
                have h65 : fr.tmps.getD 65 undef = .bool false := hin 65 (by decide) (by decide)
                clear hout hin
                exact relStep_move (.tmp 12) rfl (wanted_some (g := 5) (t := 65) (b := false) rfl rfl h65) (by show fr.tmps.getD 12 undef = _; rw [h12])
              · intro w9 hb9 fr hout hin
                have h66 : fr.tmps.getD 66 undef = .slice (some ⟨g8, 0, none⟩) q c8 := hin 66 (by decide) (by decide)
                have h67 : fr.tmps.getD 67 undef = .int .i64 (j : Nat) := hin 67 (by decide) (by decide)
                have h65 : fr.tmps.getD 65 undef = .bool false := hin 65 (by decide) (by decide)
                clear hout hin
                exact cb_idxI (.tmp 66) (.tmp 67) rfl HJ.out h66 h67 (wanted_some (g := 5) (t := 65) (b := false) rfl rfl h65) rfl
              · intro w9 hb9 fr hout hin
                have h68 : fr.tmps.getD 68 undef = .pointer (some ⟨g8, j, none⟩) := hin 68 (by decide) (by decide)
                have h65 : fr.tmps.getD 65 undef = .bool false := hin 65 (by decide) (by decide)
                clear hout hin
                exact cb_loadI (.tmp 68) rfl h68 ((hb9.cell (p := ⟨g8, j, none⟩) hg8).trans c8m) (wanted_some (g := 5) (t := 65) (b := false) rfl rfl h65) rfl
              · intro w9 hb9 fr hout hin
                have h5 : fr.tmps.getD 5 undef = .slice (some ⟨bb, oo, none⟩) n5 c5 := hout 5 (by decide)
                have h65 : fr.tmps.getD 65 undef = .bool false := hin 65 (by decide) (by decide)
                clear hout hin
                exact relStep_move (.tmp 5) rfl (wanted_some (g := 5) (t := 65) (b := false) rfl rfl h65) (by show fr.tmps.getD 5 undef = _; rw [h5])
              · intro w9 hb9 fr hout hin
                have h70 : fr.tmps.getD 70 undef = .slice (some ⟨bb, oo, none⟩) n5 c5 := hin 70 (by decide) (by decide)
                have h65 : fr.tmps.getD 65 undef = .bool false := hin 65 (by decide) (by decide)
                clear hout hin
                exact cb_len8 (.tmp 70) rfl h70 (wanted_some (g := 5) (t := 65) (b := false) rfl rfl h65) rfl
              · intro w9 hb9 fr hout hin
                have h69 : fr.tmps.getD 69 undef = .int .i64 (x : Nat) := hin 69 (by decide) (by decide)
                have h71 : fr.tmps.getD 71 undef = .int .i64 (n5 : Nat) := hin 71 (by decide) (by decide)
                have h65 : fr.tmps.getD 65 undef = .bool false := hin 65 (by decide) (by decide)
                clear hout hin
                exact cd_bin .geq 3 (.tmp 69) (.tmp 71) _ rfl h69 h71 (fun w => by go_simp) (fun w => by go_simp) (wanted_some (g := 5) (t := 65) (b := false) rfl rfl h65) rfl
              · intro w9 hb9 fr hout hin
                have h65 : fr.tmps.getD 65 undef = .bool false := hin 65 (by decide) (by decide)
                have h72 : fr.tmps.getD 72 undef = .bool false := hin 72 (by decide) (by decide)
                clear hout hin
                exact relStep_pickF (.tmp 65) (.const (.bool true)) (.tmp 72) rfl h65 (wanted_none rfl) (by show fr.tmps.getD 72 undef = _; rw [h72])
              · intro w9 hb9 fr hout hin
                have h73 : fr.tmps.getD 73 undef = .bool false := hin 73 (by decide) (by decide)
                clear hout hin
                exact relStep_move (.tmp 73) rfl (wanted_none rfl) (by show fr.tmps.getD 73 undef = _; rw [h73])
              · intro w9 hb9 fr hout hin
                have h5 : fr.tmps.getD 5 undef = .slice (some ⟨bb, oo, none⟩) n5 c5 := hout 5 (by decide)
                have h74 : fr.tmps.getD 74 undef = .bool false := hin 74 (by decide) (by decide)
                clear hout hin
                exact relStep_move (.tmp 5) rfl (wanted_some (g := 14) (t := 74) (b := false) rfl rfl h74) (by show fr.tmps.getD 5 undef = _; rw [h5])
              · intro w9 hb9 fr hout hin
                have h11 : fr.tmps.getD 11 undef = .slice (some ⟨g8, 0, none⟩) q c8 := hout 11 (by decide)
                have h74 : fr.tmps.getD 74 undef = .bool false := hin 74 (by decide) (by decide)
                clear hout hin
                exact relStep_move (.tmp 11) rfl (wanted_some (g := 14) (t := 74) (b := false) rfl rfl h74) (by show fr.tmps.getD 11 undef = _; rw [h11])
              · intro w9 hb9 fr hout hin
                have h12 : fr.tmps.getD 12 undef = .int .i64 (j : Nat) := hout 12 (by decide)
                have h74 : fr.tmps.getD 74 undef = .bool false := hin 74 (by decide) (by decide)
                clear hout hin
                exact relStep_move (.tmp 12) rfl (wanted_some (g := 14) (t := 74) (b := false) rfl rfl h74) (by show fr.tmps.getD 12 undef = _; rw [h12])
              · intro w9 hb9 fr hout hin
                have h76 : fr.tmps.getD 76 undef = .slice (some ⟨g8, 0, none⟩) q c8 := hin 76 (by decide) (by decide)
                have h77 : fr.tmps.getD 77 undef = .int .i64 (j : Nat) := hin 77 (by decide) (by decide)
                have h74 : fr.tmps.getD 74 undef = .bool false := hin 74 (by decide) (by decide)
                clear hout hin
                exact cb_idxI (.tmp 76) (.tmp 77) rfl HJ.out h76 h77 (wanted_some (g := 14) (t := 74) (b := false) rfl rfl h74) rfl
              · intro w9 hb9 fr hout hin
                have h78 : fr.tmps.getD 78 undef = .pointer (some ⟨g8, j, none⟩) := hin 78 (by decide) (by decide)
                have h74 : fr.tmps.getD 74 undef = .bool false := hin 74 (by decide) (by decide)
                clear hout hin
                exact cb_loadI (.tmp 78) rfl h78 ((hb9.cell (p := ⟨g8, j, none⟩) hg8).trans c8m) (wanted_some (g := 14) (t := 74) (b := false) rfl rfl h74) rfl
              · intro w9 hb9 fr hout hin
                have h75 : fr.tmps.getD 75 undef = .slice (some ⟨bb, oo, none⟩) n5 c5 := hin 75 (by decide) (by decide)
                have h79 : fr.tmps.getD 79 undef = .int .i64 (x : Nat) := hin 79 (by decide) (by decide)
                have h74 : fr.tmps.getD 74 undef = .bool false := hin 74 (by decide) (by decide)
                clear hout hin
                exact cb_idx8 (.tmp 75) (.tmp 79) rfl a2 h75 h79 (wanted_some (g := 14) (t := 74) (b := false) rfl rfl h74) rfl
              · intro w9 hb9 fr hout hin
                have h80 : fr.tmps.getD 80 undef = .pointer (some ⟨bb, oo + x, none⟩) := hin 80 (by decide) (by decide)
                have h74 : fr.tmps.getD 74 undef = .bool false := hin 74 (by decide) (by decide)
                clear hout hin
                exact cb_load8 (.tmp 80) rfl h80 ((hb9.cell (p := ⟨bb, oo + x, none⟩) hlt).trans hc1) (wanted_some (g := 14) (t := 74) (b := false) rfl rfl h74) rfl
              · intro w9 hb9 fr hout hin
                have h81 : fr.tmps.getD 81 undef = .int .u8 91 := hin 81 (by decide) (by decide)
                have h74 : fr.tmps.getD 74 undef = .bool false := hin 74 (by decide) (by decide)
                clear hout hin
                exact cd_bin .neq 5 (.tmp 81) (.const (.int .u8 91)) _ rfl h81 rfl (fun w => by go_simp) (fun w => by go_simp) (wanted_some (g := 14) (t := 74) (b := false) rfl rfl h74) rfl
              · intro w9 hb9 fr hout hin
                have h74 : fr.tmps.getD 74 undef = .bool false := hin 74 (by decide) (by decide)
                have h82 : fr.tmps.getD 82 undef = .bool false := hin 82 (by decide) (by decide)
                clear hout hin
                exact relStep_pickF (.tmp 74) (.const (.bool true)) (.tmp 82) rfl h74 (wanted_none rfl) (by show fr.tmps.getD 82 undef = _; rw [h82])
              · intro w9 hb9 fr hout hin
                have h83 : fr.tmps.getD 83 undef = .bool false := hin 83 (by decide) (by decide)
                clear hout hin
                exact relStep_move (.tmp 83) rfl (wanted_none rfl) (by show fr.tmps.getD 83 undef = _; rw [h83])
              · intro w9 hb9 fr hout hin
                have h12 : fr.tmps.getD 12 undef = .int .i64 (j : Nat) := hout 12 (by decide)
                have h84 : fr.tmps.getD 84 undef = .bool false := hin 84 (by decide) (by decide)
                clear hout hin
                exact relStep_move (.tmp 12) rfl (wanted_some (g := 24) (t := 84) (b := false) rfl rfl h84) (by show fr.tmps.getD 12 undef = _; rw [h12])
              · intro w9 hb9 fr hout hin
                have h85 : fr.tmps.getD 85 undef = .int .i64 (j : Nat) := hin 85 (by decide) (by decide)
                have h84 : fr.tmps.getD 84 undef = .bool false := hin 84 (by decide) (by decide)
                clear hout hin
                exact cd_bin .gtr 3 (.tmp 85) (.const (.int .i64 0)) _ rfl h85 rfl (fun w => by go_simp) (fun w => by go_simp) (wanted_some (g := 24) (t := 84) (b := false) rfl rfl h84) rfl
              · intro w9 hb9 fr hout hin
                have h86 : fr.tmps.getD 86 undef = .bool true := hin 86 (by decide) (by decide)
                have h84 : fr.tmps.getD 84 undef = .bool false := hin 84 (by decide) (by decide)
                clear hout hin
                exact relStep_move (.tmp 86) rfl (wanted_some (g := 24) (t := 84) (b := false) rfl rfl h84) (by show fr.tmps.getD 86 undef = _; rw [h86])
              · intro w9 hb9 fr hout hin
                have h11 : fr.tmps.getD 11 undef = .slice (some ⟨g8, 0, none⟩) q c8 := hout 11 (by decide)
                have h87 : fr.tmps.getD 87 undef = .bool true := hin 87 (by decide) (by decide)
                clear hout hin
                exact relStep_move (.tmp 11) rfl (wanted_some (g := 27) (t := 87) (b := true) rfl rfl h87) (by show fr.tmps.getD 11 undef = _; rw [h11])
              · intro w9 hb9 fr hout hin
                have h12 : fr.tmps.getD 12 undef = .int .i64 (j : Nat) := hout 12 (by decide)
                have h87 : fr.tmps.getD 87 undef = .bool true := hin 87 (by decide) (by decide)
                clear hout hin
                exact relStep_move (.tmp 12) rfl (wanted_some (g := 27) (t := 87) (b := true) rfl rfl h87) (by show fr.tmps.getD 12 undef = _; rw [h12])
              · intro w9 hb9 fr hout hin
                have h89 : fr.tmps.getD 89 undef = .int .i64 (j : Nat) := hin 89 (by decide) (by decide)
                have h87 : fr.tmps.getD 87 undef = .bool true := hin 87 (by decide) (by decide)
                clear hout hin
                exact cd_bin .sub 3 (.tmp 89) (.const (.int .i64 1)) _ rfl h89 rfl (fun w => by go_simp) (fun w => by go_simp) (wanted_some (g := 27) (t := 87) (b := true) rfl rfl h87) rfl
              · intro w9 hb9 fr hout hin
                have h88 : fr.tmps.getD 88 undef = .slice (some ⟨g8, 0, none⟩) q c8 := hin 88 (by decide) (by decide)
                have h90 : fr.tmps.getD 90 undef = .int .i64 (i : Nat) := hin 90 (by decide) (by decide)
                have h87 : fr.tmps.getD 87 undef = .bool true := hin 87 (by decide) (by decide)
                clear hout hin
                exact cb_idxI (.tmp 88) (.tmp 90) rfl b1 h88 h90 (wanted_some (g := 27) (t := 87) (b := true) rfl rfl h87) rfl
              · intro w9 hb9 fr hout hin
                have h91 : fr.tmps.getD 91 undef = .pointer (some ⟨g8, i, none⟩) := hin 91 (by decide) (by decide)
                have h87 : fr.tmps.getD 87 undef = .bool true := hin 87 (by decide) (by decide)
                clear hout hin
                exact cb_loadI (.tmp 91) rfl h91 ((hb9.cell (p := ⟨g8, i, none⟩) hg8).trans c9m) (wanted_some (g := 27) (t := 87) (b := true) rfl rfl h87) rfl
              · intro w9 hb9 fr hout hin
                have h11 : fr.tmps.getD 11 undef = .slice (some ⟨g8, 0, none⟩) q c8 := hout 11 (by decide)
                have h87 : fr.tmps.getD 87 undef = .bool true := hin 87 (by decide) (by decide)
                clear hout hin
                exact relStep_move (.tmp 11) rfl (wanted_some (g := 27) (t := 87) (b := true) rfl rfl h87) (by show fr.tmps.getD 11 undef = _; rw [h11])
              · intro w9 hb9 fr hout hin
                have h12 : fr.tmps.getD 12 undef = .int .i64 (j : Nat) := hout 12 (by decide)
                have h87 : fr.tmps.getD 87 undef = .bool true := hin 87 (by decide) (by decide)
                clear hout hin
                exact relStep_move (.tmp 12) rfl (wanted_some (g := 27) (t := 87) (b := true) rfl rfl h87) (by show fr.tmps.getD 12 undef = _; rw [h12])
              · intro w9 hb9 fr hout hin
                have h93 : fr.tmps.getD 93 undef = .slice (some ⟨g8, 0, none⟩) q c8 := hin 93 (by decide) (by decide)
                have h94 : fr.tmps.getD 94 undef = .int .i64 (j : Nat) := hin 94 (by decide) (by decide)
                have h87 : fr.tmps.getD 87 undef = .bool true := hin 87 (by decide) (by decide)
                clear hout hin
                exact cb_idxI (.tmp 93) (.tmp 94) rfl HJ.out h93 h94 (wanted_some (g := 27) (t := 87) (b := true) rfl rfl h87) rfl
              · intro w9 hb9 fr hout hin
                have h95 : fr.tmps.getD 95 undef = .pointer (some ⟨g8, j, none⟩) := hin 95 (by decide) (by decide)
                have h87 : fr.tmps.getD 87 undef = .bool true := hin 87 (by decide) (by decide)
                clear hout hin
                exact cb_loadI (.tmp 95) rfl h95 ((hb9.cell (p := ⟨g8, j, none⟩) hg8).trans c8m) (wanted_some (g := 27) (t := 87) (b := true) rfl rfl h87) rfl
              · intro w9 hb9 fr hout hin
                have h92 : fr.tmps.getD 92 undef = .int .i64 (y : Nat) := hin 92 (by decide) (by decide)
                have h96 : fr.tmps.getD 96 undef = .int .i64 (x : Nat) := hin 96 (by decide) (by decide)
                have h87 : fr.tmps.getD 87 undef = .bool true := hin 87 (by decide) (by decide)
                clear hout hin
                exact cd_bin .geq 3 (.tmp 92) (.tmp 96) _ rfl h92 h96 (fun w => by go_simp) (fun w => by go_simp) (wanted_some (g := 27) (t := 87) (b := true) rfl rfl h87) rfl
              · intro w9 hb9 fr hout hin
                have h87 : fr.tmps.getD 87 undef = .bool true := hin 87 (by decide) (by decide)
                have h97 : fr.tmps.getD 97 undef = .bool false := hin 97 (by decide) (by decide)
                have h84 : fr.tmps.getD 84 undef = .bool false := hin 84 (by decide) (by decide)
                clear hout hin
                exact relStep_pick (.tmp 87) (.tmp 97) (.const (.bool false)) rfl h87 (wanted_some (g := 24) (t := 84) (b := false) rfl rfl h84) (by show fr.tmps.getD 97 undef = _; rw [h97])
              · intro w9 hb9 fr hout hin
                have h84 : fr.tmps.getD 84 undef = .bool false := hin 84 (by decide) (by decide)
                have h98 : fr.tmps.getD 98 undef = .bool false := hin 98 (by decide) (by decide)
                clear hout hin
                exact relStep_pickF (.tmp 84) (.const (.bool true)) (.tmp 98) rfl h84 (wanted_none rfl) (by show fr.tmps.getD 98 undef = _; rw [h98])
            intro X9 hb9
            refine relAsk_in (by rfl) ?_
            intro v60 h60
            obtain rfl : v60 = .slice (some ⟨g8, 0, none⟩) q c8 := h60
            refine relAsk_in (by rfl) ?_
            intro v61 h61
            obtain rfl : v61 = .int .i64 (j : Nat) := h61
            refine relAsk_in (by rfl) ?_
            intro v62 h62
            obtain rfl : v62 = .pointer (some ⟨g8, j, none⟩) := h62
            refine relAsk_in (by rfl) ?_
            intro v63 h63
            obtain rfl : v63 = .int .i64 (x : Nat) := h63
            refine relAsk_in (by rfl) ?_
            intro v64 h64
            obtain rfl : v64 = .bool false := h64
            refine relAsk_in (by rfl) ?_
            intro v65 h65
            obtain rfl : v65 = .bool false := h65
            refine relAsk_in (by rfl) ?_
            intro v66 h66
            obtain rfl : v66 = .slice (some ⟨g8, 0, none⟩) q c8 := h66
            refine relAsk_in (by rfl) ?_
            intro v67 h67
            obtain rfl : v67 = .int .i64 (j : Nat) := h67
            refine relAsk_in (by rfl) ?_
            intro v68 h68
            obtain rfl : v68 = .pointer (some ⟨g8, j, none⟩) := h68
            refine relAsk_in (by rfl) ?_
            intro v69 h69
            obtain rfl : v69 = .int .i64 (x : Nat) := h69
            refine relAsk_in (by rfl) ?_
            intro v70 h70
            obtain rfl : v70 = .slice (some ⟨bb, oo, none⟩) n5 c5 := h70
            refine relAsk_in (by rfl) ?_
            intro v71 h71
            obtain rfl : v71 = .int .i64 (n5 : Nat) := h71
            refine relAsk_in (by rfl) ?_
            intro v72 h72
            obtain rfl : v72 = .bool false := h72
            refine relAsk_in (by rfl) ?_
            intro v73 h73
            obtain rfl : v73 = .bool false := h73
            refine relAsk_in (by rfl) ?_
            intro v74 h74
            obtain rfl : v74 = .bool false := h74
            refine relAsk_in (by rfl) ?_
            intro v75 h75
            obtain rfl : v75 = .slice (some ⟨bb, oo, none⟩) n5 c5 := h75
            refine relAsk_in (by rfl) ?_
            intro v76 h76
            obtain rfl : v76 = .slice (some ⟨g8, 0, none⟩) q c8 := h76
            refine relAsk_in (by rfl) ?_
            intro v77 h77
            obtain rfl : v77 = .int .i64 (j : Nat) := h77
            refine relAsk_in (by rfl) ?_
            intro v78 h78
            obtain rfl : v78 = .pointer (some ⟨g8, j, none⟩) := h78
            refine relAsk_in (by rfl) ?_
            intro v79 h79
            obtain rfl : v79 = .int .i64 (x : Nat) := h79
            refine relAsk_in (by rfl) ?_
            intro v80 h80
            obtain rfl : v80 = .pointer (some ⟨bb, oo + x, none⟩) := h80
            refine relAsk_in (by rfl) ?_
            intro v81 h81
            obtain rfl : v81 = .int .u8 91 := h81
            refine relAsk_in (by rfl) ?_
            intro v82 h82
            obtain rfl : v82 = .bool false := h82
            refine relAsk_in (by rfl) ?_
            intro v83 h83
            obtain rfl : v83 = .bool false := h83
            refine relAsk_in (by rfl) ?_
            intro v84 h84
            obtain rfl : v84 = .bool false := h84
            refine relAsk_in (by rfl) ?_
            intro v85 h85
            obtain rfl : v85 = .int .i64 (j : Nat) := h85
            refine relAsk_in (by rfl) ?_
            intro v86 h86
            obtain rfl : v86 = .bool true := h86
            refine relAsk_in (by rfl) ?_
            intro v87 h87
            obtain rfl : v87 = .bool true := h87
            refine relAsk_in (by rfl) ?_
            intro v88 h88
            obtain rfl : v88 = .slice (some ⟨g8, 0, none⟩) q c8 := h88
            refine relAsk_in (by rfl) ?_
            intro v89 h89
            obtain rfl : v89 = .int .i64 (j : Nat) := h89
            refine relAsk_in (by rfl) ?_
            intro v90 h90
            obtain rfl : v90 = .int .i64 (i : Nat) := h90
            refine relAsk_in (by rfl) ?_
            intro v91 h91
            obtain rfl : v91 = .pointer (some ⟨g8, i, none⟩) := h91
            refine relAsk_in (by rfl) ?_
            intro v92 h92
            obtain rfl : v92 = .int .i64 (y : Nat) := h92
            refine relAsk_in (by rfl) ?_
            intro v93 h93
            obtain rfl : v93 = .slice (some ⟨g8, 0, none⟩) q c8 := h93
            refine relAsk_in (by rfl) ?_
            intro v94 h94
            obtain rfl : v94 = .int .i64 (j : Nat) := h94
            refine relAsk_in (by rfl) ?_
            intro v95 h95
            obtain rfl : v95 = .pointer (some ⟨g8, j, none⟩) := h95
            refine relAsk_in (by rfl) ?_
            intro v96 h96
            obtain rfl : v96 = .int .i64 (x : Nat) := h96
            refine relAsk_in (by rfl) ?_
            intro v97 h97
            obtain rfl : v97 = .bool false := h97
            refine relAsk_in (by rfl) ?_
            intro v98 h98
            obtain rfl : v98 = .bool false := h98
            refine relAsk_in (by rfl) ?_
            intro v99 h99
            obtain rfl : v99 = .bool false := h99
            refine relAsk_nil ?_
            refine wpList_nil ?_
            go_simp
            have HAT2 := Lib.hid (HAT.out.below hb9)
            have HBY2 := Lib.hid (HBY.out.below hb9)
            have HB2 := Lib.hid (HB.out.trans (hb9.mono HB.out.size))
            clear hb9 HAT HBY HB
            go_wp2_with fail
            go_roundw
            case rel => exact ⟨j + 1, by go_num, by have := HJ.out; omega, HAT2.out, HBY2.out, HB2.out⟩
            case measure => have := HJ.out; simp [intOf]; omega
        · have h1i : ¬ (j : Int) < (q : Int) := by omega
          go_wp2_with fail
          (with_reducible refine (KW.out _).mono ?_)
          rintro e w8 ⟨rfl, hb8⟩
          have HB8 := Lib.hid (HB.out.trans (hb8.mono HB.out.size))
          clear hb8 HB KW
          go_wp2_with fail
          exact bodyPost_ret (v := .bool true) (by simp [results, Tryd.results6, go_sem]) rfl ⟨rfl, HB8.out⟩
end Go.Proofs.YtopeahjdglkheaaDoor
