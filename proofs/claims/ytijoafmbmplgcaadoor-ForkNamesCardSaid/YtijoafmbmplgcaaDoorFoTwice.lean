/- Package fork: anyTwice: a set of addresses by a map. -/
import Derived.Test.YtijoafmbmplgcaaDoorFoSorted
import Derived.Maps.OwnSet
import Derived.Laws.CopyOwn
import Derived.Laws.Rows
import Derived.Great.BuildSlice
import Derived.DeepKeys4
import Derived.Deep.MidRow
import Derived.WalkKit
namespace Go.Proofs.YtijoafmbmplgcaaDoor
open Go.RowKit Go.Maps Go.WideMaps

theorem fkLaidOut : laidOutB Tryd.prog = true := by kernel_rfl
theorem fkRowAd : (27 : TypeId) < Tryd.prog.types.size := of_decide_eq_true (by kernel_rfl)
theorem fkWideAd : (match Tryd.prog.underlying 27 with | some (.array _ _) | some (.struct _) => true | _ => false) = true := by rw [Tryd.underlying27]
theorem lawAd : Keyed Tryd.prog 27 := Keyed.of_law (deep_law_laid fkLaidOut (m := 2) (by omega) fkRowAd (by kernel_rfl) fkWideAd)
theorem keyTypeAd : Tryd.prog.keyType 27 = true := by kernel_rfl
theorem cellsAd : Tryd.prog.cellsOf 27 = 20 := by kernel_rfl
theorem cellsU8 : Tryd.prog.cellsOf 5 = 1 := by kernel_rfl

theorem mapM_of {α β : Type} (f : α → Option β) (g : α → β) : ∀ l : List α, (∀ x ∈ l, f x = some (g x)) → l.mapM f = some (l.map g)
  | [], _ => rfl
  | x :: r, h => by
    rw [List.mapM_cons, h x (by simp), mapM_of f g r fun y hy => h y (by simp [hy])]
    rfl
theorem flat_ones {α β : Type} (h : α → β) : ∀ l : List α, (l.map fun i => [h i]).flatten = l.map h
  | [] => rfl
  | x :: r => by simp [flat_ones h r]
theorem range_map {α : Type} (h : Nat → α) (xs : List Nat) (n : Nat) (hn : xs.length = n) : (List.range n).map (fun i => h (xs.getD i 0)) = xs.map h := by
  refine List.ext_getElem (by simp [hn]) fun i h1 h2 => ?_
  rw [List.length_map] at h2
  rw [List.getElem_map, List.getElem_map, List.getElem_range, List.getD_eq_getElem?_getD, List.getElem?_eq_getElem h2]
  rfl
/-- What an address reads as, as a key. -/
def litAd (bs : List Nat) : Lit := .string (keyBytes (bs.map fun n : Nat => Lit.int .u8 (n : Int)))
theorem keyLits_ad {d : Nat} {bs : List Nat} (hl : bs.length = 20) (hd : Ds 256 bs) : Tryd.prog.keyLits (d + 2) 27 (bs.map fun n : Nat => Value.int .u8 (n : Int)) = some (bs.map fun n : Nat => Lit.int .u8 (n : Int)) := by
  have one : ∀ i, i < 20 → Tryd.prog.keyLits (d + 1) 5 (((bs.map fun n : Nat => Value.int .u8 (n : Int)).drop (i * 1)).take 1) = some [Lit.int .u8 ((bs.getD i 0 : Nat) : Int)] := fun i hi => by
    have e : ((bs.map fun n : Nat => Value.int .u8 (n : Int)).drop (i * 1)).take 1 = [Value.int .u8 ((bs.getD i 0 : Nat) : Int)] := by
      rw [Nat.mul_one, List.drop_eq_getElem_cons (by simp [hl, hi]), List.take_succ_cons, List.take_zero, List.getElem_map, List.getD_eq_getElem?_getD, List.getElem?_eq_getElem (by omega)]
      rfl
    have hb : bs.getD i 0 < 256 := hd.get (by omega) _
    have hw : (Lit.int .u8 ((bs.getD i 0 : Nat) : Int)).wf = true := by
      have h1 : IntKind.u8.min = 0 := rfl
      have h2 : IntKind.u8.max = 255 := rfl
      simp only [Lit.wf, Bool.and_eq_true, decide_eq_true_eq]
      omega
    rw [e]
    unfold Program.keyLits
    rw [Tryd.underlying5]
    simp only [hw, and_self, if_true]
  unfold Program.keyLits
  rw [Tryd.underlying27]
  simp only [List.length_map, hl, cellsAd, cellsU8, if_true]
  rw [mapM_of _ (fun i => [Lit.int .u8 ((bs.getD i 0 : Nat) : Int)]) _ fun i hi => one i (by simpa using hi)]
  simp only [Option.map_some]
  rw [flat_ones (fun i => Lit.int .u8 ((bs.getD i 0 : Nat) : Int)), range_map (fun n : Nat => Lit.int .u8 (n : Int)) bs 20 hl]
theorem keyOf_ad {bs : List Nat} (hl : bs.length = 20) (hd : Ds 256 bs) : keyOf Tryd.prog 27 (.agg (AdC bs)) = some (litAd bs) := by
  unfold keyOf
  rw [Tryd.underlying27]
  have hf : (Value.agg (AdC bs)).formed Tryd.prog 27 = true := by simp [Value.formed, Tryd.underlying27, cellsAd, hl]
  obtain ⟨d, hd2⟩ : ∃ d, Tryd.prog.types.size + 1 = d + 2 := by
    have h0 : 0 < Tryd.prog.types.size := Nat.lt_of_le_of_lt (Nat.zero_le _) fkRowAd
    generalize Tryd.prog.types.size = n at h0 ⊢
    exact ⟨n - 1, by omega⟩
  simp only [keyTypeAd, hf, Bool.and_self, if_true]
  rw [hd2]
  show Option.map _ (Tryd.prog.keyLits (d + 2) 27 (AdC bs).toList) = _
  rw [show (AdC bs).toList = bs.map fun n : Nat => Value.int .u8 (n : Int) by simp, keyLits_ad hl hd]
  rfl
theorem AdC_inj {xs ys : List Nat} (h : AdC xs = AdC ys) : xs = ys := by
  have h2 : (xs.map fun n : Nat => Value.int .u8 (n : Int)) = ys.map fun n : Nat => Value.int .u8 (n : Int) := by
    have := congrArg Array.toList h
    simpa using this
  exact (List.map_inj_right (fun a b hab => by injection hab with _ e; omega)).1 h2
theorem litAd_inj {xs ys : List Nat} (hx : xs.length = 20) (hy : ys.length = 20) (dx : Ds 256 xs) (dy : Ds 256 ys) (h : litAd xs = litAd ys) : xs = ys := by
  have e := lawAd.inj (keyOf_ad hx dx) (by rw [h]; exact keyOf_ad hy dy)
  injection e with e
  exact AdC_inj e

open Classical in
theorem addKey_eq {acc : List Lit} {x : Lit} (hx : WideAt.IsKeyLit x) : addKey acc x = if x ∈ acc then acc else acc ++ [x] := by
  unfold addKey
  have e : (acc.any fun y => y.sameKey x) = decide (x ∈ acc) := by
    rw [Bool.eq_iff_iff, List.any_eq_true, decide_eq_true_eq]
    constructor
    · rintro ⟨y, hy, hs⟩
      rw [(WideAt.sameKey_iff hx).1 hs] at hy; exact hy
    · intro h; exact ⟨x, h, (WideAt.sameKey_iff hx).2 rfl⟩
  rw [e]
  by_cases h : x ∈ acc
  · rw [decide_eq_true h, if_pos h, if_pos rfl]
  · rw [decide_eq_false h, if_neg h, if_neg (by decide)]
open Classical in
theorem fold_size : ∀ (L acc : List Lit), (∀ x ∈ L, WideAt.IsKeyLit x) → (L.foldl addKey acc).length ≤ acc.length + L.length ∧ ((L.foldl addKey acc).length = acc.length + L.length ↔ L.Nodup ∧ ∀ x ∈ L, x ∉ acc)
  | [], acc, _ => by simp
  | x :: r, acc, h => by
    have hx := h x (by simp)
    have hr : ∀ y ∈ r, WideAt.IsKeyLit y := fun y hy => h y (by simp [hy])
    rw [List.foldl_cons, addKey_eq hx]
    by_cases hm : x ∈ acc
    · rw [if_pos hm]
      obtain ⟨h1, h2⟩ := fold_size r acc hr
      refine ⟨by simp; omega, ⟨fun e => ?_, fun e => absurd hm (e.2 x (by simp))⟩⟩
      simp at e
      omega
    · rw [if_neg hm]
      obtain ⟨h1, h2⟩ := fold_size r (acc ++ [x]) hr
      simp only [List.length_append, List.length_cons, List.length_nil] at h1 h2 ⊢
      refine ⟨by omega, ?_⟩
      rw [show acc.length + (r.length + 1) = acc.length + (0 + 1) + r.length by omega, h2]
      constructor
      · rintro ⟨n1, n2⟩
        refine ⟨List.nodup_cons.2 ⟨fun hxr => n2 x hxr (by simp), n1⟩, fun y hy => ?_⟩
        rcases List.mem_cons.1 hy with rfl | hy
        · exact hm
        · exact fun hya => n2 y hy (by simp [hya])
      · rintro ⟨n1, n2⟩
        obtain ⟨m1, m2⟩ := List.nodup_cons.1 n1
        refine ⟨m2, fun y hy hya => ?_⟩
        rcases List.mem_append.1 hya with hya | hya
        · exact n2 y (by simp [hy]) hya
        · simp at hya
          subst hya
          exact m1 hy
/-- Does one stand twice? -/
def Twice (fs : List (List Nat)) : Prop := ∃ i k, k < i ∧ i < fs.length ∧ fs.getD i [] = fs.getD k []
open Classical in
theorem twice_iff {fs : List (List Nat)} (h : ∀ x ∈ fs, x.length = 20 ∧ Ds 256 x) : size (setOf (H := Unit) (.agg []) (fs.map litAd)) < fs.length ↔ Twice fs := by
  have hk : ∀ x ∈ fs.map litAd, WideAt.IsKeyLit x := fun x hx => by
    obtain ⟨y, _, rfl⟩ := List.mem_map.1 hx
    trivial
  rw [size_setOf _ _ hk]
  obtain ⟨h1, h2⟩ := fold_size (fs.map litAd) [] hk
  simp only [List.length_nil, Nat.zero_add, List.length_map] at h1 h2
  have h3 : (fs.map litAd).Nodup ↔ ¬ Twice fs := by
    unfold List.Nodup
    rw [List.pairwise_iff_getElem]
    constructor
    · rintro hn ⟨i, k, hki, hi, he⟩
      refine hn k i (by simp; omega) (by simpa using hi) hki ?_
      rw [List.getElem_map, List.getElem_map]
      rw [List.getD_eq_getElem?_getD, List.getElem?_eq_getElem hi, List.getD_eq_getElem?_getD, List.getElem?_eq_getElem (by omega)] at he
      exact congrArg litAd he.symm
    · intro hn i j hi hj hij he
      rw [List.length_map] at hi hj
      rw [List.getElem_map, List.getElem_map] at he
      refine hn ⟨j, i, hij, hj, ?_⟩
      rw [List.getD_eq_getElem?_getD, List.getElem?_eq_getElem hj, List.getD_eq_getElem?_getD, List.getElem?_eq_getElem hi]
      have x1 := h _ (List.getElem_mem hi)
      have x2 := h _ (List.getElem_mem hj)
      exact (litAd_inj x1.1 x2.1 x1.2 x2.2 he).symm
  constructor
  · intro hlt
    refine Classical.byContradiction fun hn => ?_
    have := h2.2 ⟨h3.2 hn, fun x _ => by simp⟩
    omega
  · intro ht
    refine Nat.lt_of_le_of_ne h1 fun e => ?_
    exact (h3.1 (h2.1 e).1) ht

theorem _root_.Go.World.ownsMap.below {w v : World} {P : Program} {k : TypeId} {R : Value → Option (DataW Unit × List MemPlace)} {b n B : Nat} {D : DataW Unit} (h : w.ownsMap P k R b n D) (hb : Below B w v) (hB : b < B) : v.ownsMap P k R b n D := by
  obtain ⟨es, clock, h1, h2⟩ := h
  exact ⟨es, clock, by rw [hb.block b hB]; exact h1, h2⟩
theorem ads_at {w : World} {b o : Nat} {sp : Option Nat} {fs : List (List Nat)} {i : Nat} {x : List Nat} (h : AdsAt w (some ⟨b, o, sp⟩) fs) (hx : fs[i]? = some x) : sp = none ∧ b < w.heap.size ∧ x.length = 20 ∧ w.rangeAt b (o + i * 20) (x.map fun n : Nat => Value.int .u8 (n : Int)) := h i x hx
/-- The set of the first k. -/
def seenZ (fs : List (List Nat)) (k : Nat) : DataW Unit := setOf (.agg []) ((fs.take k).map litAd)
theorem seenZ_succ {fs : List (List Nat)} {k : Nat} {x : List Nat} (h : fs[k]? = some x) : seenZ fs (k + 1) = (seenZ fs k).put (litAd x) (.agg []) := by
  unfold seenZ
  rw [List.take_add_one, h, List.map_append]
  exact setOf_snoc _ _ _
theorem seenZ_all (fs : List (List Nat)) : seenZ fs fs.length = setOf (.agg []) (fs.map litAd) := by unfold seenZ; rw [List.take_length]

set_option maxRecDepth 100000 in
set_option maxHeartbeats 6400000 in
theorem twice_c {A : Option Addr} {c : Nat} {fs : List (List Nat)} (w : World) (hf : AdsAt w A fs) (hd : ∀ x ∈ fs, x.length = 20 ∧ Ds 256 x) (hn : fs.length ≤ 1000) :
    Calls Tryd.prog 27 #[.slice A fs.length c] w fun e w' => ∃ b : Bool, e = .returned (.bool b) ∧ (b = true ↔ Twice fs) ∧ Below w.heap.size w w' := by
  have HT := Lib.hid (twice_iff hd)
  have HD := Lib.hid hd
  have HF := Lib.hid hf
  obtain ⟨n, hnn⟩ : ∃ n, n = fs.length := ⟨_, rfl⟩
  have HSA := Lib.hid (seenZ_all fs)
  rw [← hnn] at hn HSA ⊢
  have HNN := Lib.hid hnn
  clear hf hd hnn
  have hmm : ∀ (m : Int) w, (Instr.makeMap 76 (some (.int .i64 m))).run Tryd.prog w = .ok (.map (some w.heap.size)) (w.alloc (.map #[] 0)) := fun m w => by
    unfold Instr.makeMap
    simp [run_underlying Tryd.underlying76, Result.andThen, asInt, asIntOf, go_sem]
  have HM : Hid ((w.alloc (.map #[] 0)).ownsMap Tryd.prog 27 (unitElem (H := Unit)) w.heap.size 0 (seenZ fs 0)) := World.ownsMap_made _ _ _ _
  have HB := Lib.hid ((Below.refl w.heap.size w).alloc (Nat.le_refl _) (.map #[] 0))
  have HF1 := Lib.hid (HF.out.below (HB.out.mono (Nat.le_refl _)))
  go_enter Tryd.func27, Tryd.ntmps27
  go_wp2_with fail
  clear hmm
  go_loopw [11] (fun a wr => ∃ (m : Nat), a = .int .i64 (m : Int) ∧ m ≤ n ∧ Hid (wr.ownsMap Tryd.prog 27 (unitElem (H := Unit)) w.heap.size m (seenZ fs m)) ∧ Hid (Below w.heap.size w wr))
    (fun a _ => n - (intOf a).toNat)
  case atStart => exact ⟨0, rfl, Nat.zero_le _, HM.out, HB.out⟩
  case round =>
    clear HM HB HF1
    obtain ⟨m, rfl, hm, hown, hb⟩ := hrel
    by_cases h0 : m < n
    · obtain ⟨x, hx⟩ : ∃ x, fs[m]? = some x := ⟨_, List.getElem?_eq_getElem (by rw [← HNN.out]; exact h0)⟩
      have hfw := HF.out.below hb.out
      cases A with
      | none =>
        have h : fs = [] := hfw
        rw [h] at hx
        simp at hx
      | some ad =>
        obtain ⟨b, o, sp⟩ := ad
        obtain ⟨rfl, hbl, lx, rx⟩ := ads_at hfw hx
        have dx := (HD.out x (List.mem_of_getElem? hx)).2
        have HKEY := Lib.hid (keyOf_ad lx dx)
        have HS := Lib.hid (seenZ_succ hx)
        have HSZ : Hid ((Tryd.prog.info? 27).map (·.size) = some (x.map fun n : Nat => Value.int .u8 (n : Int)).length) := by show _ = _; rw [infoAd, List.length_map, lx]
        have HSZ2 : Hid ((Tryd.prog.info? 27).map (·.size) = some (AdC x).size) := by show _ = _; rw [infoAd]; simp [lx]
        have HONE : Hid ((AdC x).all (·.oneCell') = true) := by show _ = _; simp [Value.oneCell']
        have HCS : Hid ((AdC x).size = 20) := by show _ = _; simp [lx]
        have HRX := Lib.hid rx
        have HOWN := hown
        clear hx hfw lx rx dx
        go_upto_region 4 with (fail)
        refine wp_region_lit ?_
        refine wpList_plain rfl fun K hK => ?_; go_simp; refine hK _ _ ?_; clear hK K
        refine wpList_load_mid rfl 27 (.tmp 13) rfl b (o + m * 20) rfl _ _ HRX.out Tryd.underlying27 rfl HSZ.out ?_
        show wpList _ _ _ _ (Act.put _ _ (.agg (AdC x))) _
        generalize AdC x = X at *
        go_simp
        refine wpList_plain rfl fun K hK => ?_; go_simp; refine hK _ _ ?_; clear hK K
        have hg : (wr.alloc (.cells #[.int .u8 0, .int .u8 0, .int .u8 0, .int .u8 0, .int .u8 0, .int .u8 0, .int .u8 0, .int .u8 0, .int .u8 0, .int .u8 0, .int .u8 0, .int .u8 0, .int .u8 0, .int .u8 0, .int .u8 0, .int .u8 0, .int .u8 0, .int .u8 0, .int .u8 0, .int .u8 0] 27)).heap[wr.heap.size]? = some (.cells #[.int .u8 0, .int .u8 0, .int .u8 0, .int .u8 0, .int .u8 0, .int .u8 0, .int .u8 0, .int .u8 0, .int .u8 0, .int .u8 0, .int .u8 0, .int .u8 0, .int .u8 0, .int .u8 0, .int .u8 0, .int .u8 0, .int .u8 0, .int .u8 0, .int .u8 0, .int .u8 0] 27 (0, 0)) := heap_alloc_new wr _
        have hb1 : Below wr.heap.size wr (wr.alloc (.cells #[.int .u8 0, .int .u8 0, .int .u8 0, .int .u8 0, .int .u8 0, .int .u8 0, .int .u8 0, .int .u8 0, .int .u8 0, .int .u8 0, .int .u8 0, .int .u8 0, .int .u8 0, .int .u8 0, .int .u8 0, .int .u8 0, .int .u8 0, .int .u8 0, .int .u8 0, .int .u8 0] 27)) := (Below.refl _ _).alloc (Nat.le_refl _) _
        refine wpList_store_row rfl 27 (.tmp 5) (.tmp 14) rfl wr.heap.size X rfl rfl 27 #[.int .u8 0, .int .u8 0, .int .u8 0, .int .u8 0, .int .u8 0, .int .u8 0, .int .u8 0, .int .u8 0, .int .u8 0, .int .u8 0, .int .u8 0, .int .u8 0, .int .u8 0, .int .u8 0, .int .u8 0, .int .u8 0, .int .u8 0, .int .u8 0, .int .u8 0, .int .u8 0] hg HSZ2.out (by rw [HCS.out]; rfl) HONE.out ?_
        have hg2 := setRow_heap (wr.alloc (.cells #[.int .u8 0, .int .u8 0, .int .u8 0, .int .u8 0, .int .u8 0, .int .u8 0, .int .u8 0, .int .u8 0, .int .u8 0, .int .u8 0, .int .u8 0, .int .u8 0, .int .u8 0, .int .u8 0, .int .u8 0, .int .u8 0, .int .u8 0, .int .u8 0, .int .u8 0, .int .u8 0] 27)) wr.heap.size _ X 27 (0, 0) hg
        have hb2 := below_setRow hb1 (Nat.le_refl wr.heap.size) X
        show wpList _ _ _ _ _ ((wr.alloc (.cells #[.int .u8 0, .int .u8 0, .int .u8 0, .int .u8 0, .int .u8 0, .int .u8 0, .int .u8 0, .int .u8 0, .int .u8 0, .int .u8 0, .int .u8 0, .int .u8 0, .int .u8 0, .int .u8 0, .int .u8 0, .int .u8 0, .int .u8 0, .int .u8 0, .int .u8 0, .int .u8 0] 27)).setRow wr.heap.size X)
        generalize (wr.alloc (.cells #[.int .u8 0, .int .u8 0, .int .u8 0, .int .u8 0, .int .u8 0, .int .u8 0, .int .u8 0, .int .u8 0, .int .u8 0, .int .u8 0, .int .u8 0, .int .u8 0, .int .u8 0, .int .u8 0, .int .u8 0, .int .u8 0, .int .u8 0, .int .u8 0, .int .u8 0, .int .u8 0] 27)).setRow wr.heap.size X = Y at *
        have hown2 := hown.out.below hb2 hown.out.lt
        have HOWN2 := Lib.hid hown2
        have HG2 := Lib.hid hg2
        have HB2 := Lib.hid (hb.out.trans (hb2.mono hb.out.size))
        clear hg hb1 hg2 hb2 hown2 hown hb HRX HSZ HONE HCS
        refine wpList_nil ?_
        go_simp
        go_upto_region 5 with (fail)
        refine wp_region_lit ?_
        refine wpList_plain rfl fun K hK => ?_; go_simp; refine hK _ _ ?_; clear hK K
        refine wpList_load_row rfl 27 (.tmp 5) rfl wr.heap.size rfl 27 X (0, 0) _ HG2.out Tryd.underlying27 rfl HSZ2.out ?_
        go_simp
        refine wpList_buildTo rfl 77 _ rfl (some 17) rfl #[] (by kernel_rfl) ?_
        refine wpList_mapUpdate_own _ rfl _ _ _ 76 rfl 27 77 lawAd Tryd.underlying76 (unitElem (H := Unit)) w.heap.size m _ rfl HOWN2.out (by unfold maxLen; omega) (.agg X) (.agg #[]) _ rfl rfl HKEY.out _ [] unitElem_mk ?_
        intro w1 hown1 hgrow1
        rw [← HS.out] at hown1
        have HOWN3 := Lib.hid hown1
        have HB3 := Lib.hid (HB2.out.grown hgrow1 HB2.out.size (fun j hj => by cases hj; exact Nat.le_refl _))
        clear hown1 hgrow1 HOWN2 HB2 HG2 HSZ2 HKEY HS
        refine wpList_nil ?_
        go_simp
        go_wp2_with fail
        go_roundw
        case rel => exact ⟨m + 1, by go_num, by omega, HOWN3.out, HB3.out⟩
        case measure => simp [intOf]; omega
    · obtain rfl : m = n := by omega
      have HSZ : Hid (size (seenZ fs m) ≤ m) := hown.out.size_le
      have HOWN := Lib.hid hown.out
      have HB := Lib.hid hb.out
      have HTW : Hid (size (seenZ fs m) < m ↔ Twice fs) := by
        show _ ↔ _
        rw [HSA.out, ← HT.out, ← HNN.out]
      clear hown hb
      go_wp2_with (first
        | (at_len; refine wpList_len_own _ rfl _ 76 rfl 27 77 Tryd.underlying76 _ w.heap.size m _ rfl HOWN.out ?_)
        | fail)
      go_ret
      exact ⟨_, rfl, by rw [decide_eq_true_eq]; exact HTW.out, HB.out⟩
end Go.Proofs.YtijoafmbmplgcaaDoor
