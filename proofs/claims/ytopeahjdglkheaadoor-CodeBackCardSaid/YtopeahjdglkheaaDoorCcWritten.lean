/- Package code: written: the bytes that a line stands for, of the lines that List writes. -/
import Derived.Test.YtopeahjdglkheaaDoorCcName
import Derived.Maps.OwnSet
import Derived.Maps.OwnOps
import Derived.Maps.Keyed
import Derived.Maps.Views
import Derived.Test.YtopeahjdglkheaaDoorCdPieces
import Derived.Test.YtopeahjdglkheaaDoorOwn8
import Derived.Test.YtopeahjdglkheaaDoorCdJumps
import Derived.Maps.AppendAt
import Derived.Laws.OwnMore
import Derived.Laws.AppendOwnNone
import Derived.Test.YtopeahjdglkheaaDoorCdApi
import Derived.Test.YtopeahjdglkheaaDoorCdApiL
import Derived.Test.YtopeahjdglkheaaDoorHBytes
namespace Go.Proofs.YtopeahjdglkheaaDoor
open Go.RowKit Go.Maps Go.WideShapes Go.ChangeMaps

/-- The first m operations that are there, by their names, as a map reads. -/
def knownD (f : Int) : Nat → DataW Unit
  | 0 => .map []
  | m + 1 => if opZ f m = true then (knownD f m).put (.string (nameZ f m).data.toList) (.lit (.int .i64 (m : Nat))) else knownD f m
theorem knownD_map (f : Int) : ∀ m, IsMap (knownD f m)
  | 0 => isMap_empty
  | m + 1 => by
    rw [knownD]
    split
    · exact (knownD_map f m).put _ _
    · exact knownD_map f m
theorem toList_inj {x y : ByteArray} (h : x.data.toList = y.data.toList) : x = y := ByteArray.ext (Array.toList_inj.1 h)
theorem keyLit (l : List UInt8) : WideAt.IsKeyLit (.string l) := trivial
theorem wf64 {n : Nat} (h : n < 256) : (Lit.int .i64 (n : Nat)).wf = true := by
  have h1 : IntKind.i64.min = -9223372036854775808 := rfl
  have h2 : IntKind.i64.max = 9223372036854775807 := rfl
  simp only [Lit.wf, Bool.and_eq_true, decide_eq_true_eq]
  omega
theorem knownD_at {f : Int} {n : Nat} (h : opZ f n = true) : ∀ m, n < m → (∀ z, (knownD f m).atKey (.string (nameZ f n).data.toList) z = .lit (.int .i64 (n : Nat))) ∧ has (knownD f m) (.string (nameZ f n).data.toList) = true
  | 0, hn => by omega
  | m + 1, hn => by
    rw [knownD]
    by_cases hm : n = m
    · subst hm
      rw [if_pos h]
      exact ⟨fun z => atKey_put_same (knownD_map f n) (keyLit _) _ z, has_put_same (knownD_map f n) (keyLit _) _⟩
    · have ih := knownD_at h m (by omega)
      split
      · rename_i h2
        have hne : (Lit.string (nameZ f n).data.toList) ≠ .string (nameZ f m).data.toList := fun e => by
          injection e with e
          exact nameZ_inj h2 (show n < m by omega) (toList_inj e)
        exact ⟨fun z => by rw [atKey_put_other hne]; exact ih.1 z, by rw [has_put_other hne]; exact ih.2⟩
      · exact ih
theorem keyOf_st {s : ByteArray} (hs : s.size ≤ maxLen) : keyOf Tryd.prog 9 (.string s) = some (.string s.data.toList) := by
  rw [keyOf_string Tryd.underlying9]
  simp [mapKey, hs]
theorem strKeyed : Keyed Tryd.prog 9 := string_keyed Tryd.underlying9
/-- The map of the operations' names lies in block b. -/
def KnownAt (w : World) (b : Nat) (f : Int) : Prop := w.ownsMap Tryd.prog 9 (plainElem (H := Unit) Tryd.prog 3) b 256 (knownD f 256)
theorem mapB {w v : World} {P : Program} {k : TypeId} {R : Value → Option (DataW Unit × List MemPlace)} {b n B : Nat} {D : DataW Unit} (h : w.ownsMap P k R b n D) (hb : Below B w v) (hB : b < B) : v.ownsMap P k R b n D := by
  obtain ⟨es, clock, h1, h2⟩ := h
  exact ⟨es, clock, by rw [hb.block b hB]; exact h1, h2⟩

set_option maxRecDepth 100000 in
set_option maxHeartbeats 6400000 in
theorem names_c (f : Int) (w : World) : Calls Tryd.prog 39 #[.int .i64 f] w fun e w' => ∃ b, e = .returned (.map (some b)) ∧ KnownAt w' b f ∧ Below w.heap.size w w' := by
  have hmm : ∀ (m : Int) w, (Instr.makeMap 69 (some (.int .i64 m))).run Tryd.prog w = .ok (.map (some w.heap.size)) (w.alloc (.map #[] 0)) := fun m w => by
    unfold Instr.makeMap
    simp [run_underlying Tryd.underlying69, Result.andThen, asInt, asIntOf, go_sem]
  have HM : Hid ((w.alloc (.map #[] 0)).ownsMap Tryd.prog 9 (plainElem (H := Unit) Tryd.prog 3) w.heap.size 0 (knownD f 0)) := World.ownsMap_made _ _ _ _
  have HB := Lib.hid ((Below.refl w.heap.size w).alloc (Nat.le_refl _) (.map #[] 0))
  go_enter Tryd.func39, Tryd.ntmps39
  go_wp2_with fail
  clear hmm
  go_loopw [4, 6] (fun _ a wr => ∃ (m : Nat), a = .int .i64 (m : Int) ∧ m ≤ 256 ∧ Hid (wr.ownsMap Tryd.prog 9 (plainElem (H := Unit) Tryd.prog 3) w.heap.size m (knownD f m)) ∧ Hid (Below w.heap.size w wr)) (fun _ a _ => 256 - (intOf a).toNat)
  case atStart => exact ⟨0, rfl, Nat.zero_le _, HM.out, HB.out⟩
  case round =>
    clear HM HB
    obtain ⟨m, rfl, hm, hown, hb⟩ := hrel
    by_cases h0 : m < 256
    · have KT := there_c f m
      have hks : knownD f (m + 1) = if opZ f m = true then (knownD f m).put (.string (nameZ f m).data.toList) (.lit (.int .i64 (m : Nat))) else knownD f m := by rw [knownD]
      have hns := nameZ_size f m
      have KN := Lib.hid (fun u => pname_c f m u)
      obtain ⟨x, hx⟩ : ∃ x, x = nameZ f m := ⟨_, rfl⟩
      obtain ⟨o, ho⟩ : ∃ o, o = opZ f m := ⟨_, rfl⟩
      rw [← ho] at KT hks
      rw [← hx] at KN hks hns
      clear hx ho
      cases o with
      | false =>
        have KT := Lib.hid KT
        rw [if_neg (by decide)] at hks
        rw [← hks] at hown
        clear KN hks hns
        go_wp2_with fail
        (with_reducible refine (KT.out _).mono ?_)
        rintro e w2 ⟨rfl, rfl⟩
        clear KT
        go_wp2_with fail
        go_roundw
        case rel => exact ⟨m + 1, by go_num, by omega, hown.out.mono (by omega), hb⟩
        case measure => simp [intOf]; omega
      | true =>
        have KT := Lib.hid KT
        rw [if_pos rfl] at hks
        have HKS := Lib.hid hks
        have HKEY := Lib.hid (keyOf_st (s := x) (by unfold maxLen; omega))
        have HVAL : Hid (plainElem (H := Unit) Tryd.prog 3 (.int .i64 (m : Nat)) = some (.lit (.int .i64 (m : Nat)), [])) := plainElem_int Tryd.underlying3 (wf64 h0)
        clear hks hns
        go_wp2_with fail
        (with_reducible refine (KT.out _).mono ?_)
        rintro e w2 ⟨rfl, rfl⟩
        clear KT
        go_wp2_with fail
        (with_reducible refine (KN.out _).mono ?_)
        rintro e w3 ⟨rfl, hb2⟩
        have HB2 := Lib.hid (hb.out.trans (hb2.mono hb.out.size))
        have HOWN2 := Lib.hid (mapB hown.out hb2 hown.out.lt)
        clear KN hb2 hown
        go_wp2_with (refine wpList_mapUpdate_own _ rfl _ _ _ 69 rfl 9 3 strKeyed Tryd.underlying69 (plainElem (H := Unit) Tryd.prog 3) w.heap.size m _ rfl HOWN2.out (by unfold maxLen; omega) (.string x) (.int .i64 (m : Nat)) _ rfl rfl HKEY.out _ [] HVAL.out ?_; intro w4 hown1 hgrow1; rw [← HKS.out] at hown1; have HOWN3 := Lib.hid hown1; have HB3 := Lib.hid (HB2.out.grown hgrow1 HB2.out.size (fun j hj => by cases hj; exact Nat.le_refl _)); clear hown1 hgrow1 HOWN2 HB2)
        go_roundw
        case rel => exact ⟨m + 1, by go_num, by omega, HOWN3.out, HB3.out⟩
        case measure => simp [intOf]; omega
    · obtain rfl : m = 256 := by omega
      have HOWN := Lib.hid hown.out
      have HB := Lib.hid hb.out
      clear hown hb
      go_wp2_with fail
      go_ret
      exact ⟨_, rfl, HOWN.out, HB.out⟩
end Go.Proofs.YtopeahjdglkheaaDoor
namespace Go.Proofs.YtopeahjdglkheaaDoor
open Go.RowKit

set_option maxRecDepth 100000 in
set_option maxHeartbeats 6400000 in
theorem cdigits_c (s : ByteArray) (hs : s.size ≤ 1073741824) (hd : ∀ c ∈ s.data.toList, 48 ≤ c.toNat ∧ c.toNat ≤ 57) (w : World) : Calls Tryd.prog 54 #[.string s] w (RetV (.bool true) w) := by
  have h1 : (w.alloc (.stringIter s 0)).heap[w.heap.size]? = some (.stringIter s 0) := by simpa using heap_alloc_new w (.stringIter s 0)
  have HI : Hid ((w.alloc (.stringIter s 0)).heap[w.heap.size]? = some (.stringIter s 0) ∧ Below w.heap.size w (w.alloc (.stringIter s 0))) := ⟨h1, (Below.refl w.heap.size w).alloc (Nat.le_refl _) (.stringIter s 0)⟩
  have HD := Lib.hid hd
  have HS := Lib.hid hs
  clear h1 hd hs
  go_enter Tryd.func54, Tryd.ntmps54
  go_wp2_with fail
  go_loopw [4] (fun _ wr => ∃ (pos : Nat), Hid (pos ≤ s.size ∧ wr.heap[w.heap.size]? = some (.stringIter s pos) ∧ Below w.heap.size w wr)) (fun _ wr => itLeft w.heap.size wr)
  case atStart => exact ⟨0, Nat.zero_le _, HI.out⟩
  case round =>
    clear HI
    obtain ⟨pos, hI⟩ := hrel
    have hit := hI.out.2.1
    by_cases hp : pos < s.size
    · have hnx : ∀ ty, (Instr.next (.pointer (some ⟨w.heap.size, 0, none⟩)) true ty).run Tryd.prog wr = _ := fun ty => Lib.run_next_any_at wr w.heap.size s pos ty hit hp
      have hit2 := Lib.iterAt_heap wr w.heap.size s pos (pos + (Utf8.decode s pos).2) hit
      have hbel2 := Lib.below_iterAt hI.out.2.2 (k := w.heap.size) (Nat.le_refl _) s (pos + (Utf8.decode s pos).2)
      have hm := itLeft_at hit
      have hpl : pos < s.data.toList.length := by rw [Array.length_toList]; exact hp
      have hsp : s.data.toList = s.data.toList.take pos ++ s.data.toList[pos] :: s.data.toList.drop (pos + 1) := by
        rw [← List.drop_eq_getElem_cons hpl, List.take_append_drop]
      have hc := HD.out _ (List.getElem_mem hpl)
      obtain ⟨c, hcc⟩ : ∃ c, c = s.data.toList[pos] := ⟨_, rfl⟩
      rw [← hcc] at hsp hc
      have hdec := (dec1 (p := s.data.toList.take pos) hsp (by omega)).2
      rw [List.length_take, Nat.min_eq_left (by omega)] at hdec
      rw [hdec] at hnx hit2 hbel2
      obtain ⟨W, hW⟩ : ∃ W, W = wr.iterAt w.heap.size s (pos + (c.toNat, 1).2) := ⟨_, rfl⟩
      rw [← hW] at hnx hit2 hbel2
      dsimp only at hnx hit2 hbel2
      obtain ⟨r, hr⟩ : ∃ r, r = c.toNat := ⟨_, rfl⟩
      rw [← hr] at hnx hc
      have k1 : ¬ (r : Int) < 48 := by omega
      have k2 : ¬ (57 : Int) < (r : Int) := by omega
      have HIT := Lib.hid hit2
      have HBL := Lib.hid hbel2
      have HM := Lib.hid hm
      have HP := Lib.hid hp
      have hp1 : (pos : Int) < (s.size : Int) := by omega
      clear hit2 hbel2 hm hpl hsp hcc hdec hW hr hc hI hit hp
      go_wp2_with fail
      have hm2 := itLeft_at HIT.out
      exact ⟨⟨pos + 1, by have := HP.out; omega, HIT.out, HBL.out⟩, by rw [hm2, HM.out]; have := HP.out; omega⟩
    · have hnx : ∀ ty, (Instr.next (.pointer (some ⟨w.heap.size, 0, none⟩)) true ty).run Tryd.prog wr = _ := fun ty => Lib.run_next_end_at wr w.heap.size s pos ty hit hp
      have HBL := Lib.hid hI.out.2.2
      clear hI hit
      go_wp2_with fail
      go_ret
      exact ⟨rfl, HBL.out⟩
end Go.Proofs.YtopeahjdglkheaaDoor
namespace Go.Proofs.YtopeahjdglkheaaDoor
open Go.RowKit

section
variable {w : World} {base : Nat} {v : Value}
theorem cc_nil_empty {k : IntKind} {c : Nat} {bs : List Nat} (h : Rd k w none c bs) : bs = [] ∧ c = 0 := by
  refine ⟨?_, h.cap rfl⟩
  rcases Nat.eq_zero_or_pos bs.length with h0 | h0
  · exact List.eq_nil_of_length_eq_zero h0
  · obtain ⟨_, _, e, _⟩ := h.at_ h0; cases e
theorem cc_append_rd (t' : TypeId) {bs : List Nat} (hown : Acc w base v bs) {A : Option Addr} {c : Nat} {news : List Nat} (hr : Rd .u8 w A c news) (hn : bs.length + news.length ≤ 140737488355328) (hb : base ≤ w.heap.size) :
    ∃ v' w', (Builtin.append_ #[31, 31] t' #[v, .slice A news.length c]).run Tryd.prog w = .ok v' w' ∧ Acc w' base v' (bs ++ news) ∧ w.grownBy w' v.ownBlock ∧ (v'.ownBlock = v.ownBlock ∨ v'.ownBlock = some w.heap.size) := by
  obtain ⟨i0, hi, hz0, hz1, hz2⟩ := info_parts info8
  rcases A with _ | ad
  · obtain ⟨rfl, rfl⟩ := cc_nil_empty hr
    exact ⟨v, w, run_append_owned_none (P := Tryd.prog) (w := w) base 31 t' 5 i0 1 Tryd.underlying31 hi v _ _ hown, by simpa using hown, ⟨rfl, rfl, rfl, Nat.le_refl _, fun _ _ _ => rfl⟩, .inl rfl⟩
  · obtain ⟨v', w', h1, h2, h3, _, h5⟩ := run_append_own_at (P := Tryd.prog) w base 31 t' 5 i0 (.int .u8 0) 1 1 Tryd.underlying31 hi hz0 hz1 hz2 rfl (by decide) v _ _ hown ad news.length c (bv news) (by rw [bv_length, Nat.mul_one]) (Rd.news hr) (bv_one _) (by unfold maxLen; omega) (by omega) hb
    refine ⟨v', w', h1, ?_, h3, h5⟩
    unfold Acc
    rw [List.length_append, bv_append]
    exact h2
end
/-- A new slice of one byte is one's own. -/
theorem acc_one (w : World) (n : Nat) : Acc (w.alloc (.cells #[.int .u8 (n : Nat)] 5)) w.heap.size (.slice (some ⟨w.heap.size, 0, none⟩) 1 1) [n] :=
  Acc.of_row (bs := [n]) (g := w.heap.size) (heap_alloc_new w _) (Nat.le_refl _) (by simp)
end Go.Proofs.YtopeahjdglkheaaDoor
namespace Go.Proofs.YtopeahjdglkheaaDoor
open Go.RowKit Go.Maps

/-- What written tells of a line that is one. -/
def WrR (bs : List Nat) (ms : Nat) (w : World) (e : Ending) (w' : World) : Prop := ∃ v, e = .returned (.tuple #[v, .int .i64 (ms : Nat), .bool true]) ∧ Acc w' w.heap.size v bs ∧ Below w.heap.size w w'
theorem inv_apart : ∀ late : Bool, ∀ n : Nat, n < 256 → opFirst n ≠ 99 → encB (rowN late n).1 ≠ encB ⟨#[73, 78, 86, 65, 76, 73, 68]⟩ := by decide +kernel
theorem nameZ_inv {f : Int} {n : Nat} (h : opZ f n = true) : nameZ f n ≠ ⟨#[73, 78, 86, 65, 76, 73, 68]⟩ := fun e => by
  obtain ⟨h0, _, h2⟩ := opZ_there h
  have e2 : nameZ f n = (rowN (decide (13 ≤ f)) n).1 := by unfold nameZ; rw [if_pos h]; rfl
  exact inv_apart _ n (by omega) h0 (by rw [← e2, e])

set_option maxRecDepth 100000 in
set_option maxHeartbeats 6400000 in
theorem written_inv (f : Int) {M c b : Nat} {A : Option Addr} {D X : ByteArray} (w : World) (hP : SsAt w A [D, ⟨#[73, 78, 86, 65, 76, 73, 68]⟩, X]) (hD : ∀ c ∈ D.data.toList, 48 ≤ c.toNat ∧ c.toNat ≤ 57) (hs : D.size ≤ 1073741824) (hX : X.size ≤ 140737488355328) (hr : bres X = ([b], 0, 0)) (hb : b < 256) (ho : opZ f b = false) :
    Calls Tryd.prog 42 #[.int .i64 f, .map (some M), .slice A 3 c] w (WrR [b] 0 w) := by
  obtain ⟨g, rfl, hg, c0⟩ := hP 0 _ rfl
  obtain ⟨g1, e1, _, c1⟩ := hP 1 _ rfl
  obtain ⟨g2, e2, _, c2⟩ := hP 2 _ rfl
  injection e1 with e1
  injection e1 with e1
  injection e2 with e2
  injection e2 with e2
  subst e1 e2
  rw [Nat.zero_add] at c0 c1 c2
  have KD := Lib.hid (fun u => cdigits_c D hs hD u)
  have kB := fun u => bytes_h X u hX
  rw [hr] at kB
  have KB := Lib.hid kB
  have KT : Hid (∀ u, Calls Tryd.prog 28 #[.int .i64 f, .int .i64 (b : Nat)] u fun e w' => e = .returned (.bool false) ∧ w' = u) := fun u => by have h := there_c f b u; rw [ho] at h; exact h
  have HB256 := Lib.hid hb
  have wb : IntKind.i64.wrap (b : Int) = (b : Int) := IntWalk.i64_in _ (by omega)
  have HC0 := Lib.hid c0
  have HC1 := Lib.hid c1
  have HC2 := Lib.hid c2
  have HG := Lib.hid hg
  have HWB := Lib.hid wb
  clear hP hD hs hX hr hb ho kB c1 c2 wb
  go_enter Tryd.func42, Tryd.ntmps42
  go_wp2_with fail
  (with_reducible refine (KD.out _).mono ?_)
  rintro e w1 ⟨rfl, hb1⟩
  have HB1 := Lib.hid hb1
  have c1 := (hb1.cell (p := ⟨g, 1, none⟩) hg).trans HC1.out
  have c2 := (hb1.cell (p := ⟨g, 2, none⟩) hg).trans HC2.out
  clear hb1 KD c0
  go_wp2_with fail
  (with_reducible refine (KB.out _).mono ?_)
  rintro e w2 ⟨v, rfl, hacc, hb2⟩
  have c1 := (hb2.cell (p := ⟨g, 1, none⟩) (Nat.lt_of_lt_of_le hg HB1.out.size)).trans c1
  obtain ⟨A2, n2, rfl⟩ := hacc.form
  obtain ⟨bb, oo, rfl, hlt, hcell⟩ := hacc.rd.at_ (by simp)
  have cb := hcell 0 (by simp)
  rw [Nat.add_zero, show [b].getD 0 0 = b from rfl] at cb
  have HAC := Lib.hid (hacc.mono HB1.out.size)
  have HB2 := Lib.hid (HB1.out.trans (hb2.mono HB1.out.size))
  have hg2 : g < w2.heap.size := Nat.lt_of_lt_of_le hg HB2.out.size
  have hf2 := heap_alloc_new w2 (.cells #[.int .i64 0, .int .i64 0] 44)
  obtain ⟨d0, d1, g0, g1⟩ := two_cells hf2
  have cb := (Below.cell ((Below.refl w2.heap.size w2).alloc (Nat.le_refl _) (.cells #[.int .i64 0, .int .i64 0] 44)) (p := ⟨bb, oo, none⟩) hlt).trans cb
  have c1 := (Below.cell ((Below.refl w2.heap.size w2).alloc (Nat.le_refl _) (.cells #[.int .i64 0, .int .i64 0] 44)) (p := ⟨g, 1, none⟩) hg2).trans c1
  have HAC2 : Hid (Acc (w2.alloc (.cells #[.int .i64 0, .int .i64 0] 44)) w.heap.size _ [b]) := World.ownsRow.alloc HAC.out _
  clear c2 hacc hcell hf2 hb2 KB HB1
  have wb := HWB.out
  go_wp2_with fail
  (with_reducible refine (KT.out _).mono ?_)
  rintro e w4 ⟨rfl, rfl⟩
  clear KT
  go_wp2_with fail
  exact bodyPost_ret (v := .tuple #[.slice (some ⟨bb, oo, none⟩) 1 n2, .int .i64 0, .bool true]) (by simp [results, Tryd.results42, go_sem]) rfl ⟨_, rfl, HAC2.out, HB2.out.alloc HB2.out.size _⟩

set_option maxRecDepth 100000 in
set_option maxHeartbeats 12800000 in
theorem written_two (f : Int) {M c b : Nat} {A : Option Addr} {D N : ByteArray} (w : World) (hP : SsAt w A [D, N]) (hM : M < w.heap.size) (hK : KnownAt w M f) (hD : ∀ c ∈ D.data.toList, 48 ≤ c.toNat ∧ c.toNat ≤ 57) (hs : D.size ≤ 1073741824) (hb : b < 256) (ho : opZ f b = true) (hN : N = nameZ f b) (hw : ownZ b = 0) :
    Calls Tryd.prog 42 #[.int .i64 f, .map (some M), .slice A 2 c] w (WrR [b] 0 w) := by
  obtain ⟨g, rfl, hg, c0⟩ := hP 0 _ rfl
  obtain ⟨g1, e1, _, c1⟩ := hP 1 _ rfl
  injection e1 with e1
  injection e1 with e1
  subst e1
  rw [Nat.zero_add] at c0 c1
  have KD := Lib.hid (fun u => cdigits_c D hs hD u)
  have hne : (N.toList == [73, 78, 86, 65, 76, 73, 68]) = false := by
    have h := cstr_ne (x := N) (y := ⟨#[73, 78, 86, 65, 76, 73, 68]⟩) (by rw [hN]; exact nameZ_inv ho)
    rw [show (⟨#[73, 78, 86, 65, 76, 73, 68]⟩ : ByteArray).toList = [73, 78, 86, 65, 76, 73, 68] by rw [ByteArray.toList_eq]] at h
    exact h
  have HAT : Hid ((∀ z, (knownD f 256).atKey (.string N.data.toList) z = .lit (.int .i64 (b : Nat))) ∧ has (knownD f 256) (.string N.data.toList) = true) := by
    have h := knownD_at ho 256 hb
    rw [← hN] at h
    exact h
  have HKEY := Lib.hid (keyOf_st (s := N) (by have := nameZ_size f b; rw [hN]; unfold maxLen; omega))
  have HZD : Hid (plainElem (H := Unit) Tryd.prog 3 (.int .i64 0) = some (.lit (.int .i64 0), [])) := plainElem_int Tryd.underlying3 (wf64 (n := 0) (by omega))
  have KO : Hid (∀ u, Calls Tryd.prog 33 #[.int .i64 (b : Nat)] u (fun e w' => e = .returned (.int .i64 (ownZ b : Nat)) ∧ w' = u)) := fun u => pown_c b hb u
  rw [hw] at KO
  have wb : IntKind.u8.wrap (b : Int) = (b : Int) := IntWalk.u8_in _ (by omega)
  have HC1 := Lib.hid c1
  have HWB := Lib.hid wb
  have HKN := Lib.hid hK
  have HMB := Lib.hid hM
  clear hP hD hs hb ho hN hw hK hM c1 wb
  go_enter Tryd.func42, Tryd.ntmps42
  go_wp2_with fail
  (with_reducible refine (KD.out _).mono ?_)
  rintro e w1 ⟨rfl, hb1⟩
  have HB1 := Lib.hid hb1
  have c1 := (hb1.cell (p := ⟨g, 1, none⟩) hg).trans HC1.out
  have HKN1 : Hid (KnownAt w1 M f) := mapB HKN.out hb1 HMB.out
  clear hb1 KD c0 HKN
  have HKN2 := HKN1
  have HB3 := HB1
  have hg2 : g < w1.heap.size := Nat.lt_of_lt_of_le hg HB1.out.size
  clear HKN1 HB1
  go_wp2_with (first | (refine wpList_lookup_own_ok _ rfl _ _ 69 rfl 9 3 strKeyed Tryd.underlying69 (plainElem (H := Unit) Tryd.prog 3) (Tryd.zeroValue3 _) (.lit (.int .i64 0)) [] HZD.out M 256 _ rfl HKN2.out (.string N) _ rfl HKEY.out ?_; intro lv lps lhv; rw [HAT.out.1] at lhv; obtain ⟨la, rfl, le, -⟩ := plainElem_int_inv Tryd.underlying3 lhv; injection le with le; injection le with le; injection le with _ le; subst le; rw [HAT.out.2]; clear lhv HKN2) | fail)
  (with_reducible refine (KO.out _).mono ?_)
  rintro e w4 ⟨rfl, rfl⟩
  clear KO
  have wb := HWB.out
  go_upto_region 15 with (fail)
  obtain ⟨v', w9, happ, hacc9, hgr, -⟩ := cc_append_rd 31 (acc_one w4 b) (A := none) (c := 0) (news := []) ⟨Nat.le_refl _, (fun _ => rfl), (fun h => by simp at h)⟩ (by simp) (by simp)
  have hb9 : Below w4.heap.size w4 w9 := ((Below.refl w4.heap.size w4).alloc (Nat.le_refl _) (.cells #[.int .u8 (b : Nat)] 5)).grown hgr (by simp) (fun k hk => by simp [Value.ownBlock] at hk; omega)
  have HAPP := Lib.hid happ
  have HAC9 := Lib.hid (hacc9.mono HB3.out.size)
  have HB9 := Lib.hid (HB3.out.trans (hb9.mono HB3.out.size))
  clear happ hacc9 hgr hb9
  go_wp2_with (at_builtin; refine cd_append_run rfl (.tmp 88) (.tmp 89) 31 rfl HAPP.out ?_)
  exact bodyPost_ret (v := .tuple #[v', .int .i64 0, .bool true]) (by simp [results, Tryd.results42, go_sem]) rfl ⟨v', rfl, HAC9.out, HB9.out⟩

set_option maxRecDepth 100000 in
set_option maxHeartbeats 12800000 in
theorem written_three (f : Int) {M c b : Nat} {A : Option Addr} {D N X : ByteArray} {bs : List Nat} (w : World) (hP : SsAt w A [D, N, X]) (hM : M < w.heap.size) (hK : KnownAt w M f) (hD : ∀ c ∈ D.data.toList, 48 ≤ c.toNat ∧ c.toNat ≤ 57) (hs : D.size ≤ 1073741824) (hX : X.size ≤ 140737488355328) (hr : bres X = (bs, 0, 0)) (hb : b < 256) (ho : opZ f b = true) (hN : N = nameZ f b) (hw : 0 < ownZ b) (hl : bs.length ≤ ownZ b) :
    Calls Tryd.prog 42 #[.int .i64 f, .map (some M), .slice A 3 c] w (WrR (b :: bs) (ownZ b - bs.length) w) := by
  obtain ⟨g, rfl, hg, c0⟩ := hP 0 _ rfl
  obtain ⟨g1, e1, _, c1⟩ := hP 1 _ rfl
  obtain ⟨g2, e2, _, c2⟩ := hP 2 _ rfl
  injection e1 with e1
  injection e1 with e1
  injection e2 with e2
  injection e2 with e2
  subst e1 e2
  rw [Nat.zero_add] at c0 c1 c2
  have KD := Lib.hid (fun u => cdigits_c D hs hD u)
  have kB := fun u => bytes_h X u hX
  rw [hr] at kB
  have KB := Lib.hid kB
  obtain ⟨m, hm⟩ : ∃ m, m = bs.length := ⟨_, rfl⟩
  have hne : (N.toList == [73, 78, 86, 65, 76, 73, 68]) = false := by
    have h := cstr_ne (x := N) (y := ⟨#[73, 78, 86, 65, 76, 73, 68]⟩) (by rw [hN]; exact nameZ_inv ho)
    rw [show (⟨#[73, 78, 86, 65, 76, 73, 68]⟩ : ByteArray).toList = [73, 78, 86, 65, 76, 73, 68] by rw [ByteArray.toList_eq]] at h
    exact h
  have HAT : Hid ((∀ z, (knownD f 256).atKey (.string N.data.toList) z = .lit (.int .i64 (b : Nat))) ∧ has (knownD f 256) (.string N.data.toList) = true) := by
    have h := knownD_at ho 256 hb
    rw [← hN] at h
    exact h
  have HKEY := Lib.hid (keyOf_st (s := N) (by have := nameZ_size f b; rw [hN]; unfold maxLen; omega))
  have HZD : Hid (plainElem (H := Unit) Tryd.prog 3 (.int .i64 0) = some (.lit (.int .i64 0), [])) := plainElem_int Tryd.underlying3 (wf64 (n := 0) (by omega))
  have KO : Hid (∀ u, Calls Tryd.prog 33 #[.int .i64 (b : Nat)] u (fun e w' => e = .returned (.int .i64 (ownZ b : Nat)) ∧ w' = u)) := fun u => pown_c b hb u
  obtain ⟨z, hz⟩ : ∃ z, z = ownZ b := ⟨_, rfl⟩
  rw [← hz] at KO hw hl ⊢
  have t1 : (0 : Int) < (z : Int) := by omega
  have t3 : ¬ z < m := by omega
  have t2 : ¬ (z : Int) < (m : Int) := by omega
  have hz32 : z ≤ 32 := by rw [hz]; exact ownZ_le b
  have wz : IntKind.i64.wrap ((z : Int) - (m : Int)) = ((z - bs.length : Nat) : Int) := by rw [IntWalk.i64_in _ (by omega)]; omega
  have HMS : Hid (bs.length ≤ 32) := by show _ ≤ _; omega
  have wb : IntKind.u8.wrap (b : Int) = (b : Int) := IntWalk.u8_in _ (by omega)
  have HC1 := Lib.hid c1
  have HC2 := Lib.hid c2
  have HM := Lib.hid hm
  have HWZ := Lib.hid wz
  have HWB := Lib.hid wb
  have HKN := Lib.hid hK
  have HMB := Lib.hid hM
  clear hP hD hs hb ho hN hw hK hM c1 wb hX hr kB c2 hm hz hz32 hl wz
  go_enter Tryd.func42, Tryd.ntmps42
  go_wp2_with fail
  (with_reducible refine (KD.out _).mono ?_)
  rintro e w1 ⟨rfl, hb1⟩
  have HB1 := Lib.hid hb1
  have c1 := (hb1.cell (p := ⟨g, 1, none⟩) hg).trans HC1.out
  have c2 := (hb1.cell (p := ⟨g, 2, none⟩) hg).trans HC2.out
  have HKN1 : Hid (KnownAt w1 M f) := mapB HKN.out hb1 HMB.out
  clear hb1 KD c0 HKN
  go_wp2_with fail
  (with_reducible refine (KB.out _).mono ?_)
  rintro e w2 ⟨v, rfl, hacc, hb2⟩
  have c1 := (hb2.cell (p := ⟨g, 1, none⟩) (Nat.lt_of_lt_of_le hg HB1.out.size)).trans c1
  obtain ⟨A2, n2, rfl⟩ := hacc.form
  have HAC := Lib.hid hacc
  have HB2 := Lib.hid (HB1.out.trans (hb2.mono HB1.out.size))
  have hg2 : g < w2.heap.size := Nat.lt_of_lt_of_le hg HB2.out.size
  have hbA := (Below.refl w2.heap.size w2).alloc (Nat.le_refl _) (.cells #[.int .i64 0, .int .i64 0] 44)
  have hf2 := heap_alloc_new w2 (.cells #[.int .i64 0, .int .i64 0] 44)
  obtain ⟨d0, d1, g0, g1⟩ := two_cells hf2
  have c1 := (hbA.cell (p := ⟨g, 1, none⟩) hg2).trans c1
  have HKN2 : Hid (KnownAt (w2.alloc (.cells #[.int .i64 0, .int .i64 0] 44)) M f) := mapB (mapB HKN1.out hb2 (Nat.lt_of_lt_of_le HMB.out HB1.out.size)) hbA (Nat.lt_of_lt_of_le HMB.out HB2.out.size)
  have HAC2 : Hid (Acc (w2.alloc (.cells #[.int .i64 0, .int .i64 0] 44)) w1.heap.size (.slice A2 bs.length n2) bs) := World.ownsRow.alloc HAC.out _
  have HB3 := Lib.hid (HB2.out.alloc HB2.out.size (.cells #[.int .i64 0, .int .i64 0] 44))
  rw [← HM.out]
  clear c2 hacc hf2 hb2 KB HB1 HB2 HKN1 HAC hbA
  go_wp2_with (first | (refine wpList_lookup_own_ok _ rfl _ _ 69 rfl 9 3 strKeyed Tryd.underlying69 (plainElem (H := Unit) Tryd.prog 3) (Tryd.zeroValue3 _) (.lit (.int .i64 0)) [] HZD.out M 256 _ rfl HKN2.out (.string N) _ rfl HKEY.out ?_; intro lv lps lhv; rw [HAT.out.1] at lhv; obtain ⟨la, rfl, le, -⟩ := plainElem_int_inv Tryd.underlying3 lhv; injection le with le; injection le with le; injection le with _ le; subst le; rw [HAT.out.2]; clear lhv HKN2) | fail)
  (with_reducible refine (KO.out _).mono ?_)
  rintro e w4 ⟨rfl, rfl⟩
  clear KO
  have wb := HWB.out
  have wz := HWZ.out
  go_upto_region 15 with (fail)
  generalize w2.alloc (.cells #[.int .i64 0, .int .i64 0] 44) = Y at *
  obtain ⟨v', w9, happ, hacc9, hgr, -⟩ := cc_append_rd 31 (acc_one Y b) (A := A2) (c := n2) (news := bs) (HAC2.out.rd.below ((Below.refl Y.heap.size Y).alloc (Nat.le_refl _) _)) (by have := HMS.out; simp; omega) (by simp)
  have hb9 : Below Y.heap.size Y w9 := ((Below.refl Y.heap.size Y).alloc (Nat.le_refl _) (.cells #[.int .u8 (b : Nat)] 5)).grown hgr (by simp) (fun k hk => by simp [Value.ownBlock] at hk; omega)
  rw [← HM.out] at happ
  have HAPP := Lib.hid happ
  have HAC9 := Lib.hid (hacc9.mono HB3.out.size)
  have HB9 := Lib.hid (HB3.out.trans (hb9.mono HB3.out.size))
  clear happ hacc9 hgr hb9
  go_wp2_with (at_builtin; refine cd_append_run rfl (.tmp 88) (.tmp 89) 31 rfl HAPP.out ?_)
  exact bodyPost_ret (v := .tuple #[v', .int .i64 (z - bs.length : Nat), .bool true]) (by simp [results, Tryd.results42, go_sem]) rfl ⟨v', rfl, HAC9.out, HB9.out⟩

end Go.Proofs.YtopeahjdglkheaaDoor
