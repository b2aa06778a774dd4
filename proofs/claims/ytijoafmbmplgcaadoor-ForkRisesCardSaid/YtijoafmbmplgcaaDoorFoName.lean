/- Package fork: alike, Named. -/
import Derived.Test.YtijoafmbmplgcaaDoorFoDrs
import Derived.Deep.MidRow
namespace Go.Proofs.YtijoafmbmplgcaaDoor
open Go.RowKit

theorem lowS_iff (s t : ByteArray) : lowS s = lowS t ↔ (bytesN s).map lowB = (bytesN t).map lowB := by
  unfold lowS
  constructor
  · intro h
    have h2 := congrArg bytesN h
    rwa [sOf_bytes (fun x hx => by obtain ⟨y, hy, rfl⟩ := List.mem_map.1 hx; exact lowB_lt (bytesN_ds _ _ hy)), sOf_bytes (fun x hx => by obtain ⟨y, hy, rfl⟩ := List.mem_map.1 hx; exact lowB_lt (bytesN_ds _ _ hy))] at h2
  · intro h; rw [h]
theorem bytesN_get {s : ByteArray} {p : Nat} (h : p < s.size) : (bytesN s).getD p 0 = (s[p]'h).toNat := by
  have hl : p < s.data.toList.length := by rw [Array.length_toList]; exact h
  unfold bytesN
  rw [List.getD_eq_getElem?_getD, List.getElem?_map, List.getElem?_eq_getElem hl]
  rfl
theorem bytesN_from (t : ByteArray) (n : Nat) : bytesN (t.extract n t.size) = (bytesN t).drop n := by
  unfold bytesN
  simp only [ByteArray.data_extract, Array.toList_extract, List.extract_eq_take_drop, List.map_take, List.map_drop]
  refine List.take_of_length_le ?_
  rw [List.length_drop, List.length_map, Array.length_toList]
  exact Nat.le_refl _
/-- A rune's small one and a byte's, below 128, are one just where the bytes are. -/
theorem small_low {c o : Nat} (_ho : o < 128) (_hc : c < 128) : (smallZ (c : Int) = smallZ (o : Int)) ↔ lowB c = lowB o := by
  unfold smallZ lowB
  repeat' split
  all_goals omega
theorem small_high {r : Int} {o : Nat} (ho : o < 128) (hr : 128 ≤ r) : smallZ r ≠ smallZ (o : Int) := by
  unfold smallZ
  repeat' split
  all_goals omega
theorem lowB_high {c : Nat} (h : 128 ≤ c) : lowB c = c := by unfold lowB; rw [if_neg (by omega)]
theorem lowB_small {c : Nat} (h : c < 128) : lowB c < 128 := by unfold lowB; split <;> omega

/-- Behind the first bytes, which are alike. -/
structure LkI (s x t : ByteArray) (w wr : World) (p : Nat) : Prop where
  rest : bytesN t = (bytesN x).drop p
  le : p ≤ s.size ∧ p ≤ x.size
  same : ∀ j, j < p → lowB ((bytesN s).getD j 0) = lowB ((bytesN x).getD j 0)
  it : wr.heap[w.heap.size]? = some (.stringIter s p)
  bel : Below w.heap.size w wr
def leftOf (g : Nat) (w : World) : Nat := match w.heap[g]? with
  | some (.stringIter s pos) => s.size - pos
  | _ => 0
theorem leftOf_at {g pos : Nat} {w : World} {s : ByteArray} (h : w.heap[g]? = some (.stringIter s pos)) : leftOf g w = s.size - pos := by unfold leftOf; rw [h]

set_option maxRecDepth 100000 in
set_option maxHeartbeats 6400000 in
theorem alike_c (s x : ByteArray) (hx : ∀ c ∈ bytesN x, c < 128) (hxs : x.size ≤ 20) (w : World) : Calls Tryd.prog 36 #[.string s, .string x] w (RetV (.bool (decide (lowS x = lowS s))) w) := by
  have h1 : (w.alloc (.stringIter s 0)).heap[w.heap.size]? = some (.stringIter s 0) := by simpa using heap_alloc_new w (.stringIter s 0)
  have HI : Hid (LkI s x x w (w.alloc (.stringIter s 0)) 0) := ⟨rfl, ⟨Nat.zero_le _, Nat.zero_le _⟩, fun j hj => absurd hj (Nat.not_lt_zero _), h1, (Below.refl w.heap.size w).alloc (Nat.le_refl _) (.stringIter s 0)⟩
  obtain ⟨z, hz⟩ : ∃ z, z = decide (lowS x = lowS s) := ⟨_, rfl⟩
  rw [← hz]
  have HZ : Hid (z = decide ((bytesN x).map lowB = (bytesN s).map lowB)) := by
    show z = _
    rw [hz, decide_eq_decide]; exact lowS_iff x s
  have HX := Lib.hid hx
  have HXS := Lib.hid hxs
  clear hz h1 hx hxs
  have KS : Hid (∀ r w, Calls Tryd.prog 41 #[.int .i32 r] w fun e w' => e = .returned (.int .i32 (smallZ r)) ∧ w' = w) := small_c
  go_enter Tryd.func36, Tryd.ntmps36
  go_wp2_with fail
  go_loopw [1] (fun v wr => ∃ (t : ByteArray) (p : Nat), v = .string t ∧ Hid (LkI s x t w wr p))
    (fun _ wr => leftOf w.heap.size wr)
  case atStart => exact ⟨x, 0, rfl, HI.out⟩
  case round =>
    clear HI
    obtain ⟨t, p, rfl, hI⟩ := hrel
    by_cases hp : p < s.size
    · have hnx : ∀ ty, (Instr.next (.pointer (some ⟨w.heap.size, 0, none⟩)) true ty).run Tryd.prog wr = _ := fun ty => Lib.run_next_any_at wr w.heap.size s p ty hI.out.it hp
      have hit2 := Lib.iterAt_heap wr w.heap.size s p (p + (Utf8.decode s p).2) hI.out.it
      have hbel2 := Lib.below_iterAt hI.out.bel (k := w.heap.size) (Nat.le_refl _) s (p + (Utf8.decode s p).2)
      have hm := leftOf_at hI.out.it
      have hget := bytesN_get hp
      obtain ⟨c, hc⟩ : ∃ c, c = (bytesN s).getD p 0 := ⟨_, rfl⟩
      have hlo : c < 128 → Utf8.decode s p = (c, 1) := fun h => by
        rw [hc, hget] at h ⊢
        exact decode_ascii s p hp h
      have hhi : 128 ≤ c → 128 ≤ (Utf8.decode s p).1 := fun h => by
        rw [hc, hget] at h
        exact (decode_high s p hp h).1
      obtain ⟨d, hd⟩ : ∃ d, d = (Utf8.decode s p).2 := ⟨_, rfl⟩
      obtain ⟨r, hr⟩ : ∃ r, r = (Utf8.decode s p).1 := ⟨_, rfl⟩
      obtain ⟨W, hW⟩ : ∃ W, W = wr.iterAt w.heap.size s (p + (Utf8.decode s p).2) := ⟨_, rfl⟩
      rw [← hW] at hit2 hbel2
      rw [← hW, ← hr] at hnx
      rw [← hd] at hit2
      have HLO : Hid (c < 128 → r = c ∧ d = 1) := fun h => by have e := hlo h; rw [hr, hd, e]; exact ⟨rfl, rfl⟩
      have HHI : Hid (128 ≤ c → 128 ≤ r) := fun h => by rw [hr]; exact hhi h
      have HC := Lib.hid hc
      have HIT := Lib.hid hit2
      have HBL := Lib.hid hbel2
      have HM := Lib.hid hm
      have HP := Lib.hid hp
      clear hit2 hbel2 hm hget hlo hhi hc hd hr hW hp
      cases hb : bytesN t with
      | nil =>
        obtain rfl := fstr_none hb
        have hpx : p = x.size := by
          have h := hI.out.rest
          rw [hb] at h
          have h2 := congrArg List.length h
          rw [List.length_drop, bytesN_len] at h2
          have := hI.out.le
          simp at h2
          omega
        have e : z = false := by
          rw [HZ.out]
          refine decide_eq_false fun h => ?_
          have h2 := congrArg List.length h
          rw [List.length_map, List.length_map, bytesN_len, bytesN_len] at h2
          have := HP.out
          omega
        have KD : Hid (∀ w, Calls Tryd.prog 40 #[.string ⟨#[]⟩] w fun e w' => e = .returned (.tuple #[.int .i32 65533, .int .i64 0]) ∧ w' = w) := drs_no
        clear HZ hb hpx hI
        go_wp2_with fail
        (with_reducible refine (KD.out _).mono ?_)
        rintro e w1 ⟨rfl, hw1⟩
        rw [hw1]
        clear KD hw1 w1
        go_wp2_with fail
        go_ret
        exact ⟨by rw [e]; rfl, HBL.out⟩
      | cons o q =>
        have hox : o = (bytesN x).getD p 0 := by
          have h := hI.out.rest
          rw [hb] at h
          have h2 := congrArg (fun l : List Nat => l[0]?) h
          simp only [List.getElem?_cons_zero, List.getElem?_drop, Nat.add_zero] at h2
          rw [List.getD_eq_getElem?_getD, ← h2]; rfl
        have hpx : p < x.size := by
          have h := hI.out.rest
          rw [hb] at h
          have h2 := congrArg List.length h
          rw [List.length_drop, bytesN_len] at h2
          simp at h2
          omega
        have ho : o < 128 := HX.out o (by
          rw [hox, List.getD_eq_getElem?_getD, List.getElem?_eq_getElem (by rw [bytesN_len]; exact hpx)]
          exact List.getElem_mem _)
        have KD : Hid (∀ w, Calls Tryd.prog 40 #[.string t] w fun e w' => e = .returned (.tuple #[.int .i32 (o : Nat), .int .i64 1]) ∧ w' = w) := fun w => drs_c hb ho w
        have hts : 1 ≤ t.size := by rw [← bytesN_len, hb]; simp
        have HT := Lib.hid hts
        have HOX := Lib.hid hox
        have HPX := Lib.hid hpx
        have HO := Lib.hid ho
        have HBT := Lib.hid hb
        clear hox hpx ho hb hts
        by_cases hsm : smallZ r = smallZ (o : Int)
        · have hc : c < 128 := by
            refine Decidable.byContradiction fun h => ?_
            exact small_high HO.out (by have := HHI.out (by omega); omega) hsm
          obtain ⟨hr, hd⟩ := HLO.out hc
          have hlow : lowB c = lowB o := (small_low HO.out hc).1 (by rw [hr] at hsm; exact hsm)
          have hI2 : LkI s x (t.extract 1 t.size) w W (p + 1) := ⟨by
            rw [bytesN_from, hI.out.rest, List.drop_drop], ⟨HP.out, HPX.out⟩, fun j hj => by
            by_cases e : j = p
            · subst e; rw [← HC.out, ← HOX.out]; exact hlow
            · exact hI.out.same j (by omega), by rw [← hd]; exact HIT.out, HBL.out⟩
          have HI2 := Lib.hid hI2
          have HMM : Hid (leftOf w.heap.size W < leftOf w.heap.size wr) := by
            show _ < _
            rw [HM.out, leftOf_at hI2.it]
            have := HP.out
            omega
          have hsz : ((1 : Int) ≤ (t.size : Int)) := by have := HT.out; omega
          obtain ⟨a, ha⟩ : ∃ a, a = smallZ r := ⟨_, rfl⟩
          have KR : Hid (∀ w, Calls Tryd.prog 41 #[.int .i32 (r : Nat)] w fun e w' => e = .returned (.int .i32 a) ∧ w' = w) := fun w => by rw [ha]; exact KS.out r w
          have KO : Hid (∀ w, Calls Tryd.prog 41 #[.int .i32 (o : Nat)] w fun e w' => e = .returned (.int .i32 a) ∧ w' = w) := fun w => by rw [ha, hsm]; exact KS.out o w
          clear hr hd hlow hI2 ha hsm hc hI KS HM HIT HBL
          go_wp2_with fail
          (with_reducible refine (KD.out _).mono ?_)
          rintro e w1 ⟨rfl, hw1⟩
          rw [hw1]
          clear KD hw1 w1
          go_wp2_with fail
          (with_reducible refine (KR.out _).mono ?_)
          rintro e w1 ⟨rfl, hw1⟩
          rw [hw1]
          clear KR hw1 w1
          go_wp2_with fail
          (with_reducible refine (KO.out _).mono ?_)
          rintro e w1 ⟨rfl, hw1⟩
          rw [hw1]
          clear KO hw1 w1
          go_wp2_with fail
          go_roundw
          case rel => exact ⟨_, p + 1, rfl, HI2⟩
          case measure => exact HMM.out
        · have e : z = false := by
            rw [HZ.out]
            refine decide_eq_false fun h => ?_
            have h2 := congrArg (fun l : List Nat => l[p]?) h
            simp only [List.getElem?_map] at h2
            rw [List.getElem?_eq_getElem (by rw [bytesN_len]; exact HPX.out), List.getElem?_eq_getElem (by rw [bytesN_len]; exact HP.out)] at h2
            simp only [Option.map_some, Option.some.injEq] at h2
            have e1 : (bytesN x)[p]'(by rw [bytesN_len]; exact HPX.out) = o := by
              rw [HOX.out, List.getD_eq_getElem?_getD, List.getElem?_eq_getElem (by rw [bytesN_len]; exact HPX.out)]; rfl
            have e2 : (bytesN s)[p]'(by rw [bytesN_len]; exact HP.out) = c := by
              rw [HC.out, List.getD_eq_getElem?_getD, List.getElem?_eq_getElem (by rw [bytesN_len]; exact HP.out)]; rfl
            rw [e1, e2] at h2
            by_cases hc : c < 128
            · obtain ⟨hr, -⟩ := HLO.out hc
              rw [hr] at hsm
              exact hsm ((small_low HO.out hc).2 h2.symm)
            · rw [lowB_high (by omega : 128 ≤ c)] at h2
              have := lowB_small HO.out
              omega
          obtain ⟨a, ha⟩ : ∃ a, a = smallZ r := ⟨_, rfl⟩
          obtain ⟨b, hb⟩ : ∃ b, b = smallZ (o : Int) := ⟨_, rfl⟩
          have hne : (a != b) = true := by rw [ha, hb]; simpa using hsm
          have KR : Hid (∀ w, Calls Tryd.prog 41 #[.int .i32 (r : Nat)] w fun e w' => e = .returned (.int .i32 a) ∧ w' = w) := fun w => by rw [ha]; exact KS.out r w
          have KO : Hid (∀ w, Calls Tryd.prog 41 #[.int .i32 (o : Nat)] w fun e w' => e = .returned (.int .i32 b) ∧ w' = w) := fun w => by rw [hb]; exact KS.out o w
          clear ha hb hsm hI KS HM HIT HZ
          go_wp2_with fail
          (with_reducible refine (KD.out _).mono ?_)
          rintro e w1 ⟨rfl, hw1⟩
          rw [hw1]
          clear KD hw1 w1
          go_wp2_with fail
          (with_reducible refine (KR.out _).mono ?_)
          rintro e w1 ⟨rfl, hw1⟩
          rw [hw1]
          clear KR hw1 w1
          go_wp2_with fail
          (with_reducible refine (KO.out _).mono ?_)
          rintro e w1 ⟨rfl, hw1⟩
          rw [hw1]
          clear KO hw1 w1
          go_wp2_with fail
          go_ret
          exact ⟨by rw [e]; rfl, HBL.out⟩
    · have hnx : ∀ ty, (Instr.next (.pointer (some ⟨w.heap.size, 0, none⟩)) true ty).run Tryd.prog wr = _ := fun ty => Lib.run_next_end_at wr w.heap.size s p ty hI.out.it hp
      have HBW := Lib.hid hI.out.bel
      have hps : p = s.size := by have := hI.out.le.1; omega
      cases hb : bytesN t with
      | nil =>
        obtain rfl := fstr_none hb
        have e : z = true := by
          rw [HZ.out]
          refine decide_eq_true (map_low ?_ fun j hj => ?_)
          · have h := hI.out.rest
            rw [hb] at h
            have h2 := congrArg List.length h
            rw [List.length_drop, bytesN_len] at h2
            have := hI.out.le
            simp at h2
            rw [bytesN_len, bytesN_len]
            omega
          · have h := hI.out.rest
            rw [hb] at h
            have h2 := congrArg List.length h
            rw [List.length_drop, bytesN_len] at h2
            simp at h2
            rw [bytesN_len] at hj
            exact (hI.out.same j (by omega)).symm
        clear HZ hb hI hp hps
        go_wp2_with fail
        go_ret
        exact ⟨by rw [e]; rfl, HBW.out⟩
      | cons o q =>
        have he := fstr_some hb
        have e : z = false := by
          rw [HZ.out]
          refine decide_eq_false fun h => ?_
          have h2 := congrArg List.length h
          rw [List.length_map, List.length_map, bytesN_len, bytesN_len] at h2
          have h3 := hI.out.rest
          rw [hb] at h3
          have h4 := congrArg List.length h3
          rw [List.length_drop, bytesN_len] at h4
          simp at h4
          omega
        clear HZ hb hI hp hps
        go_wp2_with fail
        go_ret
        exact ⟨by rw [e]; rfl, HBW.out⟩
theorem names_low : ∀ x ∈ forkNames, ∀ c ∈ bytesN x, c < 128 := by decide
theorem strs_range {w : World} {g : Nat} {l : List ByteArray} (h : StrsAt w g l) : w.rangeAt g 0 (l.map Value.string) := fun j v hj => by
  rw [List.getElem?_map] at hj
  cases hx : l[j]? with
  | none => rw [hx] at hj; simp at hj
  | some s =>
    rw [hx] at hj
    simp at hj
    rw [← hj, Nat.zero_add]
    exact h j s hx
theorem infoNames : (Tryd.prog.info? 70).map (·.size) = some 16 := by kernel_rfl

set_option maxRecDepth 100000 in
set_option maxHeartbeats 6400000 in
theorem fonamed_c (s : ByteArray) (w : World) (hN : NamesAt w) : Calls Tryd.prog 22 #[.string s] w (RetV (namedV (namedZ s)) w) := by
  obtain ⟨q, hq⟩ : ∃ q, q = namedZ s := ⟨_, rfl⟩
  rw [← hq]
  have HQ : Hid (q = namedAt s forkNames 0) := hq
  have HR := Lib.hid (strs_range hN.2)
  clear hq hN
  obtain ⟨cs, hcs⟩ : ∃ cs, cs = (forkNames.map Value.string).toArray := ⟨_, rfl⟩
  have HCS := Lib.hid hcs
  go_enter Tryd.func22, Tryd.ntmps22
  go_upto_region 1 with (fail)
  refine wp_region_lit ?_
  refine wpList_load_mid rfl 70 (.global 0) rfl 0 0 rfl _ _ HR.out Tryd.underlying70 rfl infoNames ?_
  refine wpList_plain rfl fun K hK => ?_; go_simp; refine hK _ _ ?_; clear hK K
  refine wpList_nil ?_
  rw [← HCS.out]
  clear hcs HR
  go_simp
  go_wp2_with fail
  have ix : ∀ (m : Nat) x w, forkNames[m]? = some x → (Instr.index 70 (.agg cs) (.int .i64 (m : Nat))).run Tryd.prog w = .ok (.string x) w := by
    intro m x w hx
    have hm : m < 16 := by
      have := (List.getElem?_eq_some_iff.1 hx).1
      simpa [forkNames] using this
    have hc : Tryd.prog.cellsOf 9 = 1 := by kernel_rfl
    have hz : (Go.sizeOf 9).run Tryd.prog w = .ok 1 w := by kernel_rfl
    have hcm : cs[m]? = some (.string x) := by rw [HCS.out, List.getElem?_toArray, List.getElem?_map, hx]; rfl
    have hcs3 : m < cs.size := (Array.getElem?_eq_some_iff.1 hcm).1
    unfold Instr.index
    simp [asIntOf, run_underlying Tryd.underlying70, hm, hz, part, go_sem]
    rw [hcm]
    rfl
  have HIX := Lib.hid ix
  clear ix HCS
  go_loopw [7] (fun a wr => ∃ (m : Nat), a = .int .i64 (m : Int) ∧ Hid (m ≤ 16) ∧ Hid (q = namedAt s (forkNames.drop m) m) ∧ Hid (Below w.heap.size w wr))
    (fun a _ => 16 - (intOf a).toNat)
  case atStart => exact ⟨0, rfl, Nat.zero_le _, HQ.out, Below.refl _ _⟩
  case round =>
    clear HQ
    obtain ⟨m, rfl, hm, hq, hb⟩ := hrel
    by_cases h0 : m < 16
    · obtain ⟨x, hx⟩ : ∃ x, forkNames[m]? = some x := ⟨_, List.getElem?_eq_getElem (by simpa [forkNames] using h0)⟩
      have ix := fun w => HIX.out m x w hx
      have hxm : x ∈ forkNames := List.mem_of_getElem? hx
      have hxs := names_small x hxm
      have hdrop : forkNames.drop m = x :: forkNames.drop (m + 1) := by
        have hl : m < forkNames.length := by simpa [forkNames] using h0
        rw [List.drop_eq_getElem_cons hl]
        rw [List.getElem?_eq_getElem hl] at hx
        injection hx with hx
        rw [hx]
      have hq2 := hq.out
      rw [hdrop] at hq2
      have hq3 : q = if lowS x = lowS s then some m else namedAt s (forkNames.drop (m + 1)) (m + 1) := hq2
      have HQ3 := Lib.hid hq3
      have C1 := alike_c s x (names_low x hxm) hxs wr
      clear hx hxm hxs hdrop hq2 hq3 hq
      by_cases he : lowS x = lowS s
      · rw [decide_eq_true he] at C1
        have C2 := Lib.hid C1
        have hq := HQ3.out
        rw [if_pos he] at hq
        have HQ := Lib.hid hq
        clear hq HQ3 he C1
        go_wp2_with fail
        (with_reducible refine C2.out.mono ?_)
        rintro e w2 ⟨rfl, hb2⟩
        have HB2 := Lib.hid (hb.out.trans (hb2.mono hb.out.size))
        clear C2 hb2
        go_wp2_with fail
        exact bodyPost_ret (v := .tuple #[.int .i64 (m : Nat), .bool true]) (by simp [results, Tryd.results22, go_sem]) rfl ⟨by rw [HQ.out]; rfl, HB2.out⟩
      · rw [decide_eq_false he] at C1
        have C2 := Lib.hid C1
        have hq := HQ3.out
        rw [if_neg he] at hq
        have HQ := Lib.hid hq
        clear hq HQ3 he C1
        go_wp2_with fail
        (with_reducible refine C2.out.mono ?_)
        rintro e w2 ⟨rfl, hb2⟩
        have HB2 := Lib.hid (hb.out.trans (hb2.mono hb.out.size))
        clear C2 hb2
        go_wp2_with fail
        go_roundw
        case rel => exact ⟨m + 1, by go_num, by show _ ≤ _; omega, HQ.out, HB2.out⟩
        case measure => simp [intOf]; omega
    · have hq2 := hq.out
      have hm2 := hm.out
      obtain rfl : m = 16 := by omega
      have HQ : Hid (q = none) := hq2
      clear hq hq2
      go_wp2_with fail
      exact bodyPost_ret (v := .tuple #[.int .i64 0, .bool false]) (by simp [results, Tryd.results22, go_sem]) rfl ⟨by rw [HQ.out]; rfl, hb.out⟩
end Go.Proofs.YtijoafmbmplgcaaDoor
