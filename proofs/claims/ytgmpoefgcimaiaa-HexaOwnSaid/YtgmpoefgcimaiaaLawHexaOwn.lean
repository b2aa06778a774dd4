/- The law HexaOwn. -/
import Derived.Test.YtgmpoefgcimaiaaOwClose
import Derived.Test.YtgmpoefgcimaiaaHText
import Derived.Test.YtgmpoefgcimaiaaHWakes
namespace Go.Proofs.Ytgmpoefgcimaiaa
open Go.RowKit

theorem scanB_ds : ∀ (R : List Nat) (k : Nat) (x : List Nat), Ds 16 x → Ds 16 (scan stepB R k x).2 ∧ (scan stepB R k x).2.length ≤ x.length + R.length
  | [], k, x, h => by
    unfold scan
    split <;> exact ⟨h, by simp⟩
  | r :: rs, k, x, h => by
    unfold scan
    split
    · exact ⟨h, by simp⟩
    · split
      · have := scanB_ds rs (k + 1) x h
        exact ⟨this.1, by simp only [List.length_cons]; omega⟩
      · unfold stepB
        have := scanB_ds rs (k + 1) (x ++ [digN r]) fun y hy => by
          rcases List.mem_append.1 hy with hy | hy
          · exact h y hy
          · simp at hy; subst hy; exact digN_lt _
        refine ⟨this.1, ?_⟩
        have h2 := this.2
        rw [List.length_append, List.length_singleton] at h2
        simp only [List.length_cons]
        unfold stepB at h2
        omega
theorem bres_own (s : ByteArray) (hs : s.size ≤ 140737488351232) : Ds 256 (bres s).1 ∧ (bres s).1.length ≤ 70368744177665 := by
  have h := scanB_ds (runesAt s 0) 0 [] (fun x hx => by cases hx)
  have h2 : (runesAt s 0).length ≤ s.size := runesF_len s (s.size - 0) 0
  unfold bres bresQ
  split
  · split
    · exact ⟨fun x hx => (by cases hx), by simp⟩
    · refine ⟨pb_ds _ h.1, ?_⟩
      rw [pb_len]
      have := h.2
      simp at this
      omega
  · exact ⟨fun x hx => (by cases hx), by simp⟩

set_option maxRecDepth 100000 in
set_option maxHeartbeats 6400000 in
theorem hexaOwn_c {A : Option Addr} {c : Nat} {bs : List Nat} (w : World) (hrd : Rd .u8 w A c bs) (hds : Ds 256 bs) (s : ByteArray) (hs : s.size ≤ 140737488351232) :
    Calls Try.prog 6 #[.slice A bs.length c, .string s] w fun e w' => e = .returned (.bool true) ∧ Below w.heap.size w w' := by
  obtain ⟨W, hW⟩ : ∃ W, W = (w.alloc (.cells #[.slice none 0 0, .slice none 0 0] 53)).alloc (.cells #[.slice none 0 0, .slice none 0 0, .slice none 0 0, .slice none 0 0, .int .i64 0] 56) := ⟨_, rfl⟩
  have hbw : Below w.heap.size w W := by rw [hW]; exact ((Below.refl _ _).alloc (Nat.le_refl _) _).alloc (by simp) _
  have hg1 : W.heap[w.heap.size]? = some (.cells #[.slice none 0 0, .slice none 0 0] 53 (0, 0)) := by
    rw [hW, Below.heap_alloc _ _ _ (by simp)]; exact heap_alloc_new w _
  have hg2 : W.heap[w.heap.size + 1]? = some (.cells #[.slice none 0 0, .slice none 0 0, .slice none 0 0, .slice none 0 0, .int .i64 0] 56 (0, 0)) := by
    have := heap_alloc_new (w.alloc (.cells #[.slice none 0 0, .slice none 0 0] 53)) (.cells #[.slice none 0 0, .slice none 0 0, .slice none 0 0, .slice none 0 0, .int .i64 0] 56)
    rw [hW]
    simpa using this
  have HK := Lib.hid (Keeps.new (base := w.heap.size) (by omega) hg1 hg2 (Nat.le_refl _) (by omega))
  have HBW := Lib.hid hbw
  have HRD := Lib.hid hrd
  have HDS := Lib.hid hds
  have HS := Lib.hid hs
  have HWW := Lib.hid hW
  obtain ⟨L, hL⟩ : ∃ L, L = bs.length := ⟨_, rfl⟩
  rw [← hL]
  have HLL := Lib.hid hL
  clear hrd hds hs hg1 hg2 hbw hW hL
  go_enter Try.func6, Try.ntmps6
  go_upto_region 3 with (fail)
  rw [← HWW.out]
  go_upto_region 4 with (fail)
  clear HWW
  go_loopw [7] (fun i wr => ∃ (j k : Nat) (role : Role), j ≤ 3 ∧ i = .int .i64 (j : Int) ∧ Hid (k = j) ∧ Hid (Keeps w.heap.size (w.heap.size + 1) w.heap.size role wr k) ∧ Hid (Below w.heap.size w wr))
    (fun i _ => 3 - (intOf i).toNat)
  case atStart => exact ⟨0, 0, _, by omega, rfl, rfl, HK.out, HBW.out⟩
  case round =>
    obtain ⟨j, k, role, hj, rfl, hkj, hk, hb⟩ := hrel
    by_cases hj3 : j < 3
    · have hj1 : (j : Int) < 3 := by omega
      have HJ : Hid (j < 3 ∧ k = j) := ⟨hj3, hkj.out⟩
      have C1 := twin_c wr (HRD.out.below hb.out) HDS.out 200 (by omega) (by omega)
      rw [← HLL.out] at C1
      have C1 : Hid (Calls Try.prog 16 #[.slice A L c, .int .i64 200] wr _) := C1
      have HKK := Lib.hid hk.out
      have HBB := Lib.hid hb.out
      clear hk hb hj3 hkj hj HK HBW
      go_wp2_with fail
      (with_reducible refine C1.out.mono ?_)
      rintro e w1 ⟨v1, rfl, ⟨A1, c1, rfl, hr1, hd1⟩, hb1⟩
      have hk1 := HKK.out.below hb1
      have C2 := Lib.hid (hk1.lend hr1 hd1 (by rw [List.length_take]; omega) (by have := HJ.out; omega))
      obtain ⟨L1, hL1⟩ : ∃ L1, L1 = (bs.take 200).length := ⟨_, rfl⟩
      have HL1 : Hid (L1 = (bs.take 200).length ∧ L1 ≤ 200) := ⟨hL1, by rw [hL1, List.length_take]; omega⟩
      have HD1 := Lib.hid hd1
      have HB1 := Lib.hid (HBB.out.trans (hb1.mono HBB.out.size))
      rw [← hL1] at C2 ⊢
      clear hr1 hd1 hb1 hk1 hL1 C1 HBB HKK
      go_wp2_with fail
      (with_reducible refine C2.out.mono ?_)
      rintro e w2 ⟨role2, g2, c2, _, rfl, hr2, hk2, -, -, hb2⟩
      have C3 := text_c w2 hr2.1.rd HD1.out (by have := HL1.out; omega)
      rw [← HL1.out.1] at C3
      obtain ⟨t, ht⟩ : ∃ t, t = (⟨(htext (bs.take 200)).toArray⟩ : ByteArray) := ⟨_, rfl⟩
      have htz : t.size ≤ 1000 := by
        have := HL1.out
        rw [ht]
        show (htext (bs.take 200)).toArray.size ≤ 1000
        rw [List.size_toArray, htext, List.length_cons, List.length_cons, hxs_len]
        omega
      rw [← ht] at C3
      have C3 := Lib.hid C3
      have HB2 := Lib.hid (HB1.out.trans hb2)
      have HK2 := Lib.hid hk2
      have HT : Hid (t.size ≤ 1000) := htz
      clear hr2 hk2 hb2 ht htz C2 HB1
      go_wp2_with fail
      (with_reducible refine C3.out.mono ?_)
      rintro e w3 ⟨rfl, hb3⟩
      have hk3 := HK2.out.below hb3
      have C4 := Lib.hid (bytes_h t w3 (by have := HT.out; omega))
      have HK3 := Lib.hid hk3
      have HB3 := Lib.hid (HB2.out.trans (hb3.mono HB2.out.size))
      obtain ⟨o1, o2⟩ := bres_own t (by have := HT.out; omega)
      have HO : Hid (Ds 256 (bres t).1 ∧ (bres t).1.length ≤ 70368744177665) := ⟨o1, o2⟩
      clear o1 o2 hb3 hk3 C3 HB2 HK2
      generalize bres t = R at *
      obtain ⟨R1, R2, R3⟩ := R
      simp only at C4 HO
      go_wp2_with fail
      (with_reducible refine C4.out.mono ?_)
      rintro e w4 ⟨v4, rfl, ha4, hb4⟩
      obtain ⟨A4, c4, rfl⟩ := ha4.form
      have hb5 : Below w4.heap.size w4 (w4.alloc (.cells #[.int .i64 (R2 : Nat), .int .i64 (R3 : Nat)] 25)) := (Below.refl _ _).alloc (Nat.le_refl _) _
      have hk5 := HK3.out.below (hb4.trans (hb5.mono hb4.size))
      have hv5 := (AccO.of ha4 HO.out.1).below hb5
      have C5 := hk5.keep hv5 (HK3.out.fresh ha4) HO.out.2
      obtain ⟨M, hM⟩ : ∃ M, M = R1.length := ⟨_, rfl⟩
      rw [← hM] at C5 ⊢
      have C5 := Lib.hid C5
      have HB5 := Lib.hid (HB3.out.trans ((hb4.trans (hb5.mono hb4.size)).mono HB3.out.size))
      clear hb5 hk5 hv5 ha4 hb4 hM C4 HB3 HK3 HO
      go_wp2_with fail
      (with_reducible refine C5.out.mono ?_)
      rintro e w6 ⟨rfl, role6, hk6, -, -, -, hb6⟩
      have HK6 := Lib.hid hk6
      have HB6 := Lib.hid (HB5.out.trans hb6)
      have C6 := Lib.hid (bytes_h s w6 (Nat.le_trans HS.out (by decide)))
      obtain ⟨o1, o2⟩ := bres_own s HS.out
      have HO : Hid (Ds 256 (bres s).1 ∧ (bres s).1.length ≤ 70368744177665) := ⟨o1, o2⟩
      clear o1 o2 hk6 hb6 C5 HB5
      generalize bres s = Q at *
      obtain ⟨Q1, Q2, Q3⟩ := Q
      simp only at C6 HO
      go_wp2_with fail
      (with_reducible refine C6.out.mono ?_)
      rintro e w7 ⟨v7, rfl, ha7, hb7⟩
      obtain ⟨A7, c7, rfl⟩ := ha7.form
      have hk7 := HK6.out.below hb7
      have C7 := hk7.keep (AccO.of ha7 HO.out.1) (HK6.out.fresh ha7) HO.out.2
      obtain ⟨M, hM⟩ : ∃ M, M = Q1.length := ⟨_, rfl⟩
      rw [← hM] at C7 ⊢
      have C7 := Lib.hid C7
      have HB7 := Lib.hid (HB6.out.trans (hb7.mono HB6.out.size))
      have ej : IntKind.i64.wrap ((j : Int) + 1) = (j : Int) + 1 := IntWalk.i64_in _ (by have := HJ.out; omega)
      clear hk7 ha7 hb7 hM C6 HB6 HK6 HO
      go_wp2_with fail
      (with_reducible refine C7.out.mono ?_)
      rintro e w8 ⟨rfl, role8, hk8, -, -, -, hb8⟩
      have HK8 := Lib.hid hk8
      have HB8 := Lib.hid (HB7.out.trans hb8)
      clear hk8 hb8 C7 HB7
      go_wp2_with fail
      exact ⟨⟨j + 1, k + 1, role8, HJ.out.1, by simp, by have := HJ.out.2; show _ = _; omega, HK8.out, HB8.out⟩, by simp [intOf]; have := HJ.out; omega⟩
    · have hj1 : ¬ ((j : Int) < 3) := by omega
      have C1 := Lib.hid (hk.out.back (by have := hkj.out; omega))
      have HBB := Lib.hid hb.out
      clear hk hb hj3 hkj hj HK HBW
      go_wp2_with fail
      (with_reducible refine C1.out.mono ?_)
      rintro e w1 ⟨rfl, hb1, hc1⟩
      have C2 := Lib.hid hc1
      have HB1 := Lib.hid (HBB.out.trans hb1)
      clear hb1 hc1 C1 HBB
      go_wp2_with fail
      (with_reducible refine C2.out.mono ?_)
      rintro e w2 ⟨rfl, hb2⟩
      have HB2 := Lib.hid (HB1.out.trans hb2)
      clear hb2 C2 HB1
      go_wp2_with fail
      (with_reducible refine (hwakes_c _).mono ?_)
      rintro e w5 ⟨rfl, hb5⟩
      have HB5 := Lib.hid (HB2.out.trans (hb5.mono HB2.out.size))
      clear hb5 HB2
      go_wp2_with fail
      go_ret
      exact ⟨rfl, HB5.out⟩
end Go.Proofs.Ytgmpoefgcimaiaa
