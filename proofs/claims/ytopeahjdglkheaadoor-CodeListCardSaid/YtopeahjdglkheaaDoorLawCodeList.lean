/- The law CodeList over package code's contracts. (Written by wip/gencdlistlaw.py.) -/
import Derived.Test.YtopeahjdglkheaaDoorCdWakes
import Derived.Test.YtopeahjdglkheaaDoorCdApiL
import Derived.Test.YtopeahjdglkheaaDoorCdOps
namespace Go.Proofs.YtopeahjdglkheaaDoor
open Go.RowKit

section
variable {ops : Array Oper} {T : Facts} {o : Oper} {a : Act} {w : World}
theorem cd_idxS {g k c m : Nat} (x y : Operand) (ho : o.op = .indexAddr 39 x y) (hm : m < k) (hx : a.eval x = .slice (some ⟨g, 0, none⟩) k c) (hy : a.eval y = .int .i64 (m : Nat)) (hw : Region.wanted o (yielded ops a.tmps) = true) (hf : factTo T o.dst (.pointer (some ⟨g, m, none⟩)) w) : relStep Tryd.prog ops T o a w :=
  relStep_val (.pointer (some ⟨g, m, none⟩)) hw hf (by
    have h1 : (m : Int) < (k : Int) := by omega
    unfold execOp
    rw [ho]
    simp only [hx, hy]
    go_simp)
theorem cd_loadS {g k : Nat} {v : Value} (x : Operand) (ho : o.op = .load 9 x) (hx : a.eval x = .pointer (some ⟨g, k, none⟩)) (hc : w.cell? ⟨g, k, none⟩ = some v) (hw : Region.wanted o (yielded ops a.tmps) = true) (hf : factTo T o.dst v w) : relStep Tryd.prog ops T o a w :=
  relStep_val v hw hf (by
    unfold execOp
    rw [ho]
    simp only [hx]
    go_simp)
theorem cd_neS {s : ByteArray} (x y : Operand) (t : TypeId) (ho : o.op = .binOp .neq 9 x y t) (hx : a.eval x = .string s) (hy : a.eval y = .string s) (hw : Region.wanted o (yielded ops a.tmps) = true) (hf : factTo T o.dst (.bool false) w) : relStep Tryd.prog ops T o a w :=
  relStep_val (.bool false) hw hf (by
    unfold execOp
    rw [ho]
    simp only [hx, hy]
    go_simp)
end

set_option maxRecDepth 100000 in
set_option maxHeartbeats 12800000 in
theorem codeList_c (w : World) (hP : PowAt w) (f : Int) (_ : -9223372036854775808 ≤ f) (_ : f < 9223372036854775808) {A : Option Addr} {c : Nat} {bs : List Nat} (h : Rd .u8 w A c bs) (hd : Ds 256 bs) : Calls Tryd.prog 5 #[.int .i64 f, .slice A bs.length c] w (RetV (.bool true) w) := by
  obtain ⟨n, hn⟩ : ∃ n, n = bs.length := ⟨_, rfl⟩
  obtain ⟨b, hb0⟩ : ∃ b, b = bs.take 3000 := ⟨_, rfl⟩
  obtain ⟨L, hL⟩ : ∃ L, L = lst f 0 0 b := ⟨_, rfl⟩
  obtain ⟨k, hk⟩ : ∃ k, k = L.length := ⟨_, rfl⟩
  have hlb : b.length ≤ 3000 := by rw [hb0, List.length_take]; omega
  have hk2 : k ≤ 3000 := by rw [hk, hL]; exact Nat.le_trans (lst_len f 0 0 b) hlb
  have KF : Hid (∀ u, Below w.heap.size w u → Calls Tryd.prog 15 #[.slice A n c] u (RetR (fun w' v => Byt w' v b) u)) := fun u hu => by rw [hn, hb0]; exact few_c u (h.below hu) hd
  rw [← hn]
  have KL : Hid (∀ u v, Below w.heap.size w u → Byt u v b → Calls Tryd.prog 20 #[.int .i64 f, v] u (fun e w' => ∃ A c, e = .returned (.slice A k c) ∧ SsAt w' A L ∧ Below u.heap.size u w')) := fun u v hu hv => by
    rw [hk, hL]
    obtain ⟨A, c, rfl, hr, hd⟩ := hv
    exact cdList f u (hP.below hu) hr hd hlb
  have KR : Hid (∀ u v, Byt u v b → Calls Tryd.prog 21 #[.int .i64 f, v] u (fun e w' => ∃ A c, e = .returned (.slice A k c) ∧ SsAt w' A L ∧ Below u.heap.size u w')) := fun u v hv => by
    rw [hk, hL]
    obtain ⟨A, c, rfl, hr, hd⟩ := hv
    exact (rlist_c f u hr hd (by omega)).mono fun _ _ h => h.weak
  have HK := Lib.hid hk
  have HK2 := Lib.hid hk2
  have HKW : Hid (∀ u, Calls Tryd.prog 14 #[] u (RetV (.bool true) u)) := fun u => cdwakes_c u
  clear hn hb0 hL hk hlb h hd hk2 hP
  go_enter Tryd.func5, Tryd.ntmps5
  go_wp2_with fail
  (with_reducible refine (KF.out _ (Below.refl _ _)).mono ?_)
  rintro e w1 ⟨v, rfl, hby, hb1⟩
  have HBY := Lib.hid hby
  have HB1 := Lib.hid hb1
  clear hby hb1
  go_wp2_with fail
  (with_reducible refine (KL.out _ _ HB1.out HBY.out).mono ?_)
  rintro e w2 ⟨A5, c5, rfl, hat5, hb2⟩
  have HAT5 := Lib.hid hat5
  have HB2 := Lib.hid (HB1.out.trans (hb2.mono HB1.out.size))
  clear hat5 hb2 HBY HB1 KL
  go_wp2_with fail
  (with_reducible refine (KF.out _ HB2.out).mono ?_)
  rintro e w3 ⟨v', rfl, hby, hb3⟩
  have HBY := Lib.hid hby
  have HAT5' := Lib.hid (HAT5.out.below hb3)
  have HB3 := Lib.hid (HB2.out.trans (hb3.mono HB2.out.size))
  clear hby hb3 HB2 HAT5 KF
  go_wp2_with fail
  (with_reducible refine (KR.out _ _ HBY.out).mono ?_)
  rintro e w4 ⟨A6, c6, rfl, hat6, hb4⟩
  have HAT6 := Lib.hid hat6
  have HAT5 := Lib.hid (HAT5'.out.below hb4)
  have HB4 := Lib.hid (HB3.out.trans (hb4.mono HB3.out.size))
  clear hat6 hb4 HBY HB3 HAT5' KR
  go_wp2_with fail
  go_loopw [7] (fun i wr => ∃ m : Nat, i = .int .i64 (m : Nat) ∧ m ≤ k ∧ Hid (SsAt wr A5 L) ∧ Hid (SsAt wr A6 L) ∧ Hid (Below w.heap.size w wr)) (fun i _ => k - (intOf i).toNat)
  case atStart => exact ⟨0, rfl, Nat.zero_le _, HAT5, HAT6, HB4⟩
  case round =>
    clear HAT5 HAT6 HB4
    obtain ⟨m, rfl, hm, h5, h6, HB⟩ := hrel
    have hk3 : k ≤ 3000 := HK2.out
    by_cases h0 : m < k
    · obtain ⟨x, hx⟩ : ∃ x, L[m]? = some x := ⟨_, List.getElem?_eq_getElem (by rw [← HK.out]; exact h0)⟩
      obtain ⟨g5, rfl, hg5, c5m⟩ := h5.out m x hx
      obtain ⟨g6, rfl, hg6, c6m⟩ := h6.out m x hx
      rw [Nat.zero_add] at c5m c6m
      have C5 := Lib.hid (And.intro hg5 c5m)
      have C6 := Lib.hid (And.intro hg6 c6m)
      have HMK := Lib.hid h0
      have h0i : (m : Int) < (k : Int) := by omega
      clear hg5 c5m hg6 c6m hx h0
      go_upto_region 8 with (fail)
      refine wp_region_see 9 [27, 28, 29, 30, 31, 32, 33, 34, 35] [(27, .is (.slice (some ⟨g5, 0, none⟩) k c5)), (28, .is (.int .i64 (m : Nat))), (29, .is (.pointer (some ⟨g5, m, none⟩))), (30, .is (.string x)), (31, .is (.slice (some ⟨g6, 0, none⟩) k c6)), (32, .is (.int .i64 (m : Nat))), (33, .is (.pointer (some ⟨g6, m, none⟩))), (34, .is (.string x)), (35, .is (.bool false))] (by kernel_rfl) (by kernel_rfl) (by rfl) ?_ ?_
      · refine seeOps_cons ?_ (seeOps_cons ?_ (seeOps_cons ?_ (seeOps_cons ?_ (seeOps_cons ?_ (seeOps_cons ?_ (seeOps_cons ?_ (seeOps_cons ?_ (seeOps_cons ?_ seeOps_nil))))))))
        · intro w9 hb9 fr hout hin
          have h5 : fr.tmps.getD 5 undef = .slice (some ⟨g5, 0, none⟩) k c5 := hout 5 (by decide)
          clear hout hin
          exact relStep_move (.tmp 5) rfl (wanted_none rfl) (by show fr.tmps.getD 5 undef = _; rw [h5])
        · intro w9 hb9 fr hout hin
          have h7 : fr.tmps.getD 7 undef = .int .i64 (m : Nat) := hout 7 (by decide)
          clear hout hin
          exact relStep_move (.tmp 7) rfl (wanted_none rfl) (by show fr.tmps.getD 7 undef = _; rw [h7])
        · intro w9 hb9 fr hout hin
          have h27 : fr.tmps.getD 27 undef = .slice (some ⟨g5, 0, none⟩) k c5 := hin 27 (by decide) (by decide)
          have h28 : fr.tmps.getD 28 undef = .int .i64 (m : Nat) := hin 28 (by decide) (by decide)
          clear hout hin
          exact cd_idxS (.tmp 27) (.tmp 28) rfl HMK.out h27 h28 (wanted_none rfl) rfl
        · intro w9 hb9 fr hout hin
          have h29 : fr.tmps.getD 29 undef = .pointer (some ⟨g5, m, none⟩) := hin 29 (by decide) (by decide)
          clear hout hin
          exact cd_loadS (.tmp 29) rfl h29 ((hb9.cell (p := ⟨_, m, none⟩) C5.out.1).trans C5.out.2) (wanted_none rfl) rfl
        · intro w9 hb9 fr hout hin
          have h6 : fr.tmps.getD 6 undef = .slice (some ⟨g6, 0, none⟩) k c6 := hout 6 (by decide)
          clear hout hin
          exact relStep_move (.tmp 6) rfl (wanted_none rfl) (by show fr.tmps.getD 6 undef = _; rw [h6])
        · intro w9 hb9 fr hout hin
          have h7 : fr.tmps.getD 7 undef = .int .i64 (m : Nat) := hout 7 (by decide)
          clear hout hin
          exact relStep_move (.tmp 7) rfl (wanted_none rfl) (by show fr.tmps.getD 7 undef = _; rw [h7])
        · intro w9 hb9 fr hout hin
          have h31 : fr.tmps.getD 31 undef = .slice (some ⟨g6, 0, none⟩) k c6 := hin 31 (by decide) (by decide)
          have h32 : fr.tmps.getD 32 undef = .int .i64 (m : Nat) := hin 32 (by decide) (by decide)
          clear hout hin
          exact cd_idxS (.tmp 31) (.tmp 32) rfl HMK.out h31 h32 (wanted_none rfl) rfl
        · intro w9 hb9 fr hout hin
          have h33 : fr.tmps.getD 33 undef = .pointer (some ⟨g6, m, none⟩) := hin 33 (by decide) (by decide)
          clear hout hin
          exact cd_loadS (.tmp 33) rfl h33 ((hb9.cell (p := ⟨_, m, none⟩) C6.out.1).trans C6.out.2) (wanted_none rfl) rfl
        · intro w9 hb9 fr hout hin
          have h30 : fr.tmps.getD 30 undef = .string x := hin 30 (by decide) (by decide)
          have h34 : fr.tmps.getD 34 undef = .string x := hin 34 (by decide) (by decide)
          clear hout hin
          exact cd_neS (.tmp 30) (.tmp 34) _ rfl h30 h34 (wanted_none rfl) rfl
      intro X9 hb9
      refine relAsk_in (by rfl) ?_
      intro v27 h27
      obtain rfl : v27 = .slice (some ⟨g5, 0, none⟩) k c5 := h27
      refine relAsk_in (by rfl) ?_
      intro v28 h28
      obtain rfl : v28 = .int .i64 (m : Nat) := h28
      refine relAsk_in (by rfl) ?_
      intro v29 h29
      obtain rfl : v29 = .pointer (some ⟨g5, m, none⟩) := h29
      refine relAsk_in (by rfl) ?_
      intro v30 h30
      obtain rfl : v30 = .string x := h30
      refine relAsk_in (by rfl) ?_
      intro v31 h31
      obtain rfl : v31 = .slice (some ⟨g6, 0, none⟩) k c6 := h31
      refine relAsk_in (by rfl) ?_
      intro v32 h32
      obtain rfl : v32 = .int .i64 (m : Nat) := h32
      refine relAsk_in (by rfl) ?_
      intro v33 h33
      obtain rfl : v33 = .pointer (some ⟨g6, m, none⟩) := h33
      refine relAsk_in (by rfl) ?_
      intro v34 h34
      obtain rfl : v34 = .string x := h34
      refine relAsk_in (by rfl) ?_
      intro v35 h35
      obtain rfl : v35 = .bool false := h35
      refine relAsk_nil ?_
      refine wpList_nil ?_
      go_simp
      have HB9 := Lib.hid (HB.out.trans (hb9.mono HB.out.size))
      have H5 := Lib.hid (h5.out.below hb9)
      have H6 := Lib.hid (h6.out.below hb9)
      clear hb9 HB h5 h6 C5 C6
      go_wp2_with fail
      go_roundw
      case rel => exact ⟨m + 1, by go_num, by have := HMK.out; omega, H5, H6, HB9⟩
      case measure => have := HMK.out; simp [intOf]; omega
    · have h0i : ¬ (m : Int) < (k : Int) := by omega
      go_wp2_with fail
      (with_reducible refine (HKW.out _).mono ?_)
      rintro e w8 ⟨rfl, hb8⟩
      have HB8 := Lib.hid (HB.out.trans (hb8.mono HB.out.size))
      clear hb8 HB HKW
      go_wp2_with fail
      exact bodyPost_ret (v := .bool true) (by simp [results, Tryd.results5, go_sem]) rfl ⟨rfl, HB8.out⟩
end Go.Proofs.YtopeahjdglkheaaDoor
