/- The law HexaRunes. -/
import Derived.Test.YtgmpoefgcimaiaaHUtf
import Derived.Test.YtgmpoefgcimaiaaHWakes
import Derived.Test.YtgmpoefgcimaiaaHFields
import Derived.Test.YtgmpoefgcimaiaaTwin
import Derived.Laws.Runes
import Derived.Deep.QuietTactic
import Derived.BigQuiet
namespace Go.Proofs.Ytgmpoefgcimaiaa
open Go.RowKit

theorem below_drewQ' {B : Nat} {a w : World} (h : Below B a w) (n : Nat) : Below B a (w.drewN n) := ⟨h.os, h.tape, h.output, h.size, h.block⟩
theorem app_list (a b : ByteArray) : (a ++ b).data.toList = a.data.toList ++ b.data.toList := by simp
theorem app_size (a b : ByteArray) : (a ++ b).size = a.size + b.size := by simp
theorem encL_len (c : Nat) : 1 ≤ (encL c).length ∧ (encL c).length ≤ 4 := by
  unfold encL
  split <;> (try split) <;> (try split) <;> simp
theorem enc_size (z : Int) : (Utf8.encode z).size = (encL (rn z)).length := by
  have := congrArg List.length (encode_rn z)
  rw [List.length_map] at this
  exact this
theorem enc_decode (z : Int) : Utf8.decode (Utf8.encode z) 0 = (rn z, (Utf8.encode z).size) := by
  have h : HasB (Utf8.encode z) 0 ((Utf8.encode z).data.toList.map (·.toNat)) := HasB.of (p := []) (q := []) (by simp)
  rw [encode_rn] at h
  rw [decode_has (rn_ok z) h, enc_size]
theorem four_cellsR {w : World} {g : Nat} {u v x y : Value} {t : TypeId} (h : w.heap[g]? = some (.cells #[u, v, x, y] t (0, 0))) : w.cell? ⟨g, 0, none⟩ = some u ∧ w.cell? ⟨g, 1, none⟩ = some v ∧ w.cell? ⟨g, 2, none⟩ = some x ∧ w.cell? ⟨g, 3, none⟩ = some y := by
  refine ⟨?_, ?_, ?_, ?_⟩ <;> (rw [cell_of_row _ _ _ _ t (0, 0) h]; rfl)

set_option maxRecDepth 100000 in
set_option maxHeartbeats 6400000 in
theorem hexaRunes_c {A : Option Addr} {c : Nat} {raw : List Nat} (w : World) (h : Rd .u8 w A c raw) (hd : Ds 256 raw) (odd : Bool) (z : Int) (hz0 : -2147483648 ≤ z) (hz1 : z < 2147483648) (beh : ByteArray) (hb : beh.size ≤ 140737488351232) :
    Calls Try.prog 4 #[.agg #[.slice A raw.length c, .bool odd, .int .i32 z, .string beh]] w (RetV (.bool true) w) := by
  have hbx : Below w.heap.size w (w.alloc (.cells #[.slice A raw.length c, .bool odd, .int .i32 z, .string beh] 44)) := (Below.refl _ _).alloc (Nat.le_refl _) _
  have hc := heap_alloc_new w (.cells #[.slice A raw.length c, .bool odd, .int .i32 z, .string beh] 44)
  have HRD := Lib.hid (h.below hbx)
  have HDR := Lib.hid hd
  obtain ⟨x0, x1, x2, x3⟩ := four_cellsR hc
  obtain ⟨p, hp⟩ : ∃ p, p = raw.take 100 := ⟨_, rfl⟩
  have hpl : p.length ≤ 100 := by rw [hp, List.length_take]; omega
  have HPL := Lib.hid hpl
  have HPE := Lib.hid hp
  have HPD := Lib.hid (show Ds 256 p by rw [hp]; exact hd.take 100)
  have HBX := Lib.hid hbx
  have HBE := Lib.hid hb
  have HC := Lib.hid hc
  obtain ⟨L, hL⟩ : ∃ L, L = raw.length := ⟨_, rfl⟩
  have HL := Lib.hid hL
  have HZ : Hid (-2147483648 ≤ z ∧ z < 2147483648) := ⟨hz0, hz1⟩
  clear h hd hbx hc hp hpl hb hz0 hz1
  rw [← hL] at HBX HC HRD x0 x1 x2 x3 ⊢
  clear hL
  go_enter Try.func4, Try.ntmps4
  go_upto_region 1 with (fail)
  generalize hWe : w.alloc (.cells #[.slice A L c, .bool odd, .int .i32 z, .string beh] 44) = W at *
  clear hWe
  go_quiet (fail)
  go_simp
  have kt : Calls Try.prog 16 #[.slice A L c, .int .i64 100] (W.drewN nq) (RetR (fun w' v => Byt w' v p) (W.drewN nq)) := by
    have h := twin_c (W.drewN nq) (HRD.out.drewN nq) HDR.out 100 (by omega) (by omega)
    rw [← HPE.out, ← HL.out] at h
    exact h
  have KT := Lib.hid kt
  clear kt
  go_wp2_with fail
  (with_reducible refine KT.out.mono ?_)
  rintro e w1 ⟨v1, rfl, ⟨A1, c1, rfl, hr1, hd1⟩, hb1⟩
  have KX := Lib.hid (text_c w1 hr1 hd1 (by have := HPL.out; omega))
  have HB1 := Lib.hid ((below_drewQ' HBX.out nq).trans (hb1.mono (by have := HBX.out.size; exact this)))
  obtain ⟨M, hM⟩ : ∃ M, M = p.length := ⟨_, rfl⟩
  have HM := Lib.hid hM
  rw [← hM] at KX ⊢
  clear KT hr1 hd1 hb1 hM HBX x0 x1 x2 x3 HC HRD HDR
  go_wp2_with fail
  (with_reducible refine KX.out.mono ?_)
  rintro e w2 ⟨rfl, hb2⟩
  have HB2 := Lib.hid (HB1.out.trans (hb2.mono HB1.out.size))
  obtain ⟨t0, ht0⟩ : ∃ t0 : ByteArray, t0 = ⟨(htext p).toArray⟩ := ⟨_, rfl⟩
  rw [← ht0]
  have hts : t0.size = 2 + 2 * M := by rw [ht0, HM.out]; show (htext p).length = _; unfold htext; simp only [List.length_cons, hxs_len]; omega
  have HT0 := Lib.hid ht0
  have HTS := Lib.hid hts
  clear hb2 HB1 KX ht0 hts
  obtain ⟨tS, htS⟩ : ∃ tS : ByteArray, tS = (if odd = true then t0 ++ ⟨#[102]⟩ else t0) := ⟨_, rfl⟩
  have htl : tS.data.toList = htext p ++ (if odd = true then [102] else []) := by
    rw [htS]
    cases odd with
    | true => rw [if_pos rfl, if_pos rfl, app_list, HT0.out]
    | false => rw [if_neg (by simp), if_neg (by simp), HT0.out]; simp
  have hsz : tS.size = 2 + 2 * p.length + (if odd = true then 1 else 0) := by
    show tS.data.toList.length = _
    rw [htl, List.length_append]
    unfold htext
    simp only [List.length_cons, hxs_len]
    cases odd <;> simp <;> omega
  obtain ⟨ob, hob⟩ : ∃ ob, ob = odd := ⟨_, rfl⟩
  rw [← hob] at htl hsz
  have HTL := Lib.hid htl
  have HSZ := Lib.hid hsz
  rw [hob] at hsz
  clear hob
  have HTSB : Hid (tS.size ≤ 203) := by show _ ≤ _; rw [hsz]; have := HPL.out; split <;> omega
  obtain ⟨wz, hwz⟩ : ∃ wz, wz = Utf8.encode z := ⟨_, rfl⟩
  have hwl := encL_len (rn z)
  have hws := enc_size z
  have hwd := enc_decode z
  obtain ⟨r, hr⟩ : ∃ r, r = rn z := ⟨_, rfl⟩
  have hrb : r ≤ 1114111 := by rw [hr]; have := rn_ok z; unfold vcp at this; omega
  rw [← hwz, ← hr] at hwd
  have HWZ : Hid (wz = Utf8.encode z ∧ r = rn z ∧ 1 ≤ wz.size ∧ wz.size ≤ 4 ∧ r ≤ 1114111) := ⟨hwz, hr, by rw [hwz]; omega, by rw [hwz]; omega, hrb⟩
  have HWD := Lib.hid hwd
  have H1 : Hid ((w2.alloc (.stringIter wz 0)).heap[w2.heap.size]? = some (.stringIter wz 0)) := by show _ = _; simpa using heap_alloc_new w2 (.stringIter wz 0)
  have HBI : Hid (Below w2.heap.size w2 (w2.alloc (.stringIter wz 0))) := (Below.refl w2.heap.size w2).alloc (Nat.le_refl _) (.stringIter wz 0)
  have k1 : ¬ 9223372036854775807 < t0.size + 1 := by have := HTS.out; have := HM.out; have := HPL.out; omega
  have hwz' : Utf8.encode z = wz := hwz.symm
  clear htl hsz hwl hws hwd hr hrb hwz HT0 HTS
  cases odd
  case' true =>
    have htS' : t0 ++ ⟨#[102]⟩ = tS := by rw [htS, if_pos rfl]
    clear htS
  case' false =>
    have htS' : t0 = tS := by rw [htS, if_neg (by simp)]
    clear htS
  all_goals
    go_wp2_with fail
    clear k1 htS' hwz'
    go_loopw [10] (fun cv wr => ∃ (pos : Nat), Hid (wr.heap[w2.heap.size]? = some (.stringIter wz pos)) ∧ Hid (pos = 0 ∨ (pos = wz.size ∧ digOk (r : Int) = false)) ∧ Hid (Below w2.heap.size w2 wr))
      (fun _ wr => itLeft w2.heap.size wr)
    case atStart => exact ⟨0, H1.out, .inl rfl, HBI.out⟩
    case round =>
      obtain ⟨pos, hit, hpos, hb⟩ := hrel
      have hlt : w2.heap.size < wr.heap.size := (Array.getElem?_eq_some_iff.1 hit.out).1
      rcases hpos.out with rfl | ⟨hpe, hdig⟩
      · have hnx : ∀ ty, (Instr.next (.pointer (some ⟨w2.heap.size, 0, none⟩)) true ty).run Try.prog wr = .ok (.tuple #[.bool true, .int .i64 0, .int .i32 (r : Nat)]) (wr.iterAt w2.heap.size wz wz.size) := fun ty => by
          have h := Lib.run_next_any_at (P := Try.prog) wr w2.heap.size wz 0 ty hit.out (by have := HWZ.out; omega)
          rw [HWD.out] at h
          simpa using h
        have hit2 := Lib.iterAt_heap wr w2.heap.size wz 0 wz.size hit.out
        have hb2 := Lib.below_iterAt hb.out (k := w2.heap.size) (Nat.le_refl _) wz wz.size
        have hm : itLeft w2.heap.size (wr.iterAt w2.heap.size wz wz.size) < itLeft w2.heap.size wr := by
          rw [itLeft_at hit2, itLeft_at hit.out]; have := HWZ.out; omega
        obtain ⟨W3, hW3⟩ : ∃ W3, W3 = wr.iterAt w2.heap.size wz wz.size := ⟨_, rfl⟩
        rw [← hW3] at hnx hit2 hb2 hm
        have HIT := Lib.hid hit2
        have HB3 := Lib.hid hb2
        have HMS := Lib.hid hm
        clear hit hpos hb hlt hit2 hb2 hm hW3
        cases hdg : digOk (r : Int) with
        | true =>
          have h3 : (48 ≤ r ∧ r ≤ 57) ∨ (97 ≤ r ∧ r ≤ 102) ∨ (65 ≤ r ∧ r ≤ 70) := by
            unfold digOk at hdg
            simp only [Bool.or_eq_true, decide_eq_true_eq] at hdg
            omega
          clear hdg
          rcases h3 with ⟨a1, a2⟩ | ⟨a1, a2⟩ | ⟨a1, a2⟩
          case' inl =>
            have k1 : (48 : Int) ≤ (r : Int) := by omega
            have k2 : (r : Int) ≤ 57 := by omega
            clear a1 a2
          case' inr.inl =>
            have k1 : (48 : Int) ≤ (r : Int) := by omega
            have k2 : ¬ (r : Int) ≤ 57 := by omega
            have k3 : (97 : Int) ≤ (r : Int) := by omega
            have k4 : (r : Int) ≤ 102 := by omega
            clear a1 a2
          case' inr.inr =>
            have k1 : (48 : Int) ≤ (r : Int) := by omega
            have k2 : ¬ (r : Int) ≤ 57 := by omega
            have k3 : ¬ (97 : Int) ≤ (r : Int) := by omega
            have k4 : (65 : Int) ≤ (r : Int) := by omega
            have k5 : (r : Int) ≤ 70 := by omega
            clear a1 a2
          all_goals
            go_wp2_with fail
            (with_reducible refine (hwakes_c _).mono ?_)
            rintro e w5 ⟨rfl, hb5⟩
            have HB5 := Lib.hid (HB2.out.trans ((HB3.out.trans (hb5.mono HB3.out.size)).mono HB2.out.size))
            clear hb5 HB3 HIT
            go_wp2_with fail
            go_ret
            exact ⟨rfl, HB5.out⟩
        | false =>
          have HDG := Lib.hid hdg
          have h3 : r < 48 ∨ (57 < r ∧ r < 65) ∨ (70 < r ∧ r < 97) ∨ 102 < r := by
            unfold digOk at hdg
            simp only [Bool.or_eq_false_iff, decide_eq_false_iff_not] at hdg
            omega
          clear hdg
          rcases h3 with a1 | ⟨a1, a2⟩ | ⟨a1, a2⟩ | a1
          case' inl =>
            have k1 : ¬ (48 : Int) ≤ (r : Int) := by omega
            have k3 : ¬ (97 : Int) ≤ (r : Int) := by omega
            have k4 : ¬ (65 : Int) ≤ (r : Int) := by omega
            clear a1
          case' inr.inl =>
            have k1 : (48 : Int) ≤ (r : Int) := by omega
            have k2 : ¬ (r : Int) ≤ 57 := by omega
            have k3 : ¬ (97 : Int) ≤ (r : Int) := by omega
            have k4 : ¬ (65 : Int) ≤ (r : Int) := by omega
            clear a1 a2
          case' inr.inr.inl =>
            have k1 : (48 : Int) ≤ (r : Int) := by omega
            have k2 : ¬ (r : Int) ≤ 57 := by omega
            have k3 : ¬ (97 : Int) ≤ (r : Int) := by omega
            have k4 : (65 : Int) ≤ (r : Int) := by omega
            have k5 : ¬ (r : Int) ≤ 70 := by omega
            clear a1 a2
          case' inr.inr.inr =>
            have k1 : (48 : Int) ≤ (r : Int) := by omega
            have k2 : ¬ (r : Int) ≤ 57 := by omega
            have k3 : (97 : Int) ≤ (r : Int) := by omega
            have k4 : ¬ (r : Int) ≤ 102 := by omega
            have k5 : (65 : Int) ≤ (r : Int) := by omega
            have k6 : ¬ (r : Int) ≤ 70 := by omega
            clear a1
          all_goals
            go_wp2_with fail
            exact ⟨⟨_, HIT.out, .inr ⟨rfl, trivial⟩, HB3.out⟩, HMS.out⟩
      · have hnx : ∀ ty, (Instr.next (.pointer (some ⟨w2.heap.size, 0, none⟩)) true ty).run Try.prog wr = _ := fun ty => Lib.run_next_end_at wr w2.heap.size wz pos ty hit.out (by omega)
        obtain ⟨sF, hsF⟩ : ∃ sF, sF = (tS ++ wz) ++ beh := ⟨_, rfl⟩
        have hsz1 : (tS ++ wz).size = tS.size + wz.size := app_size _ _
        have hszF : sF.size = tS.size + wz.size + beh.size := by rw [hsF, app_size, app_size]
        have hres := bres_bad (s := sF) (bs := p) (odd := ob) (z := z) (q := beh.data.toList) HPD.out (by
          rw [hsF, app_list, app_list, HTL.out, HWZ.out.1, List.append_assoc]) (by rw [← HWZ.out.2.1]; exact hdig)
        have CB := Lib.hid (bytes_h sF wr (by have := HTSB.out; have := HWZ.out; have := HBE.out; omega))
        rw [hres, ← HSZ.out] at CB
        have k1 : ¬ 9223372036854775807 < tS.size + wz.size := by have := HTSB.out; have := HWZ.out; omega
        have k2 : ¬ 9223372036854775807 < (tS ++ wz).size + beh.size := by have := HTSB.out; have := HWZ.out; have := HBE.out; omega
        have k3 : ¬ 9223372036854775807 < tS.size + wz.size + beh.size := by have := HTSB.out; have := HWZ.out; have := HBE.out; omega
        have HB4 := Lib.hid (HB2.out.trans (hb.out.mono HB2.out.size))
        have hsF' : tS ++ wz ++ beh = sF := hsF.symm
        clear hit hpos hb hlt hpe hdig hsF hres hszF hsz1
        go_wp2_with fail
        (with_reducible refine CB.out.mono ?_)
        rintro e w5 ⟨v5, rfl, hacc, hb5⟩
        obtain ⟨A5, c5, rfl⟩ := hacc.form
        have hA : Below w5.heap.size w5 (w5.alloc (.cells #[.int .i64 2, .int .i64 (tS.size : Nat)] 25)) := (Below.refl _ _).alloc (Nat.le_refl _) _
        have HB6 := Lib.hid (HB4.out.trans ((hb5.trans (hA.mono hb5.size)).mono HB4.out.size))
        obtain ⟨x0, x1, -, -⟩ := two_cells (heap_alloc_new w5 (.cells #[.int .i64 2, .int .i64 (tS.size : Nat)] 25))
        clear hacc hb5 hA HB4 CB k1 k2 k3 hsF'
        go_wp2_with fail
        (with_reducible refine (hwakes_c _).mono ?_)
        rintro e w7 ⟨rfl, hb7⟩
        have HB7 := Lib.hid (HB6.out.trans (hb7.mono HB6.out.size))
        clear hb7 HB6 x0 x1
        go_wp2_with fail
        go_ret
        exact ⟨rfl, HB7.out⟩
end Go.Proofs.Ytgmpoefgcimaiaa
