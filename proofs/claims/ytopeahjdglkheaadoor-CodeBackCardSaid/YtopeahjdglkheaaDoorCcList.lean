/- Package code: line, List. (Written by wip/genccList.py.) -/
import Derived.Test.YtopeahjdglkheaaDoorCdTx
import Derived.Test.YtopeahjdglkheaaDoorCcName
import Derived.Test.YtopeahjdglkheaaDoorCdApi
import Derived.Test.YtopeahjdglkheaaDoorCcLaid
namespace Go.Proofs.YtopeahjdglkheaaDoor
open Go.RowKit

theorem pitoa_c (m : Nat) (hm : m < 1000000000) (w : World) (hP : PowAt w) : Calls Tryd.prog 31 #[.int .i64 (m : Nat)] w (RetV (.string (sOf (decL m))) w) := by
  refine (hstrconv_Itoa m (by omega) (by omega) w hP).mono ?_
  rintro e w' ⟨rfl, k, os, rfl⟩
  refine ⟨?_, Lib.below_grow _ _ (Nat.le_refl _) k os⟩
  rw [← itoa_sOf hm]
  unfold Lib.itoa
  rw [if_neg (by omega), Int.toNat_natCast]
theorem ptext_c {A : Option Addr} {c : Nat} {bs : List Nat} (w : World) (h : Rd .u8 w A c bs) (hd : Ds 256 bs) (hl : bs.length ≤ 16777216) : Calls Tryd.prog 49 #[.slice A bs.length c] w (RetV (.string (sOf (textL bs))) w) := by
  have k := text_c w h hd hl
  rw [tx_same hd] at k
  exact k
/-- The place behind an operation's bytes. -/
def nextZ (f : Int) (n m b : Nat) : Nat := min (m + 1 + skipZ f b) n
def lineV (f : Int) (n m b : Nat) (r : List Nat) : Value := .tuple #[.string (lineZ f m b r), .int .i64 (nextZ f n m b : Nat)]

set_option maxRecDepth 100000 in
set_option maxHeartbeats 6400000 in
theorem pline_c (f : Int) {bb oo c m n b : Nat} {bs : List Nat} (w : World) (hP : PowAt w) (h : Rd .u8 w (some ⟨bb, oo, none⟩) c bs) (hd : Ds 256 bs) (hl : bs.length ≤ 100000000) (hn : n = bs.length) (hb : bs[m]? = some b) :
    Calls Tryd.prog 37 #[.int .i64 f, .slice (some ⟨bb, oo, none⟩) n c, .int .i64 (m : Nat)] w (RetV (lineV f n m b (bs.drop (m + 1))) w) := by
  have hmn : m < n := by rw [hn]; exact (List.getElem?_eq_some_iff.1 hb).1
  have hb256 : b < 256 := hd b (List.mem_of_getElem? hb)
  obtain ⟨b', o', e, hlt, hcell⟩ := h.at_ (by omega)
  injection e with e
  injection e with e1 e2
  subst e1 e2
  have hcw := hcell m (by omega)
  rw [show bs.getD m 0 = b by rw [List.getD_eq_getElem?_getD, hb]; rfl] at hcw
  have hdr : bs.drop m = b :: bs.drop (m + 1) := by
    rw [List.drop_eq_getElem_cons (by omega)]
    rw [List.getElem?_eq_getElem (by omega)] at hb
    injection hb with hb
    rw [hb]
  have hcap := h.le
  have hsp : (⟨#[32]⟩ : ByteArray).size = 1 := rfl
  have KD : Hid (∀ u, Below w.heap.size w u → Calls Tryd.prog 31 #[.int .i64 (m : Nat)] u (RetV (.string (sOf (decL m))) u)) := fun u hu => pitoa_c m (by omega) u (hP.below hu)
  have hds : (sOf (decL m)).size ≤ 10 := by rw [sOf_size]; exact decF_len 9 m
  obtain ⟨D, hD⟩ : ∃ D, D = sOf (decL m) := ⟨_, rfl⟩
  have hns := nameZ_size f b
  obtain ⟨N, hN⟩ : ∃ N, N = nameZ f b := ⟨_, rfl⟩
  have KN : Hid (∀ u, Calls Tryd.prog 13 #[.int .i64 f, .int .i64 (b : Nat)] u (RetV (.string N) u)) := fun u => by rw [hN]; exact pname_c f b u
  rw [← hD] at KD hds
  rw [← hN] at hns
  obtain ⟨T1, hT1⟩ : ∃ T1, T1 = D ++ (⟨#[32]⟩ : ByteArray) := ⟨_, rfl⟩
  have hT1s : T1.size ≤ 11 := by rw [hT1, ByteArray.size_append, hsp]; omega
  have HLN : Hid (lineZ f m b (bs.drop (m + 1)) = if N = ⟨#[]⟩ then ((T1 ++ (⟨#[73, 78, 86, 65, 76, 73, 68]⟩ : ByteArray)) ++ (⟨#[32]⟩ : ByteArray)) ++ sOf (textL [b]) else if 0 < ownZ b then ((T1 ++ N) ++ (⟨#[32]⟩ : ByteArray)) ++ sOf (textL ((bs.drop (m + 1)).take (ownZ b))) else T1 ++ N) := by
    show _ = _
    rw [hT1, hD, hN, ByteArray.append_assoc (b := ⟨#[73, 78, 86, 65, 76, 73, 68]⟩)]; rfl
  have HSKE : Hid (nextZ f n m b = min (m + 1 + if N = ⟨#[]⟩ then 0 else ownZ b) n) := by show _ = _; rw [hN]; rfl
  have hz1 : ¬ 9223372036854775807 < D.size + (⟨#[32]⟩ : ByteArray).size := by rw [hsp]; omega
  have e8 : IntKind.i64.wrap (b : Int) = (b : Int) := IntWalk.i64_in _ (by omega)
  have j2 : IntKind.i64.wrap ((m : Int) + 1) = (m : Int) + 1 := IntWalk.i64_in _ (by omega)
  have h0i : (m : Int) < (n : Int) := by omega
  have HMN := Lib.hid hmn
  have HCAP := Lib.hid hcap
  have HT1S := Lib.hid hT1s
  have HNS := Lib.hid hns
  have HB256 := Lib.hid hb256
  have HDR := Lib.hid hdr
  have HT1 := Lib.hid hT1.symm
  have HR := Lib.hid h
  have HD := Lib.hid hd
  have HN := Lib.hid hn
  have HL := Lib.hid hl
  unfold lineV
  obtain ⟨LZ, hLZ⟩ : ∃ LZ, LZ = lineZ f m b (bs.drop (m + 1)) := ⟨_, rfl⟩
  obtain ⟨NX, hNX⟩ : ∃ NX, NX = nextZ f n m b := ⟨_, rfl⟩
  rw [← hLZ] at HLN ⊢
  rw [← hNX] at HSKE ⊢
  clear hLZ hNX hP h hd hl hn hb hmn hdr hcell hlt hcap hds hsp hns hD hN hT1 hT1s hb256
  have HZ1 := Lib.hid hz1
  clear hz1
  go_enter Tryd.func37, Tryd.ntmps37
  go_wp2_with fail
  (with_reducible refine (KN.out _).mono ?_)
  rintro e w2 ⟨rfl, hb2⟩
  have HB2 := Lib.hid hb2
  clear KN hb2 hcw
  have hz1 := HZ1.out
  go_wp2_with fail
  (with_reducible refine (KD.out _ HB2.out).mono ?_)
  rintro e w3 ⟨rfl, hb3⟩
  have HB3 := Lib.hid (HB2.out.trans (hb3.mono HB2.out.size))
  clear KD hb3 HB2
  go_upto_region 4 with (fail)
  rw [show D ++ (⟨#[32]⟩ : ByteArray) = T1 from HT1.out]
  clear hz1 HZ1
  by_cases hNE : N = ⟨#[]⟩
  · have he := cstr_none hNE
    have hln := HLN.out
    rw [if_pos hNE] at hln
    have hsk := HSKE.out
    rw [if_pos hNE, Nat.add_zero, Nat.min_eq_left (by have := HMN.out; omega)] at hsk
    have j0 : (0 : Int) ≤ (m : Int) := by omega
    have j1 : (m : Int) + 1 ≤ (c : Int) := by have := HCAP.out; have := HN.out; have := HMN.out; omega
    have j3 : (m : Int) ≤ (m : Int) + 1 := by omega
    have hz2 : ¬ 9223372036854775807 < T1.size + (⟨#[73, 78, 86, 65, 76, 73, 68]⟩ : ByteArray).size := by
      rw [show (⟨#[73, 78, 86, 65, 76, 73, 68]⟩ : ByteArray).size = 7 from rfl]; have := HT1S.out; omega
    obtain ⟨T2, hT2⟩ : ∃ T2, T2 = T1 ++ (⟨#[73, 78, 86, 65, 76, 73, 68]⟩ : ByteArray) := ⟨_, rfl⟩
    have hT2s : T2.size ≤ 18 := by rw [hT2, ByteArray.size_append, show (⟨#[73, 78, 86, 65, 76, 73, 68]⟩ : ByteArray).size = 7 from rfl]; have := HT1S.out; omega
    have hz3 : ¬ 9223372036854775807 < (T1 ++ (⟨#[73, 78, 86, 65, 76, 73, 68]⟩ : ByteArray)).size + (⟨#[32]⟩ : ByteArray).size := by
      rw [← hT2, show (⟨#[32]⟩ : ByteArray).size = 1 from rfl]; omega
    have KT : Hid (Calls Tryd.prog 49 #[.slice (some ⟨bb, oo + m, none⟩) 1 (c - m)] w3 (RetV (.string (sOf (textL [b]))) w3)) := by
      have h1 := (((HR.out.below HB3.out)).cdrop m (by have := HN.out; have := HMN.out; omega)).take 1 (by rw [List.length_drop]; have := HN.out; have := HMN.out; omega)
      rw [HDR.out] at h1
      exact ptext_c (bs := [b]) w3 h1 (fun x hx => by rw [List.mem_singleton] at hx; rw [hx]; exact HB256.out) (by simp)
    obtain ⟨X, hX⟩ : ∃ X, X = sOf (textL [b]) := ⟨_, rfl⟩
    have hxs : X.size ≤ 4 := by rw [hX, sOf_size, textL, List.length_append, hexL_len]; simp
    rw [← hX] at KT hln
    have hz4 : ¬ 9223372036854775807 < ((T1 ++ (⟨#[73, 78, 86, 65, 76, 73, 68]⟩ : ByteArray)) ++ (⟨#[32]⟩ : ByteArray)).size + X.size := by
      rw [← hT2, ByteArray.size_append, show (⟨#[32]⟩ : ByteArray).size = 1 from rfl]; omega
    have HLN2 := Lib.hid hln
    have HSK := Lib.hid hsk
    have HZ2 := Lib.hid hz2
    have HZ3 := Lib.hid hz3
    have HZ4 := Lib.hid hz4
    clear hz2 hz3 hz4 hT2 hT2s hX hxs hNE HLN HSKE hln hsk
    have hz2 := HZ2.out
    have hz3 := HZ3.out
    go_wp2_with fail
    (with_reducible refine KT.out.mono ?_)
    rintro e w4 ⟨rfl, hb4⟩
    have HB4 := Lib.hid (HB3.out.trans (hb4.mono HB3.out.size))
    clear KT hb4 HB3
    have hz4 := HZ4.out
    go_wp2_with fail
    exact bodyPost_ret (v := .tuple #[.string (((T1 ++ (⟨#[73, 78, 86, 65, 76, 73, 68]⟩ : ByteArray)) ++ (⟨#[32]⟩ : ByteArray)) ++ X), .int .i64 ((m : Int) + 1)]) (by simp [results, Tryd.results37, go_sem]) rfl ⟨by rw [HLN2.out, HSK.out]; rfl, HB4.out⟩
  · have he := cstr_some hNE
    obtain ⟨k, hk⟩ : ∃ k, k = ownZ b := ⟨_, rfl⟩
    have hln := HLN.out
    rw [if_neg hNE, ← hk] at hln
    have hsk := HSKE.out
    rw [if_neg hNE, ← hk] at hsk
    have hk32 : k ≤ 32 := by rw [hk]; exact ownZ_le b
    have KW : Hid (∀ v, Calls Tryd.prog 33 #[.int .i64 (b : Nat)] v (fun e w' => e = .returned (.int .i64 (k : Nat)) ∧ w' = v)) := fun v => by rw [hk]; exact pown_c b HB256.out v
    have hz2 : ¬ 9223372036854775807 < T1.size + N.size := by have := HT1S.out; have := HNS.out; omega
    obtain ⟨T2, hT2⟩ : ∃ T2, T2 = T1 ++ N := ⟨_, rfl⟩
    have hT2s : T2.size ≤ 111 := by rw [hT2, ByteArray.size_append]; have := HT1S.out; have := HNS.out; omega
    have HLN2 := Lib.hid hln
    have HSK := Lib.hid hsk
    have HZ2 := Lib.hid hz2
    clear hz2 hln hsk hNE HLN HSKE hk
    by_cases hk0 : 0 < k
    · have k0 : ¬ (k : Int) = 0 := by omega
      have j0 : (0 : Int) ≤ (m : Int) := by omega
      have j3 : (m : Int) ≤ (m : Int) + 1 := by omega
      have hsum : IntKind.i64.wrap ((m : Int) + 1 + (k : Int)) = (m : Int) + 1 + (k : Int) := IntWalk.i64_in _ (by have := HL.out; have := HMN.out; have := HN.out; omega)
      have hmin : min ((m : Int) + 1 + (k : Int)) (n : Int) = (NX : Int) := by rw [HSK.out]; omega
      have hnx1 : m + 1 ≤ NX := by rw [HSK.out]; have := HMN.out; omega
      have hnx2 : NX ≤ n := by rw [HSK.out]; omega
      obtain ⟨ys, hys⟩ : ∃ ys, ys = (bs.drop (m + 1)).take k := ⟨_, rfl⟩
      have hln := HLN2.out
      rw [if_pos hk0, ← hys] at hln
      have hyl : ys.length ≤ 32 := by rw [hys, List.length_take]; omega
      have hyd : Ds 256 ys := fun x hx => HD.out x (List.mem_of_mem_drop (List.mem_of_mem_take (hys ▸ hx)))
      have hyn : ys.length = NX - (m + 1) := by rw [hys, List.length_take, List.length_drop, HSK.out, HN.out]; have := HMN.out; have := HN.out; omega
      obtain ⟨X, hX⟩ : ∃ X, X = sOf (textL ys) := ⟨_, rfl⟩
      have hxs : X.size ≤ 66 := by rw [hX, sOf_size, textL, List.length_append, hexL_len]; simp; omega
      rw [← hX] at hln
      have hz3 : ¬ 9223372036854775807 < (T1 ++ N).size + (⟨#[32]⟩ : ByteArray).size := by rw [← hT2, show (⟨#[32]⟩ : ByteArray).size = 1 from rfl]; omega
      have hz4 : ¬ 9223372036854775807 < ((T1 ++ N) ++ (⟨#[32]⟩ : ByteArray)).size + X.size := by
        rw [← hT2, ByteArray.size_append, show (⟨#[32]⟩ : ByteArray).size = 1 from rfl]; omega
      have hys2 : (bs.drop (m + 1)).take (NX - (m + 1)) = ys := by
        rw [hys, HSK.out]
        by_cases hm : m + 1 + k ≤ n
        · rw [Nat.min_eq_left hm, Nat.add_sub_cancel_left]
        · rw [Nat.min_eq_right (by omega), List.take_of_length_le (by rw [List.length_drop, HN.out]; omega), List.take_of_length_le (by rw [List.length_drop]; have := HN.out; omega)]
      have HLN3 := Lib.hid hln
      have HZ3 := Lib.hid hz3
      have HZ4 := Lib.hid hz4
      have HX := Lib.hid hX
      have HYS := Lib.hid hys2
      have HYD := Lib.hid hyd
      have HYL := Lib.hid hyl
      have HYN := Lib.hid hyn
      have HN1 := Lib.hid hnx1
      have HN2 := Lib.hid hnx2
      have j6 : (m : Int) + 1 ≤ (NX : Int) := by omega
      have j7 : (NX : Int) ≤ (c : Int) := by have := HCAP.out; have := HN.out; omega
      clear hys hys2 hyl hyd hyn hX hxs hln hz3 hz4 hT2s hT2 hk32 hk0 HLN2 HSK hnx1 hnx2
      have KT : Hid (Calls Tryd.prog 49 #[if c = m + 1 then .slice (some ⟨bb, oo, none⟩) 0 (c - (m + 1)) else .slice (some ⟨bb, oo + (m + 1), none⟩) (NX - (m + 1)) (c - (m + 1))] w3 (RetV (.string X) w3)) := by
        split
        · rename_i hcm
          have hy0 : ys = [] := by
            have := HYN.out
            have := HN.out
            have := HN2.out
            have := HCAP.out
            exact List.eq_nil_of_length_eq_zero (by omega)
          rw [HX.out, hy0]
          exact ptext_c (A := some ⟨bb, oo, none⟩) (c := c - (m + 1)) (bs := []) w3 ⟨Nat.zero_le _, (fun e => nomatch e), fun h => by simp at h⟩ (fun x hx => by cases hx) (by simp)
        · have h1 := ((HR.out.below HB3.out).cdrop (m + 1) (by have := HN.out; have := HMN.out; omega)).take (NX - (m + 1)) (by rw [List.length_drop]; have := HN.out; have := HN2.out; omega)
          rw [HYS.out] at h1
          have h3 := ptext_c w3 h1 HYD.out (by have := HYL.out; omega)
          rw [HX.out]
          rw [HYN.out] at h3
          exact h3
      by_cases hcm : c = m + 1
      · rw [if_pos hcm] at KT
        have j5 : (c : Int) = (m : Int) + 1 := by omega
        have j8 : (NX : Int) = (m : Int) + 1 := by have := HCAP.out; have := HN.out; have := HN1.out; have := HN2.out; omega
        clear hcm
        go_wp2_with fail
        (with_reducible refine (KW.out _).mono ?_)
        rintro e w4 ⟨rfl, rfl⟩
        go_wp2_with fail
        (with_reducible refine (KW.out _).mono ?_)
        rintro e w4 ⟨rfl, rfl⟩
        clear KW
        have hz2 := HZ2.out
        have hz3 := HZ3.out
        go_wp2_with fail
        (with_reducible refine KT.out.mono ?_)
        rintro e w4 ⟨rfl, hb4⟩
        have HB4 := Lib.hid (HB3.out.trans (hb4.mono HB3.out.size))
        clear KT hb4 HB3
        have hz4 := HZ4.out
        go_wp2_with fail
        exact bodyPost_ret (v := .tuple #[.string (((T1 ++ N) ++ (⟨#[32]⟩ : ByteArray)) ++ X), .int .i64 (NX : Nat)]) (by simp [results, Tryd.results37, go_sem, j8]) rfl ⟨by rw [HLN3.out], HB4.out⟩
      · rw [if_neg hcm] at KT
        have j5 : (m : Int) + 1 < (c : Int) := by have := HCAP.out; have := HN.out; have := HMN.out; omega
        clear hcm
        go_wp2_with fail
        (with_reducible refine (KW.out _).mono ?_)
        rintro e w4 ⟨rfl, rfl⟩
        go_wp2_with fail
        (with_reducible refine (KW.out _).mono ?_)
        rintro e w4 ⟨rfl, rfl⟩
        clear KW
        have hz2 := HZ2.out
        have hz3 := HZ3.out
        go_wp2_with fail
        (with_reducible refine KT.out.mono ?_)
        rintro e w4 ⟨rfl, hb4⟩
        have HB4 := Lib.hid (HB3.out.trans (hb4.mono HB3.out.size))
        clear KT hb4 HB3
        have hz4 := HZ4.out
        go_wp2_with fail
        exact bodyPost_ret (v := .tuple #[.string (((T1 ++ N) ++ (⟨#[32]⟩ : ByteArray)) ++ X), .int .i64 (NX : Nat)]) (by simp [results, Tryd.results37, go_sem]) rfl ⟨by rw [HLN3.out], HB4.out⟩
    · obtain rfl : k = 0 := by omega
      have hln := HLN2.out
      rw [if_neg hk0] at hln
      have hsk := HSK.out
      rw [Nat.add_zero, Nat.min_eq_left (by have := HMN.out; omega)] at hsk
      have HLN3 := Lib.hid hln
      have HSK2 := Lib.hid hsk
      clear hk0 hk32 hT2s hT2 hln hsk HLN2 HSK
      go_wp2_with fail
      (with_reducible refine (KW.out _).mono ?_)
      rintro e w4 ⟨rfl, rfl⟩
      clear KW
      have hz2 := HZ2.out
      go_wp2_with fail
      exact bodyPost_ret (v := .tuple #[.string (T1 ++ N), .int .i64 ((m : Int) + 1)]) (by simp [results, Tryd.results37, go_sem]) rfl ⟨by rw [HLN3.out, HSK2.out]; rfl, HB3.out⟩

set_option maxRecDepth 100000 in
set_option maxHeartbeats 6400000 in
theorem plist_c (f : Int) {A : Option Addr} {c : Nat} {bs : List Nat} (w : World) (hP : PowAt w) (h : Rd .u8 w A c bs) (hd : Ds 256 bs) (hl : bs.length ≤ 100000000) : Calls Tryd.prog 20 #[.int .i64 f, .slice A bs.length c] w (ListR f bs w) := by
  obtain ⟨n, hn⟩ : ∃ n, n = bs.length := ⟨_, rfl⟩
  rw [← hn]
  have HN := Lib.hid hn
  have HR := Lib.hid h
  have HD := Lib.hid hd
  have HL := Lib.hid hl
  have HP := Lib.hid hP
  clear hn h hd hl hP
  go_enter Tryd.func20, Tryd.ntmps20
  go_wp2_with fail
  go_loopw [5, 6] (fun v i wr => ∃ (m : Nat) (out : List ByteArray), m ≤ n ∧ i = .int .i64 (m : Nat) ∧ Hid (wr.ownsRow w.heap.size 9 1 v out.length (strC out)) ∧ Hid (out ++ lst f 0 m (bs.drop m) = lst f 0 0 bs) ∧ Hid (Below w.heap.size w wr)) (fun _ i _ => n - (intOf i).toNat)
  case atStart => exact ⟨0, [], by omega, rfl, Lib.hid ⟨rfl, .inl ⟨rfl, rfl⟩⟩, Lib.hid rfl, Lib.hid (Below.refl _ _)⟩
  case round =>
    obtain ⟨m, out, hm, rfl, HOWN, hst, HB⟩ := hrel
    by_cases h0 : m < n
    · have hnl := HN.out
      have hL := HL.out
      obtain ⟨b, hb⟩ : ∃ b, bs[m]? = some b := ⟨_, List.getElem?_eq_getElem (by omega)⟩
      obtain ⟨bb, oo, rfl, hlt, hcell⟩ := HR.out.at_ (by omega)
      have hdr : bs.drop m = b :: bs.drop (m + 1) := by
        rw [List.drop_eq_getElem_cons (by omega)]
        rw [List.getElem?_eq_getElem (by omega)] at hb
        injection hb with hb
        rw [hb]
      have hst := hst.out
      rw [lst_step hdr, List.drop_drop] at hst
      have hl2 : lst f 0 (m + 1 + skipZ f b) (bs.drop (m + 1 + skipZ f b)) = lst f 0 (nextZ f n m b) (bs.drop (nextZ f n m b)) := by
        unfold nextZ
        by_cases hx : m + 1 + skipZ f b ≤ n
        · rw [Nat.min_eq_left hx]
        · rw [Nat.min_eq_right (by omega), List.drop_eq_nil_of_le (by omega), List.drop_eq_nil_of_le (by omega)]; rfl
      rw [hl2] at hst
      have KL : Hid (Calls Tryd.prog 37 #[.int .i64 f, .slice (some ⟨bb, oo, none⟩) n c, .int .i64 (m : Nat)] wr (RetV (lineV f n m b (bs.drop (m + 1))) wr)) := pline_c f wr (HP.out.below HB.out) (HR.out.below HB.out) HD.out hL hnl hb
      have HOL : Hid (out.length ≤ 1099511627776) := by
        have h1 := congrArg List.length hst
        have h2 := lst_len f 0 0 bs
        simp only [List.length_append, List.length_cons] at h1
        show out.length ≤ _
        omega
      have hnx1 : m + 1 ≤ nextZ f n m b := by unfold nextZ; omega
      have hnx2 : nextZ f n m b ≤ n := by unfold nextZ; omega
      unfold lineV at KL
      obtain ⟨LL, hLL⟩ : ∃ LL, LL = lineZ f m b (bs.drop (m + 1)) := ⟨_, rfl⟩
      obtain ⟨NX, hNX⟩ : ∃ NX, NX = nextZ f n m b := ⟨_, rfl⟩
      rw [← hLL] at KL hst
      rw [← hNX] at KL hst hnx1 hnx2
      have hst2 : (out ++ [LL]) ++ lst f 0 NX (bs.drop NX) = lst f 0 0 bs := by rw [List.append_assoc]; exact hst
      have HNX := Lib.hid hst2
      have HX1 := Lib.hid hnx1
      have HX2 := Lib.hid hnx2
      have h0i : (m : Int) < (n : Int) := by omega
      clear hnl hL hst hst2 hdr hb hcell hlt hl2 hLL hNX hnx1 hnx2
      go_wp2_with fail
      (with_reducible refine KL.out.mono ?_)
      rintro e w1 ⟨rfl, hb1⟩
      have HB1 := Lib.hid (HB.out.trans (hb1.mono HB.out.size))
      have HOWN1 := Lib.hid (ownS_below HOWN.out hb1)
      clear KL hb1 HB HOWN
      obtain ⟨v', w9, happ, hown, hgr⟩ := run_append_str 39 (HOWN1).out LL HOL.out HB1.out.size
      have hb1 : Below w.heap.size w w9 := (HB1.out.alloc HB1.out.size (.cells #[.string LL] 9)).grown hgr (by have := HB1.out.size; simp; omega) (fun k hk => by
        rcases (HOWN1).out.2 with ⟨e, _⟩ | ⟨g, cap, cur, e, hg, _⟩
        · rw [e] at hk; simp [Value.ownBlock] at hk
        · rw [e] at hk; simp [Value.ownBlock] at hk; omega)
      have HAPP := Lib.hid happ
      have HOWN9 := Lib.hid hown
      have HB9 := Lib.hid hb1
      clear happ hown hgr hb1
      go_wp2_with (at_builtin; refine cd_append_run rfl (.tmp 20) (.tmp 22) 39 rfl HAPP.out ?_)
      clear HAPP
      go_wp2_with fail
      go_roundw
      case rel => exact ⟨NX, out ++ [LL], HX2.out, rfl, HOWN9, HNX, HB9⟩
      case measure => have := HX1.out; simp [intOf]; omega
    · have hj : out = lst f 0 0 bs := by
        have h1 := hst.out
        rw [List.drop_eq_nil_of_le (by have := HN.out; omega), lst, List.append_nil] at h1
        exact h1
      subst hj
      have h0i : ¬ (m : Int) < (n : Int) := by omega
      clear hst h0
      go_wp2_with fail
      exact bodyPost_ret (v := u5) (by simp [results, Tryd.results20, go_sem]) rfl ⟨u5, rfl, HOWN.out, HB.out⟩
end Go.Proofs.YtopeahjdglkheaaDoor
