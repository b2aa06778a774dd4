/- The contract of package hexa's Text. -/
import Derived.Test.YtopeahjdglkheaaDoorHShelf
import Derived.Test.YtopeahjdglkheaaDoorDig
import Derived.Test.YtopeahjdglkheaaDoorRTrim
import Derived.Laws.BitsAllLaws
import Derived.Deep.DeepCutAuto
import Derived.Deep.CutBlock
namespace Go.Proofs.YtopeahjdglkheaaDoor
open Go.RowKit

/-- A hex digit in small letters; bytes as hex digits; the text of bytes. -/
def hx (d : Nat) : UInt8 := if d < 10 then (48 + d).toUInt8 else (87 + d).toUInt8
def hxs (bs : List Nat) : List UInt8 := bs.flatMap fun b => [hx (b / 16), hx (b % 16)]
def htext (bs : List Nat) : List UInt8 := 48 :: 120 :: hxs bs
theorem hxs_len (bs : List Nat) : (hxs bs).length = 2 * bs.length := by
  unfold hxs
  induction bs with
  | nil => rfl
  | cons b bs ih => simp only [List.flatMap_cons, List.length_append, ih]; simp; omega
theorem hxs_snoc (bs : List Nat) (m : Nat) (h : m < bs.length) : hxs (bs.take (m + 1)) = hxs (bs.take m) ++ [hx (bs.getD m 0 / 16), hx (bs.getD m 0 % 16)] := by
  rw [List.take_succ_eq_append_getElem h]
  unfold hxs
  rw [List.flatMap_append]
  simp [List.getD_eq_getElem?_getD, h]
theorem small_at : ∀ d : Nat, d < 16 → (#[48, 49, 50, 51, 52, 53, 54, 55, 56, 57, 97, 98, 99, 100, 101, 102] : Array UInt8)[d]? = some (hx d) := by decide
theorem small_get (d : Nat) (h : d < (⟨#[48, 49, 50, 51, 52, 53, 54, 55, 56, 57, 97, 98, 99, 100, 101, 102]⟩ : ByteArray).size) : (⟨#[48, 49, 50, 51, 52, 53, 54, 55, 56, 57, 97, 98, 99, 100, 101, 102]⟩ : ByteArray)[d]'h = hx d := by
  have := small_at d h
  exact (Array.getElem?_eq_some_iff.1 this).2
theorem and15 : ∀ b : Nat, b < 256 → bits .and .u8 (b : Int) 15 = ((b % 16 : Nat) : Int) := by decide +kernel

set_option maxRecDepth 100000 in
set_option maxHeartbeats 3200000 in
theorem text_c {A : Option Addr} {c : Nat} {bs : List Nat} (w : World) (h : Rd .u8 w A c bs) (hd : Ds 256 bs) (hl : bs.length ≤ 16777216) :
    Calls Tryd.prog 49 #[.slice A bs.length c] w fun e w' => e = .returned (.string ⟨(htext bs).toArray⟩) ∧ Below w.heap.size w w' := by
  have HR := Lib.hid h
  have HD := Lib.hid hd
  obtain ⟨L, hL⟩ : ∃ L, L = bs.length := ⟨_, rfl⟩
  rw [← hL] at hl
  rw [← hL]
  have HL := Lib.hid hL
  have hL0 : (L : Int) ≤ 16777216 := by omega
  clear h hd hL
  go_enter Tryd.func49, Tryd.ntmps49
  go_upto_region 2 with (fail)
  have hbk : (w.alloc (.cells #[.pointer none, .slice none 0 0] 91)).heap[w.heap.size]? = some (.cells #[.pointer none, .slice none 0 0] 91 (0, 0)) := heap_alloc_new w _
  have hB0 := (Below.refl w.heap.size w).alloc (Nat.le_refl _) (.cells #[.pointer none, .slice none 0 0] 91)
  have C1 := Lib.hid (hBuilder_Grow_fresh w.heap.size w.heap.size (2 + 2 * L) _ (Nat.le_refl _) hbk (by simp) (by omega))
  rw [show ((2 + 2 * L : Nat) : Int) = 2 + 2 * (L : Int) by omega] at C1
  have HB0 := Lib.hid hB0
  clear hbk hB0
  go_wp2_with fail
  (with_reducible refine C1.out.mono ?_)
  rintro e w1 ⟨rfl, hb1, hbel1⟩
  have HB1 := Lib.hid (HB0.out.trans hbel1)
  have hsz := HB1.out.size
  have C2 := Lib.hid (hBuilder_WriteString w.heap.size w.heap.size [] ⟨#[48, 120]⟩ w1 (.inr hb1) (by simp [ByteArray.size]) hsz)
  clear C1 hb1 hbel1 HB0
  go_wp2_with fail
  (with_reducible refine C2.out.mono ?_)
  rintro e w2 ⟨rfl, hb2, hbel2⟩
  have hbel := HB1.out.trans hbel2
  clear C2 HB1 hsz hbel2
  go_wp2_with fail
  go_loopw [14] (fun i wr => ∃ m : Nat, m ≤ L ∧ i = .int .i64 (m : Int) ∧ Hid (Lib.BuilderAt 91 5 w.heap.size w.heap.size (.pointer (some ⟨w.heap.size, 0, none⟩)) (Lib.byteCells (48 :: 120 :: hxs (bs.take m))) wr) ∧ Hid (Below w.heap.size w wr))
    (fun i _ => (L - intOf i).toNat)
  case atStart => exact ⟨0, Nat.zero_le _, rfl, hb2, hbel⟩
  case round =>
    clear hb2 hbel
    obtain ⟨m, hm, rfl, hbd, hbel⟩ := hrel
    by_cases hlt : (m : Int) < (L : Int)
    · obtain ⟨b, o, rfl, hbb, hcell⟩ := HR.out.at_ (by have := HL.out; omega)
      have cx := (hbel.out.cell (p := ⟨b, o + m, none⟩) hbb).trans (hcell m (by have := HL.out; omega))
      obtain ⟨x, ex⟩ : ∃ x, x = bs.getD m 0 := ⟨_, rfl⟩
      rw [← ex] at cx
      have hx256 : x < 256 := by rw [ex]; exact HD.out.get (by omega) m
      have hlen : (Lib.byteCells (48 :: 120 :: hxs (bs.take m))).length ≤ 33554434 := by
        unfold Lib.byteCells
        rw [List.length_map]
        simp only [List.length_cons, hxs_len, List.length_take]
        omega
      have hsz := hbel.out.size
      have C1 := Lib.hid (hBuilder_WriteByte w.heap.size w.heap.size _ ((hx (x / 16)).toNat : Int) wr (.inr hbd.out) (by omega) hsz)
      have v1 : (x : Int) / 16 = ((x / 16 : Nat) : Int) := by omega
      have k1 := small_at (x / 16) (by omega)
      have k2 := small_at (x % 16) (by omega)
      have a15 := and15 x hx256
      obtain ⟨d1, ed1⟩ : ∃ d, d = x / 16 := ⟨_, rfl⟩
      obtain ⟨d2, ed2⟩ : ∃ d, d = x % 16 := ⟨_, rfl⟩
      rw [← ed1] at C1 v1 k1
      rw [← ed2] at a15 k2
      have hd1 : d1 < 16 := by omega
      have hd2 : d2 < 16 := by omega
      have EX := Lib.hid ex
      have E1 := Lib.hid ed1
      have E2 := Lib.hid ed2
      clear hcell hbb ex ed1 ed2
      go_wp2_with fail
      simp only [small_get]
      (with_reducible refine C1.out.mono ?_)
      rintro e w2 ⟨rfl, hbd2, hb2⟩
      have hbel2 := Lib.hid (hbel.out.trans hb2)
      have C2 := Lib.hid (hBuilder_WriteByte w.heap.size w.heap.size _ ((hx d2).toNat : Int) w2 (.inr hbd2) (by rw [List.length_append]; simp; omega) hbel2.out.size)
      clear C1 hbd2 hb2 hbd cx
      go_wp2_with fail
      simp only [small_get]
      (with_reducible refine C2.out.mono ?_)
      rintro e w3 ⟨rfl, hbd3, hb3⟩
      have hbel3 := Lib.hid (hbel2.out.trans hb3)
      have hs : (Lib.byteCells (48 :: 120 :: hxs (bs.take m)) ++ [Value.int .u8 ((hx d1).toNat : Int)]) ++ [Value.int .u8 ((hx d2).toNat : Int)] = Lib.byteCells (48 :: 120 :: hxs (bs.take (m + 1))) := by
        rw [hxs_snoc bs m (by have := HL.out; omega), ← EX.out, ← E1.out, ← E2.out]
        unfold Lib.byteCells
        simp
      rw [hs] at hbd3
      have HB3 := Lib.hid hbd3
      clear C2 hbd3 hb3 hs hbel hbel2
      go_wp2_with fail
      go_roundw
      case rel => exact ⟨m + 1, by omega, by go_num, HB3.out, hbel3.out⟩
      case measure => simp [intOf]; omega
    · obtain rfl : m = L := by omega
      have hbd := hbd.out
      rw [List.take_of_length_le (by have := HL.out; omega)] at hbd
      have C1 := Lib.hid (hBuilder_String_any w.heap.size w.heap.size (48 :: 120 :: hxs bs) wr (.inr hbd) hbel.out.size)
      clear hbd
      go_wp2_with fail
      (with_reducible refine C1.out.mono ?_)
      rintro e w4 ⟨rfl, hb4⟩
      have HB4 := Lib.hid (hbel.out.trans hb4)
      clear C1 hb4
      go_wp2_with fail
      go_ret
      exact ⟨rfl, HB4.out⟩
end Go.Proofs.YtopeahjdglkheaaDoor
