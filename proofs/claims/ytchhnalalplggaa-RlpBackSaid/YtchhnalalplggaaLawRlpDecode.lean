/- The law RlpDecode. -/
import Derived.Test.YtchhnalalplggaaRlRef
import Derived.Test.YtchhnalalplggaaRlSame
import Derived.Test.YtchhnalalplggaaTwin
namespace Go.Proofs.Ytchhnalalplggaa
open Go.RowKit

theorem decR_isz {raw : List Nat} {o : Except Nat (Itm × List Nat)} (h : ReadR raw 0 o) (hl : raw.length ≤ 6000) : isz (decR o).1 ≤ 1099511627776 := by
  cases o with
  | error k => simp [decR, isz, iszL]
  | ok p =>
    obtain ⟨x, r⟩ := p
    have := h.isz
    show isz (if r.length = 0 then (x, 0) else (Itm.text [], 2)).1 ≤ _
    split
    · show isz x ≤ _; omega
    · simp [isz, iszL]

set_option maxRecDepth 100000 in
set_option maxHeartbeats 3200000 in
theorem rlpDecode_c {A : Option Addr} {c : Nat} {raw : List Nat} (w : World) (h : Rd .u8 w A c raw) (hd : Ds 256 raw) : Calls Try.prog 4 #[.slice A raw.length c] w (RetV (.bool true) w) := by
  have k1 : Calls Try.prog 16 #[.slice A raw.length c, .int .i64 6000] w (RetR (fun w' v => Byt w' v (raw.take 6000)) w) := twin_c w h hd 6000 (by omega) (by omega)
  obtain ⟨p, hp⟩ : ∃ p, p = raw.take 6000 := ⟨_, rfl⟩
  have hpl : p.length ≤ 6000 := by rw [hp, List.length_take]; omega
  have hpt : p.take 6000 = p := List.take_of_length_le hpl
  rw [← hp] at k1
  have k2 : ∀ (w : World) (A : Option Addr) (c : Nat), Rd .u8 w A c p → Ds 256 p → Calls Try.prog 16 #[.slice A p.length c, .int .i64 6000] w (RetR (fun w' v => Byt w' v p) w) := fun w A c h hd => by
    have := twin_c w h hd 6000 (by omega) (by omega)
    rw [hpt] at this
    exact this
  have k3 := fun (w : World) (A : Option Addr) (c : Nat) (h : Rd .u8 w A c p) (hd : Ds 256 p) => decode_c w h hd (by omega)
  have k4 := fun (w : World) (A : Option Addr) (c : Nat) (h : Rd .u8 w A c p) (hd : Ds 256 p) => rdecode_c w h hd (by omega)
  have K1 := Lib.hid k1
  have K2 := Lib.hid k2
  have K3 := Lib.hid k3
  have K4 := Lib.hid k4
  have HPL := Lib.hid hpl
  obtain ⟨R, hR⟩ : ∃ R, R = raw.length := ⟨_, rfl⟩
  obtain ⟨L, hL⟩ : ∃ L, L = p.length := ⟨_, rfl⟩
  rw [← hR] at K1 ⊢
  simp only [← hL] at K2 K3 K4
  have HL := Lib.hid hL
  clear h hd k1 k2 k3 k4 hp hpl hpt hR hL
  go_enter Try.func4, Try.ntmps4
  go_wp2_with fail
  (with_reducible refine K1.out.mono ?_)
  rintro e w1 ⟨v1, rfl, ⟨A1, c1, rfl, hr1, hd1⟩, hb1⟩
  rw [← HL.out]
  have HR1 := Lib.hid hr1
  have HD := Lib.hid hd1
  have HB1 := Lib.hid hb1
  clear K1 hr1 hd1 hb1
  go_wp2_with fail
  (with_reducible refine (K2.out _ _ _ HR1.out HD.out).mono ?_)
  rintro e w2 ⟨v2, rfl, ⟨A2, c2, rfl, hr2, hd2⟩, hb2⟩
  rw [← HL.out]
  have HR2 := Lib.hid hr2
  have HR12 := Lib.hid (HR1.out.below hb2)
  have HB2 := Lib.hid (HB1.out.trans (hb2.mono HB1.out.size))
  clear K2 hr2 hd2 hb2 HR1 HB1
  go_wp2_with fail
  (with_reducible refine (K3.out _ _ _ HR2.out HD.out).mono ?_)
  rintro e w3 ⟨hb3, o, vx, ho, rfl, hx⟩
  obtain ⟨l1, a1, n1, c3, b1, m1, cp1, rfl⟩ := hx.parts
  have hA : Below w3.heap.size w3 (w3.alloc (.cells #[.bool l1, .slice a1 n1 c3, .slice b1 m1 cp1] 25)) := (Below.refl _ _).alloc (Nat.le_refl _) _
  have hS1 : (w3.alloc (.cells #[.bool l1, .slice a1 n1 c3, .slice b1 m1 cp1] 25)).heap.size = w3.heap.size + 1 := by simp
  have hc1 := heap_alloc_new w3 (.cells #[.bool l1, .slice a1 n1 c3, .slice b1 m1 cp1] 25)
  have HC1 := Lib.hid hc1
  have HS1 := Lib.hid hS1
  have HR13 := Lib.hid ((HR12.out.below hb3).below hA)
  have HX3 := Lib.hid (hx.keep hA)
  have HO := Lib.hid ho
  have HB3 := Lib.hid ((HB2.out.trans (hb3.mono HB2.out.size)).trans (hA.mono (Nat.le_trans HB2.out.size hb3.size)))
  clear K3 hb3 HR2 HR12 HB2 hA hc1 hS1 ho hx
  go_wp2_with fail
  (with_reducible refine (K4.out _ _ _ HR13.out HD.out).mono ?_)
  rintro e w4 ⟨hb4, o', vy, ho', rfl, hy⟩
  obtain rfl := ho'.det HO.out
  obtain ⟨l2, a2, n2, c4, b2, m2, cp2, rfl⟩ := hy.parts
  have hA : Below w4.heap.size w4 (w4.alloc (.cells #[.bool l2, .slice a2 n2 c4, .slice b2 m2 cp2] 25)) := (Below.refl _ _).alloc (Nat.le_refl _) _
  have hc1 := (hb4.block w3.heap.size (by rw [HS1.out]; omega)).trans HC1.out
  have hc2 := (hA.block w3.heap.size (Array.getElem?_eq_some_iff.1 hc1).1).trans hc1
  have hc3 := heap_alloc_new w4 (.cells #[.bool l2, .slice a2 n2 c4, .slice b2 m2 cp2] 25)
  obtain ⟨x0, x1, x2, -, -, -⟩ := three_cells hc2
  obtain ⟨y0, y1, y2, -, -, -⟩ := three_cells hc3
  have C := Lib.hid (same_c _ _ _ _ _ _ (decR_isz HO.out HPL.out) ((HX3.out.keep hb4).keep hA) (hy.keep hA))
  have HB4 := Lib.hid ((HB3.out.trans (hb4.mono HB3.out.size)).trans (hA.mono (Nat.le_trans HB3.out.size hb4.size)))
  clear K4 hb4 HR13 HB3 hA hc1 hc2 hc3 ho' hy HX3 HC1 HS1
  go_wp2_with fail
  (with_reducible refine C.out.mono ?_)
  rintro e w5 ⟨rfl, hb5⟩
  have HB5 := Lib.hid (HB4.out.trans (hb5.mono HB4.out.size))
  clear hb5 HB4 C x0 x1 x2 y0 y1 y2
  go_wp2_with fail
  (with_reducible refine (rwakes_c _).mono ?_)
  rintro e w6 ⟨rfl, hb6⟩
  have HB6 := Lib.hid (HB5.out.trans (hb6.mono HB5.out.size))
  clear hb6 HB5
  go_wp2_with fail
  go_ret
  exact ⟨rfl, HB6.out⟩
end Go.Proofs.Ytchhnalalplggaa
