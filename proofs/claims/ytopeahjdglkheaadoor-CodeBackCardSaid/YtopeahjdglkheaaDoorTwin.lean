/- The contract of quarrykeep's Twin. -/
import Derived.Test.YtopeahjdglkheaaDoorOwn8
import Derived.Test.YtopeahjdglkheaaDoorRFrom
import Derived.Laws.AppendOwn
namespace Go.Proofs.YtopeahjdglkheaaDoor
open Go.RowKit

set_option maxRecDepth 100000 in
set_option maxHeartbeats 3200000 in
theorem twin_o {A : Option Addr} {c : Nat} {bs : List Nat} (w : World) (h : Rd .u8 w A c bs) (hb : Ds 256 bs) (n : Nat) (hn : n ≤ 65536) (hn0 : 0 < n) :
    Calls Tryd.prog 32 #[.slice A bs.length c, .int .i64 (n : Nat)] w (RetR (fun w' v => OwnB w.heap.size w' v (bs.take n)) w) := by
  obtain ⟨i0, hi, hz0, hz1, hz2⟩ := info_parts info8
  have HR := Lib.hid h
  by_cases hlt : n < bs.length
  · obtain ⟨b0, o0, rfl, hbb, hcell⟩ := h.at_ (by omega)
    have hle := h.le
    have hx := h.take n (by omega)
    have hxl : (bs.take n).length = n := by rw [List.length_take]; omega
    obtain ⟨xs, hxs⟩ : ∃ xs, xs = bs.take n := ⟨_, rfl⟩
    have HD := Lib.hid (show Ds 256 xs by rw [hxs]; exact hb.take n)
    rw [← hxs] at hx hxl
    have HX := Lib.hid hx
    have hi1 : (n : Int) < (bs.length : Int) := by omega
    have hi2 : (n : Int) ≤ (c : Int) := by omega
    rw [← hxs]
    clear h hb hx hcell hbb hlt hxs HR
    subst hxl
    obtain ⟨L, hL⟩ : ∃ L, L = bs.length := ⟨_, rfl⟩
    rw [← hL] at hi1 hle ⊢
    clear hL
    have hacc : Acc (w.alloc (.cells #[] 5)) w.heap.size (.slice (some ⟨w.heap.size, 0, none⟩) 0 0) [] := Acc.of_row (Row.new (k := .u8) w 5 []) (Nat.le_refl _) (by simp)
    have hrd2 := HX.out.alloc (.cells #[] 5)
    have hbel : Below w.heap.size w (w.alloc (.cells #[] 5)) := (Below.refl _ _).alloc (Nat.le_refl _) _
    have HACC := Lib.hid hacc
    have HRD := Lib.hid hrd2
    have HB0 := Lib.hid hbel
    clear hacc hrd2 hbel
    go_enter Tryd.func32, Tryd.ntmps32
    go_wp2_with (at_builtin; refine wpList_append_own _ rfl (.tmp 12) (.tmp 13) 31 rfl w.heap.size 5 i0 (.int .u8 0) 1 1 Tryd.underlying31 hi hz0 hz1 hz2 rfl (by decide) _ _ _ rfl HACC.out _ _ _ (bv (xs)) rfl (by rw [bv_length, Nat.mul_one]) (Rd.news HRD.out) (bv_one _) (by unfold maxLen; simp; omega) (by simp; omega) (by simp) ?_)
    intro v' w2 hown hg _
    have hacc' : Acc w2 w.heap.size v' (xs) := by unfold Acc; have h := hown; first | exact h | (simp at h; exact h) | (trace_state; exact h)
    have hbel' : Below w.heap.size w w2 := HB0.out.grown hg (by simp) (fun k hk => Acc.own HACC.out k hk)
    have HA2 := Lib.hid (OwnB.of hacc' HD.out)
    have HB2 := Lib.hid hbel'
    clear hown hg hacc' hbel'
    go_wp2_with fail
    go_ret
    exact ⟨_, rfl, HA2.out, HB2.out⟩
  · rw [List.take_of_length_le (by omega)]
    have HD := Lib.hid hb
    have hi1 : ¬ ((n : Int) < (bs.length : Int)) := by omega
    rcases A with _ | ad
    · have hc0 := h.cap rfl
      have hb0 : bs = [] := by
        rcases Nat.eq_zero_or_pos bs.length with h0 | h0
        · exact List.eq_nil_of_length_eq_zero h0
        · obtain ⟨_, _, e, _⟩ := h.at_ h0; cases e
      subst hb0 hc0
      have hacc : Acc (w.alloc (.cells #[] 5)) w.heap.size (.slice (some ⟨w.heap.size, 0, none⟩) 0 0) [] := Acc.of_row (Row.new (k := .u8) w 5 []) (Nat.le_refl _) (by simp)
      have hbel : Below w.heap.size w (w.alloc (.cells #[] 5)) := (Below.refl _ _).alloc (Nat.le_refl _) _
      have HACC := Lib.hid hacc
      have HB0 := Lib.hid hbel
      have hi1 : ¬ ((n : Int) < 0) := by omega
      clear hacc hbel h hb HR hlt
      go_enter Tryd.func32, Tryd.ntmps32
      go_wp2_with (at_builtin; refine wpList_append_own_none rfl (.tmp 12) (.tmp 13) 31 rfl w.heap.size 5 i0 1 Tryd.underlying31 hi _ _ _ rfl HACC.out rfl ?_)
      go_ret
      exact ⟨_, rfl, OwnB.of HACC.out HD.out, HB0.out⟩
    · have HX := Lib.hid h
      have hlt' : bs.length ≤ 65536 := by omega
      clear h hb hlt HR
      have hacc : Acc (w.alloc (.cells #[] 5)) w.heap.size (.slice (some ⟨w.heap.size, 0, none⟩) 0 0) [] := Acc.of_row (Row.new (k := .u8) w 5 []) (Nat.le_refl _) (by simp)
      have hrd2 := HX.out.alloc (.cells #[] 5)
      have hbel : Below w.heap.size w (w.alloc (.cells #[] 5)) := (Below.refl _ _).alloc (Nat.le_refl _) _
      have HACC := Lib.hid hacc
      have HRD := Lib.hid hrd2
      have HB0 := Lib.hid hbel
      clear hacc hrd2 hbel
      go_enter Tryd.func32, Tryd.ntmps32
      go_wp2_with (at_builtin; refine wpList_append_own _ rfl (.tmp 12) (.tmp 13) 31 rfl w.heap.size 5 i0 (.int .u8 0) 1 1 Tryd.underlying31 hi hz0 hz1 hz2 rfl (by decide) _ _ _ rfl HACC.out _ _ _ (bv (bs)) rfl (by rw [bv_length, Nat.mul_one]) (Rd.news HRD.out) (bv_one _) (by unfold maxLen; simp; omega) (by simp; omega) (by simp) ?_)
      intro v' w2 hown hg _
      have hacc' : Acc w2 w.heap.size v' (bs) := by unfold Acc; have h := hown; first | exact h | (simp at h; exact h) | (trace_state; exact h)
      have hbel' : Below w.heap.size w w2 := HB0.out.grown hg (by simp) (fun k hk => Acc.own HACC.out k hk)
      have HA2 := Lib.hid (OwnB.of hacc' HD.out)
      have HB2 := Lib.hid hbel'
      clear hown hg hacc' hbel'
      go_wp2_with fail
      go_ret
      exact ⟨_, rfl, HA2.out, HB2.out⟩
theorem twin_c {A : Option Addr} {c : Nat} {bs : List Nat} (w : World) (h : Rd .u8 w A c bs) (hb : Ds 256 bs) (n : Nat) (hn : n ≤ 65536) (hn0 : 0 < n) :
    Calls Tryd.prog 32 #[.slice A bs.length c, .int .i64 (n : Nat)] w (RetR (fun w' v => Byt w' v (bs.take n)) w) := (twin_o w h hb n hn hn0).mono fun _ _ ⟨v, e, h, hb⟩ => ⟨v, e, h.byt, hb⟩
end Go.Proofs.YtopeahjdglkheaaDoor
