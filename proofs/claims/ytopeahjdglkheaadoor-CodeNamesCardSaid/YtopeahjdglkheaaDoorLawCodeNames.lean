/- The law CodeNames over package code's contracts. -/
import Derived.Test.YtopeahjdglkheaaDoorCdWakes
import Derived.Test.YtopeahjdglkheaaDoorCdBack
namespace Go.Proofs.YtopeahjdglkheaaDoor
open Go.RowKit

theorem cnamedV_two (q : Option Nat) : ∃ i b, cnamedV q = .tuple #[.int .i64 i, .bool b] := by cases q <;> exact ⟨_, _, rfl⟩

set_option maxRecDepth 100000 in
set_option maxHeartbeats 12800000 in
theorem codeNames_w (f op : Int) (s : ByteArray) (hs : s.size ≤ 140737488351232) (b : Bool) (j : Int) (hz : opZ f op = b) (hj : cnamedV (cnamedZ f (nameZ f op)) = .tuple #[.int .i64 j, .bool b]) (hj2 : b = true → j = op) (w : World) : Calls Tryd.prog 3 #[.int .i64 f, .int .i64 op, .string s] w (RetV (.bool true) w) := by
  obtain ⟨n, hn⟩ : ∃ n, n = nameZ f op := ⟨_, rfl⟩
  obtain ⟨p, hp⟩ : ∃ p, p = popsZ f op := ⟨_, rfl⟩
  obtain ⟨q, hq⟩ : ∃ q, q = laysZ f op := ⟨_, rfl⟩
  obtain ⟨k, c, hk⟩ := cnamedV_two (cnamedZ f s)
  have hns : n.size ≤ 140737488351232 := by rw [hn]; have := nameZ_size f op; omega
  have KR : Hid (∀ w, Calls Tryd.prog 8 #[.int .i64 f, .int .i64 op] w (RetV (.tuple #[.string n, .int .i64 (p : Nat), .int .i64 (q : Nat), .bool b]) w)) := fun w => by have h := rrow_c f op w; rw [rowV_eq, hz, ← hn, ← hp, ← hq] at h; exact h
  have KP : Hid (∀ w, Calls Tryd.prog 9 #[.int .i64 f, .int .i64 op] w (RetV (.tuple #[.int .i64 (p : Nat), .int .i64 (q : Nat), .bool b]) w)) := fun w => by have h := cdPops f op w; rw [hz, ← hp, ← hq] at h; exact h
  have KS : Hid (∀ w, Calls Tryd.prog 12 #[.int .i64 f, .int .i64 op] w (RetV (.tuple #[.int .i64 (p : Nat), .int .i64 (q : Nat), .bool b]) w)) := fun w => by have h := rshape_c f op w; rw [hz, ← hp, ← hq] at h; exact h
  have KN : Hid (∀ w, Calls Tryd.prog 10 #[.int .i64 f, .string s] w (RetV (.tuple #[.int .i64 k, .bool c]) w)) := fun w => by rw [← hk]; exact cdNamed f s hs w
  have KM : Hid (∀ w, Calls Tryd.prog 11 #[.int .i64 f, .string s] w (RetV (.tuple #[.int .i64 k, .bool c]) w)) := fun w => by rw [← hk]; exact rcnamed_c f s w
  have KB : Hid (∀ w, Calls Tryd.prog 10 #[.int .i64 f, .string n] w (RetV (.tuple #[.int .i64 j, .bool b]) w)) := fun w => by have h := cdNamed f n hns w; rw [hn, hj, ← hn] at h; exact h
  have KA : Hid (∀ w, Calls Tryd.prog 13 #[.int .i64 f, .int .i64 op] w (RetV (.string n) w)) := fun w => by rw [hn]; exact cdName f op w
  have KW : Hid (∀ w, Calls Tryd.prog 14 #[] w (RetV (.bool true) w)) := fun w => cdwakes_c w
  clear hn hp hq hk hns hz hj hs
  go_enter Tryd.func3, Tryd.ntmps3
  go_wp2_with fail
  (with_reducible refine (KR.out _).mono ?_)
  rintro e w1 ⟨rfl, hb1⟩
  have HB1 := Lib.hid hb1
  clear hb1 KR
  go_wp2_with fail
  (with_reducible refine (KP.out _).mono ?_)
  rintro e w2 ⟨rfl, hb2⟩
  have HB2 := Lib.hid (HB1.out.trans (hb2.mono HB1.out.size))
  clear hb2 KP HB1
  go_wp2_with fail
  (with_reducible refine (KN.out _).mono ?_)
  rintro e w3 ⟨rfl, hb3⟩
  have HB3 := Lib.hid (HB2.out.trans (hb3.mono HB2.out.size))
  clear hb3 KN HB2
  go_wp2_with fail
  (with_reducible refine (KM.out _).mono ?_)
  rintro e w4 ⟨rfl, hb4⟩
  have HB4 := Lib.hid (HB3.out.trans (hb4.mono HB3.out.size))
  clear hb4 KM HB3
  go_wp2_with fail
  (with_reducible refine (KS.out _).mono ?_)
  rintro e w5 ⟨rfl, hb5⟩
  have HB5 := Lib.hid (HB4.out.trans (hb5.mono HB4.out.size))
  clear hb5 KS HB4
  go_wp2_with fail
  (with_reducible refine (KA.out _).mono ?_)
  rintro e w6 ⟨rfl, hb6⟩
  have HB6 := Lib.hid (HB5.out.trans (hb6.mono HB5.out.size))
  clear hb6 KA HB5
  go_wp2_with fail
  (with_reducible refine (KB.out _).mono ?_)
  rintro e w7 ⟨rfl, hb7⟩
  have HB7 := Lib.hid (HB6.out.trans (hb7.mono HB6.out.size))
  clear hb7 KB HB6
  cases b
  · go_wp2_with fail
    (with_reducible refine (KW.out _).mono ?_)
    rintro e w8 ⟨rfl, hb8⟩
    clear KW
    go_wp2_with fail
    go_ret
    exact ⟨rfl, HB7.out.trans (hb8.mono HB7.out.size)⟩
  · obtain rfl := hj2 rfl
    go_wp2_with fail
    (with_reducible refine (KW.out _).mono ?_)
    rintro e w8 ⟨rfl, hb8⟩
    clear KW
    go_wp2_with fail
    go_ret
    exact ⟨rfl, HB7.out.trans (hb8.mono HB7.out.size)⟩
theorem codeNames_c (w : World) (f : Int) (_ : -9223372036854775808 ≤ f) (_ : f < 9223372036854775808) (op : Int) (_ : -9223372036854775808 ≤ op) (_ : op < 9223372036854775808) (s : ByteArray) (hs : s.size ≤ 140737488351232) : Calls Tryd.prog 3 #[.int .i64 f, .int .i64 op, .string s] w (RetV (.bool true) w) := by
  cases h : opZ f op
  · exact codeNames_w f op s hs false 0 h (named_none h) (fun e => by cases e) w
  · exact codeNames_w f op s hs true op h (named_back h) (fun _ => rfl) w
end Go.Proofs.YtopeahjdglkheaaDoor
