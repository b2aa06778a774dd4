/- The law CodeJumps over package code's contracts. (Written by wip/gencdjumpslaw.py.) -/
import Derived.Test.YtopeahjdglkheaaDoorCdWakes
import Derived.Test.YtopeahjdglkheaaDoorCdOps
namespace Go.Proofs.YtopeahjdglkheaaDoor
open Go.RowKit

section
variable {ops : Array Oper} {T : Facts} {o : Oper} {a : Act} {w : World}
theorem cd_lenI {A : Option Addr} {n c : Nat} (x : Operand) (ho : o.op = .call { callee := .builtin .len, args := #[x], argTypes := #[36] }) (hx : a.eval x = .slice A n c) (hw : Region.wanted o (yielded ops a.tmps) = true) (hf : factTo T o.dst (.int .i64 (n : Nat)) w) : relStep Tryd.prog ops T o a w :=
  relStep_val (.int .i64 (n : Nat)) hw hf (by
    clear hw hf
    generalize a.eval = p at *
    unfold execOp
    rw [ho]
    go_simp)
theorem cd_loadW {g k n : Nat} (x : Operand) (ho : o.op = .load 34 x) (hx : a.eval x = .pointer (some ⟨g, k, none⟩))
    (hc : w.cell? ⟨g, k, none⟩ = some (.int .u64 (lim 0 n : Nat)) ∧ w.cell? ⟨g, k + 1, none⟩ = some (.int .u64 (lim 1 n : Nat)) ∧ w.cell? ⟨g, k + 2, none⟩ = some (.int .u64 (lim 2 n : Nat)) ∧ w.cell? ⟨g, k + 3, none⟩ = some (.int .u64 (lim 3 n : Nat)))
    (hw : Region.wanted o (yielded ops a.tmps) = true) (hf : factTo T o.dst (W n) w) : relStep Tryd.prog ops T o a w :=
  relStep_val (W n) hw hf (by
    obtain ⟨c0, c1, c2, c3⟩ := hc
    unfold execOp
    rw [ho]
    simp only [hx]
    go_simp)
theorem cd_idxI {g k c m : Nat} (x y : Operand) (ho : o.op = .indexAddr 36 x y) (hm : m < k) (hx : a.eval x = .slice (some ⟨g, 0, none⟩) k c) (hy : a.eval y = .int .i64 (m : Nat)) (hw : Region.wanted o (yielded ops a.tmps) = true) (hf : factTo T o.dst (.pointer (some ⟨g, m, none⟩)) w) : relStep Tryd.prog ops T o a w :=
  relStep_val (.pointer (some ⟨g, m, none⟩)) hw hf (by
    have h1 : (m : Int) < (k : Int) := by omega
    unfold execOp
    rw [ho]
    simp only [hx, hy]
    go_simp)
theorem cd_loadI {g k : Nat} {v : Value} (x : Operand) (ho : o.op = .load 3 x) (hx : a.eval x = .pointer (some ⟨g, k, none⟩)) (hc : w.cell? ⟨g, k, none⟩ = some v) (hw : Region.wanted o (yielded ops a.tmps) = true) (hf : factTo T o.dst v w) : relStep Tryd.prog ops T o a w :=
  relStep_val v hw hf (by
    unfold execOp
    rw [ho]
    simp only [hx]
    go_simp)
theorem cd_conv {z : Int} (x : Operand) (ho : o.op = .convert 3 32 x) (hx : a.eval x = .int .i64 z) (hw : Region.wanted o (yielded ops a.tmps) = true) (hf : factTo T o.dst (.int .u64 (IntKind.u64.wrap z)) w) : relStep Tryd.prog ops T o a w :=
  relStep_val _ hw hf (by
    unfold execOp
    rw [ho]
    simp only [hx]
    go_simp)
theorem cd_bldW {n : Nat} (x : Operand) (ho : o.op = .build 34 #[(0, x)]) (hx : a.eval x = .int .u64 (n : Nat)) (hn : n < 18446744073709551616) (hw : Region.wanted o (yielded ops a.tmps) = true) (hf : factTo T o.dst (W n) w) : relStep Tryd.prog ops T o a w :=
  relStep_val (W n) hw hf (by
    rw [W_small hn]
    clear hw hf
    generalize a.eval = p at *
    unfold execOp
    rw [ho]
    go_simp)
theorem cd_not {b : Bool} (x : Operand) (t : TypeId) (ho : o.op = .unOp .not t x) (hx : a.eval x = .bool b) (hw : Region.wanted o (yielded ops a.tmps) = true) (hf : factTo T o.dst (.bool (!b)) w) : relStep Tryd.prog ops T o a w :=
  relStep_val (.bool (!b)) hw hf (by
    unfold execOp
    rw [ho]
    simp only [hx]
    cases b <;> go_simp)
end
theorem en_cdJump (args : Array Value) (w : World) : (callFunc 18 args).run Tryd.prog w = .ok (.enter 18 args) w := by go_simp
theorem en_rcdJump (args : Array Value) (w : World) : (callFunc 19 args).run Tryd.prog w = .ok (.enter 19 args) w := by go_simp
theorem fewB {v : Value} {b : List Nat} (w : World) (h : Byt w v b) (hl : b.length ≤ 3000) : Calls Tryd.prog 15 #[v] w (RetR (fun w' v => Byt w' v b) w) := by
  obtain ⟨A, c, rfl, hr, hd⟩ := h
  have k := few_c w hr hd
  rw [List.take_of_length_le hl] at k
  exact k
theorem jumpsB_c {v : Value} {b : List Nat} (w : World) (h : Byt w v b) (hl : b.length ≤ 3000) : Calls Tryd.prog 16 #[v] w (JumpsW b w) := by
  obtain ⟨A, c, rfl, hr, hd⟩ := h
  exact cdJumps w hr hd hl
theorem rjumpsB_c {v : Value} {b : List Nat} (w : World) (h : Byt w v b) (hl : b.length ≤ 3000) : Calls Tryd.prog 17 #[v] w (JumpsW b w) := by
  obtain ⟨A, c, rfl, hr, hd⟩ := h
  exact (rjumps_c w hr hd (by omega)).mono fun _ _ h => h.weak
theorem jumpB_c {v : Value} {a : Nat} {b : List Nat} (w : World) (h : Byt w v b) (hl : b.length ≤ 3000) (ha : Big a) : Calls Tryd.prog 18 #[v, W a] w (RetV (.bool (jumpB a b)) w) := by
  obtain ⟨A, c, rfl, hr, hd⟩ := h
  exact cdJump w hr hd hl ha

set_option maxRecDepth 100000 in
set_option maxHeartbeats 12800000 in
theorem codeJumps_c (w : World) {A : Option Addr} {c : Nat} {bs : List Nat} (h : Rd .u8 w A c bs) (hd : Ds 256 bs) (a : Nat) (hBIG : Big a) : Calls Tryd.prog 4 #[.slice A bs.length c, W a] w (RetV (.bool true) w) := by
  obtain ⟨n, hn⟩ : ∃ n, n = bs.length := ⟨_, rfl⟩
  obtain ⟨b, hb0⟩ : ∃ b, b = bs.take 3000 := ⟨_, rfl⟩
  obtain ⟨L, hL⟩ : ∃ L, L = jmp 0 0 b := ⟨_, rfl⟩
  obtain ⟨k, hk⟩ : ∃ k, k = L.length := ⟨_, rfl⟩
  obtain ⟨q, hq⟩ : ∃ q, q = jumpB a b := ⟨_, rfl⟩
  have hlb : b.length ≤ 3000 := by rw [hb0, List.length_take]; omega
  have hk2 : k ≤ 3000 := by rw [hk, hL]; exact Nat.le_trans (jmp_len 0 0 b) hlb
  have KF : Hid (∀ u, Below w.heap.size w u → Calls Tryd.prog 15 #[.slice A n c] u (RetR (fun w' v => Byt w' v b) u)) := fun u hu => by rw [hn, hb0]; exact few_c u (h.below hu) hd
  rw [← hn]
  have KJ : Hid (∀ u v, Byt u v b → Calls Tryd.prog 16 #[v] u (fun e w' => ∃ A c, e = .returned (.slice A k c) ∧ IntsAt w' A L ∧ Below u.heap.size u w')) := fun u v hv => by rw [hk, hL]; exact jumpsB_c u hv hlb
  have KR : Hid (∀ u v, Byt u v b → Calls Tryd.prog 17 #[v] u (fun e w' => ∃ A c, e = .returned (.slice A k c) ∧ IntsAt w' A L ∧ Below u.heap.size u w')) := fun u v hv => by rw [hk, hL]; exact rjumpsB_c u hv hlb
  have KFB : Hid (∀ u v, Byt u v b → Calls Tryd.prog 15 #[v] u (RetR (fun w' v => Byt w' v b) u)) := fun u v hv => fewB u hv hlb
  have KX : Hid (∀ x, x ∈ L → ∀ u v, Byt u v b → Calls Tryd.prog 18 #[v, W x] u (RetV (.bool true) u)) := fun x hx u v hv => by
    have h1 : x < 3000 := by rw [hL] at hx; have := jmp_lt 0 0 b x hx; omega
    have h2 := jumpB_c (a := x) u hv hlb (by unfold Big; omega)
    rw [show jumpB x b = true by rw [jumpB, ← hL]; exact decide_eq_true hx] at h2
    exact h2
  have HXB : Hid (∀ x, x ∈ L → x < 3000) := fun x hx => by rw [hL] at hx; have := jmp_lt 0 0 b x hx; omega
  have HLB := Lib.hid hlb
  have HBIG := Lib.hid hBIG
  have HK := Lib.hid hk
  have HQ := Lib.hid hq
  have HK2 := Lib.hid hk2
  have gW := (Below.refl w.heap.size w).alloc (Nat.le_refl _) (.cells #[.int .u64 (lim 0 a : Nat), .int .u64 (lim 1 a : Nat), .int .u64 (lim 2 a : Nat), .int .u64 (lim 3 a : Nat)] 34)
  have gA := Arr.new4 w 34 (lim 0 a) (lim 1 a) (lim 2 a) (lim 3 a)
  have HKW : Hid (∀ u, Calls Tryd.prog 14 #[] u (RetV (.bool true) u)) := fun u => cdwakes_c u
  clear hn hb0 hL hk hq hlb hBIG h hd hk2
  go_enter Tryd.func4, Tryd.ntmps4
  go_upto_region 1 with (fail)
  generalize w.alloc (.cells #[.int .u64 (lim 0 a : Nat), .int .u64 (lim 1 a : Nat), .int .u64 (lim 2 a : Nat), .int .u64 (lim 3 a : Nat)] 34) = X at *
  have HA := Lib.hid gA
  have HGX := Lib.hid gW
  have HGA : Hid (w.heap.size < X.heap.size) := gA.lt
  clear gA gW
  go_wp2_with fail
  (with_reducible refine (KF.out _ HGX.out).mono ?_)
  rintro e w1 ⟨v5, rfl, hby, hb1⟩
  obtain ⟨A5, c5, rfl, hr5, hd5⟩ := hby
  obtain ⟨n5, hn5⟩ : ∃ n5, n5 = b.length := ⟨_, rfl⟩
  rw [← hn5]
  have HBY1 : Hid (Byt w1 (.slice A5 n5 c5) b) := by rw [hn5]; exact ⟨A5, c5, rfl, hr5, hd5⟩
  have HB1 := Lib.hid (HGX.out.trans (hb1.mono HGX.out.size))
  have HA1 := Lib.hid (HA.out.below hb1 HGA.out)
  have HG1 : Hid (w.heap.size < w1.heap.size) := Nat.lt_of_lt_of_le HGA.out hb1.size
  clear hr5 hd5 hn5 hb1 HA HGA HGX KF
  go_wp2_with fail
  (with_reducible refine (KFB.out _ _ HBY1.out).mono ?_)
  rintro e w2 ⟨v, rfl, hby2, hb2⟩
  have HBY2 := Lib.hid (HBY1.out.below hb2)
  have HB2 := Lib.hid (HB1.out.trans (hb2.mono HB1.out.size))
  have HA2 := Lib.hid (HA1.out.below hb2 HG1.out)
  have HG2 : Hid (w.heap.size < w2.heap.size) := Nat.lt_of_lt_of_le HG1.out hb2.size
  have HV := Lib.hid hby2
  clear hby2 hb2 HBY1 HB1 HA1 HG1
  go_wp2_with fail
  (with_reducible refine (KJ.out _ _ HV.out).mono ?_)
  rintro e w3 ⟨A6, c6, rfl, hat6, hb3⟩
  have HAT6 := Lib.hid hat6
  have HBY3 := Lib.hid (HBY2.out.below hb3)
  have HB3 := Lib.hid (HB2.out.trans (hb3.mono HB2.out.size))
  have HA3 := Lib.hid (HA2.out.below hb3 HG2.out)
  have HG3 : Hid (w.heap.size < w3.heap.size) := Nat.lt_of_lt_of_le HG2.out hb3.size
  clear hat6 hb3 HBY2 HB2 HA2 HG2 HV KJ
  go_wp2_with fail
  (with_reducible refine (KR.out _ _ HBY3.out).mono ?_)
  rintro e w4 ⟨A7, c7, rfl, hat7, hb4⟩
  have HAT7 := Lib.hid hat7
  have HAT6' := Lib.hid (HAT6.out.below hb4)
  have HBY := Lib.hid (HBY3.out.below hb4)
  have HB4 := Lib.hid (HB3.out.trans (hb4.mono HB3.out.size))
  have HA := Lib.hid (HA3.out.below hb4 HG3.out)
  have HGA : Hid (w.heap.size < w4.heap.size) := Nat.lt_of_lt_of_le HG3.out hb4.size
  have KRJ : Hid (∀ u, Below w4.heap.size w4 u → Calls Tryd.prog 19 #[.slice A5 n5 c5, W a] u (RetV (.bool q) u)) := fun u hu => by
    obtain ⟨A', c', e', hr, hd⟩ := HBY.out.below hu
    rw [e', HQ.out]
    exact rjump_c u hr hd (by have := HLB.out; omega) HBIG.out
  have JB : Hid (∀ u v, Byt u v b → Calls Tryd.prog 18 #[v, W a] u (RetV (.bool q) u)) := fun u v hv => by rw [HQ.out]; exact jumpB_c u hv HLB.out HBIG.out
  clear hat7 hb4 HBY3 HB3 HA3 HG3 HAT6 KR HQ
  go_upto_region 4 with (fail)
  refine wp_region_see 15 [16, 17, 18, 19, 20, 21, 22, 23, 24, 25, 26, 27, 28, 29, 30] [(16, .is (.slice A6 k c6)), (17, .is (.int .i64 (k : Nat))), (18, .is (.slice A7 k c7)), (19, .is (.int .i64 (k : Nat))), (20, .is (.bool false)), (21, .is (.bool false)), (22, .is (.slice A5 n5 c5)), (23, .byt b), (24, .is (W a)), (25, .is (.bool q)), (26, .is (.slice A5 n5 c5)), (27, .is (W a)), (28, .is (.bool q)), (29, .is (.bool false)), (30, .is (.bool false))] (by kernel_rfl) (by kernel_rfl) (by rfl) ?_ ?_
  · refine seeOps_cons ?_ (seeOps_cons ?_ (seeOps_cons ?_ (seeOps_cons ?_ (seeOps_cons ?_ (seeOps_cons ?_ (seeOps_cons ?_ (seeOps_cons ?_ (seeOps_cons ?_ (seeOps_cons ?_ (seeOps_cons ?_ (seeOps_cons ?_ (seeOps_cons ?_ (seeOps_cons ?_ (seeOps_cons ?_ seeOps_nil))))))))))))))
    · intro w9 hb9 fr hout hin
      have h6 : fr.tmps.getD 6 undef = .slice A6 k c6 := hout 6 (by decide)
      clear hout hin
      exact relStep_move (.tmp 6) rfl (wanted_none rfl) (by show fr.tmps.getD 6 undef = _; rw [h6])
    · intro w9 hb9 fr hout hin
      have h16 : fr.tmps.getD 16 undef = .slice A6 k c6 := hin 16 (by decide) (by decide)
      clear hout hin
      exact cd_lenI (.tmp 16) rfl h16 (wanted_none rfl) rfl
    · intro w9 hb9 fr hout hin
      have h7 : fr.tmps.getD 7 undef = .slice A7 k c7 := hout 7 (by decide)
      clear hout hin
      exact relStep_move (.tmp 7) rfl (wanted_none rfl) (by show fr.tmps.getD 7 undef = _; rw [h7])
    · intro w9 hb9 fr hout hin
      have h18 : fr.tmps.getD 18 undef = .slice A7 k c7 := hin 18 (by decide) (by decide)
      clear hout hin
      exact cd_lenI (.tmp 18) rfl h18 (wanted_none rfl) rfl
    · intro w9 hb9 fr hout hin
      have h17 : fr.tmps.getD 17 undef = .int .i64 (k : Nat) := hin 17 (by decide) (by decide)
      have h19 : fr.tmps.getD 19 undef = .int .i64 (k : Nat) := hin 19 (by decide) (by decide)
      clear hout hin
      exact cd_bin .neq 3 (.tmp 17) (.tmp 19) _ rfl h17 h19 (fun w => by go_simp) (fun w => by go_simp) (wanted_none rfl) rfl
    · intro w9 hb9 fr hout hin
      have h20 : fr.tmps.getD 20 undef = .bool false := hin 20 (by decide) (by decide)
      clear hout hin
      exact relStep_move (.tmp 20) rfl (wanted_none rfl) (by show fr.tmps.getD 20 undef = _; rw [h20])
    · intro w9 hb9 fr hout hin
      have h5 : fr.tmps.getD 5 undef = .slice A5 n5 c5 := hout 5 (by decide)
      have h21 : fr.tmps.getD 21 undef = .bool false := hin 21 (by decide) (by decide)
      clear hout hin
      exact relStep_move (.tmp 5) rfl (wanted_some (g := 5) (t := 21) (b := false) rfl rfl h21) (by show fr.tmps.getD 5 undef = _; rw [h5])
    · intro w9 hb9 fr hout hin
      have h22 : fr.tmps.getD 22 undef = .slice A5 n5 c5 := hin 22 (by decide) (by decide)
      have h21 : fr.tmps.getD 21 undef = .bool false := hin 21 (by decide) (by decide)
      clear hout hin
      exact cd_call1 (.tmp 22) rfl en_cdFew (wanted_some (g := 5) (t := 21) (b := false) rfl rfl h21) (by rw [show fr.eval (.tmp 22) = _ from h22]; exact fewB w9 (HBY.out.below hb9) HLB.out) (fun _ _ h => h)
    · intro w9 hb9 fr hout hin
      have h3 : fr.tmps.getD 3 undef = .pointer (some ⟨w.heap.size, 0, none⟩) := hout 3 (by decide)
      have h21 : fr.tmps.getD 21 undef = .bool false := hin 21 (by decide) (by decide)
      clear hout hin
      exact cd_loadW (n := a) (.tmp 3) rfl h3 (HA.out.below hb9 HGA.out).cells4 (wanted_some (g := 5) (t := 21) (b := false) rfl rfl h21) rfl
    · intro w9 hb9 fr hout hin
      have h23 : Byt w9 (fr.tmps.getD 23 undef) b := hin 23 (by decide) (by decide)
      have h24 : fr.tmps.getD 24 undef = W a := hin 24 (by decide) (by decide)
      have h21 : fr.tmps.getD 21 undef = .bool false := hin 21 (by decide) (by decide)
      clear hout hin
      exact cd_call2 (.tmp 23) (.tmp 24) rfl en_cdJump (wanted_some (g := 5) (t := 21) (b := false) rfl rfl h21) (by rw [show fr.eval (.tmp 24) = _ from h24]; exact (JB.out w9 _ h23).mono fun _ _ h => RetV.cd h) (fun _ _ h => h)
    · intro w9 hb9 fr hout hin
      have h5 : fr.tmps.getD 5 undef = .slice A5 n5 c5 := hout 5 (by decide)
      have h21 : fr.tmps.getD 21 undef = .bool false := hin 21 (by decide) (by decide)
      clear hout hin
      exact relStep_move (.tmp 5) rfl (wanted_some (g := 5) (t := 21) (b := false) rfl rfl h21) (by show fr.tmps.getD 5 undef = _; rw [h5])
    · intro w9 hb9 fr hout hin
      have h3 : fr.tmps.getD 3 undef = .pointer (some ⟨w.heap.size, 0, none⟩) := hout 3 (by decide)
      have h21 : fr.tmps.getD 21 undef = .bool false := hin 21 (by decide) (by decide)
      clear hout hin
      exact cd_loadW (n := a) (.tmp 3) rfl h3 (HA.out.below hb9 HGA.out).cells4 (wanted_some (g := 5) (t := 21) (b := false) rfl rfl h21) rfl
    · intro w9 hb9 fr hout hin
      have h26 : fr.tmps.getD 26 undef = .slice A5 n5 c5 := hin 26 (by decide) (by decide)
      have h27 : fr.tmps.getD 27 undef = W a := hin 27 (by decide) (by decide)
      have h21 : fr.tmps.getD 21 undef = .bool false := hin 21 (by decide) (by decide)
      clear hout hin
      exact cd_call2 (.tmp 26) (.tmp 27) rfl en_rcdJump (wanted_some (g := 5) (t := 21) (b := false) rfl rfl h21) (by rw [show fr.eval (.tmp 26) = _ from h26, show fr.eval (.tmp 27) = _ from h27]; exact (KRJ.out w9 hb9).mono fun _ _ h => RetV.cd h) (fun _ _ h => h)
    · intro w9 hb9 fr hout hin
      have h25 : fr.tmps.getD 25 undef = .bool q := hin 25 (by decide) (by decide)
      have h28 : fr.tmps.getD 28 undef = .bool q := hin 28 (by decide) (by decide)
      have h21 : fr.tmps.getD 21 undef = .bool false := hin 21 (by decide) (by decide)
      clear hout hin
      exact cd_bin .neq 4 (.tmp 25) (.tmp 28) _ rfl h25 h28 (fun w => by go_simp) (fun w => by cases q <;> go_simp) (wanted_some (g := 5) (t := 21) (b := false) rfl rfl h21) rfl
    · intro w9 hb9 fr hout hin
      have h21 : fr.tmps.getD 21 undef = .bool false := hin 21 (by decide) (by decide)
      have h29 : fr.tmps.getD 29 undef = .bool false := hin 29 (by decide) (by decide)
      clear hout hin
      exact relStep_pickF (.tmp 21) (.const (.bool true)) (.tmp 29) rfl h21 (wanted_none rfl) (by show fr.tmps.getD 29 undef = _; rw [h29])
  intro X9 hb9
  refine relAsk_in (by rfl) ?_
  intro v16 h16
  obtain rfl : v16 = .slice A6 k c6 := h16
  refine relAsk_in (by rfl) ?_
  intro v17 h17
  obtain rfl : v17 = .int .i64 (k : Nat) := h17
  refine relAsk_in (by rfl) ?_
  intro v18 h18
  obtain rfl : v18 = .slice A7 k c7 := h18
  refine relAsk_in (by rfl) ?_
  intro v19 h19
  obtain rfl : v19 = .int .i64 (k : Nat) := h19
  refine relAsk_in (by rfl) ?_
  intro v20 h20
  obtain rfl : v20 = .bool false := h20
  refine relAsk_in (by rfl) ?_
  intro v21 h21
  obtain rfl : v21 = .bool false := h21
  refine relAsk_in (by rfl) ?_
  intro v22 h22
  obtain rfl : v22 = .slice A5 n5 c5 := h22
  refine relAsk_in (by rfl) ?_
  intro v23 h23
  refine relAsk_in (by rfl) ?_
  intro v24 h24
  obtain rfl : v24 = W a := h24
  refine relAsk_in (by rfl) ?_
  intro v25 h25
  obtain rfl : v25 = .bool q := h25
  refine relAsk_in (by rfl) ?_
  intro v26 h26
  obtain rfl : v26 = .slice A5 n5 c5 := h26
  refine relAsk_in (by rfl) ?_
  intro v27 h27
  obtain rfl : v27 = W a := h27
  refine relAsk_in (by rfl) ?_
  intro v28 h28
  obtain rfl : v28 = .bool q := h28
  refine relAsk_in (by rfl) ?_
  intro v29 h29
  obtain rfl : v29 = .bool false := h29
  refine relAsk_in (by rfl) ?_
  intro v30 h30
  obtain rfl : v30 = .bool false := h30
  refine relAsk_nil ?_
  refine wpList_nil ?_
  clear h23
  go_simp
  have HB5 := Lib.hid (HB4.out.trans (hb9.mono HB4.out.size))
  have HAT6 := Lib.hid (HAT6'.out.below hb9)
  have HAT7' := Lib.hid (HAT7.out.below hb9)
  have HBY5 := Lib.hid (HBY.out.below hb9)
  clear hb9 HB4 HAT6' HAT7 HBY HA HGA KRJ JB
  go_wp2_with fail
  go_loopw [8] (fun i wr => ∃ m : Nat, i = .int .i64 (m : Nat) ∧ m ≤ k ∧ Hid (IntsAt wr A6 L) ∧ Hid (IntsAt wr A7 L) ∧ Hid (Byt wr (.slice A5 n5 c5) b) ∧ Hid (Below w.heap.size w wr)) (fun i _ => k - (intOf i).toNat)
  case atStart => exact ⟨0, rfl, Nat.zero_le _, HAT6, HAT7', HBY5, HB5⟩
  case round =>
    clear HAT6 HAT7' HBY5 HB5
    obtain ⟨m, rfl, hm, h6, h7, HBY, HB⟩ := hrel
    have hk3 : k ≤ 3000 := HK2.out
    by_cases h0 : m < k
    · obtain ⟨x, hx⟩ : ∃ x, L[m]? = some x := ⟨_, List.getElem?_eq_getElem (by rw [← HK.out]; exact h0)⟩
      obtain ⟨g6, rfl, hg6, c6m⟩ := h6.out m x hx
      obtain ⟨g7, rfl, hg7, c7m⟩ := h7.out m x hx
      rw [Nat.zero_add] at c6m c7m
      have C6 := Lib.hid (And.intro hg6 c6m)
      have C7 := Lib.hid (And.intro hg7 c7m)
      have hxm := List.mem_of_getElem? hx
      have JX := Lib.hid (fun u v hv => KX.out x hxm u v hv)
      have hx3 := HXB.out x hxm
      have HWX : Hid (IntKind.u64.wrap (x : Int) = (x : Int)) := IntWalk.u64_in _ (by omega)
      have HX64 : Hid (x < 18446744073709551616) := Lib.hid (by omega)
      have HMK := Lib.hid h0
      have h0i : (m : Int) < (k : Int) := by omega
      clear hg6 c6m hg7 c7m hxm hx3 hx h0
      go_upto_region 9 with (fail)
      refine wp_region_see 21 [37, 38, 39, 40, 41, 42, 43, 44, 45, 46, 47, 48, 49, 50, 51, 52, 53, 54, 55, 56, 57] [(37, .is (.slice (some ⟨g6, 0, none⟩) k c6)), (38, .is (.int .i64 (m : Nat))), (39, .is (.pointer (some ⟨g6, m, none⟩))), (40, .is (.int .i64 (x : Nat))), (41, .is (.slice (some ⟨g7, 0, none⟩) k c7)), (42, .is (.int .i64 (m : Nat))), (43, .is (.pointer (some ⟨g7, m, none⟩))), (44, .is (.int .i64 (x : Nat))), (45, .is (.bool false)), (46, .is (.bool false)), (47, .is (.slice A5 n5 c5)), (48, .byt b), (49, .is (.slice (some ⟨g6, 0, none⟩) k c6)), (50, .is (.int .i64 (m : Nat))), (51, .is (.pointer (some ⟨g6, m, none⟩))), (52, .is (.int .i64 (x : Nat))), (53, .is (.int .u64 (x : Nat))), (54, .is (W x)), (55, .is (.bool true)), (56, .is (.bool (!true))), (57, .is (.bool (!true)))] (by kernel_rfl) (by kernel_rfl) (by rfl) ?_ ?_
      · refine seeOps_cons ?_ (seeOps_cons ?_ (seeOps_cons ?_ (seeOps_cons ?_ (seeOps_cons ?_ (seeOps_cons ?_ (seeOps_cons ?_ (seeOps_cons ?_ (seeOps_cons ?_ (seeOps_cons ?_ (seeOps_cons ?_ (seeOps_cons ?_ (seeOps_cons ?_ (seeOps_cons ?_ (seeOps_cons ?_ (seeOps_cons ?_ (seeOps_cons ?_ (seeOps_cons ?_ (seeOps_cons ?_ (seeOps_cons ?_ (seeOps_cons ?_ seeOps_nil))))))))))))))))))))
        · intro w9 hb9 fr hout hin
          have h6 : fr.tmps.getD 6 undef = .slice (some ⟨g6, 0, none⟩) k c6 := hout 6 (by decide)
          clear hout hin
          exact relStep_move (.tmp 6) rfl (wanted_none rfl) (by show fr.tmps.getD 6 undef = _; rw [h6])
        · intro w9 hb9 fr hout hin
          have h8 : fr.tmps.getD 8 undef = .int .i64 (m : Nat) := hout 8 (by decide)
          clear hout hin
          exact relStep_move (.tmp 8) rfl (wanted_none rfl) (by show fr.tmps.getD 8 undef = _; rw [h8])
        · intro w9 hb9 fr hout hin
          have h37 : fr.tmps.getD 37 undef = .slice (some ⟨g6, 0, none⟩) k c6 := hin 37 (by decide) (by decide)
          have h38 : fr.tmps.getD 38 undef = .int .i64 (m : Nat) := hin 38 (by decide) (by decide)
          clear hout hin
          exact cd_idxI (.tmp 37) (.tmp 38) rfl HMK.out h37 h38 (wanted_none rfl) rfl
        · intro w9 hb9 fr hout hin
          have h39 : fr.tmps.getD 39 undef = .pointer (some ⟨g6, m, none⟩) := hin 39 (by decide) (by decide)
          clear hout hin
          exact cd_loadI (.tmp 39) rfl h39 ((hb9.cell (p := ⟨_, m, none⟩) C6.out.1).trans C6.out.2) (wanted_none rfl) rfl
        · intro w9 hb9 fr hout hin
          have h7 : fr.tmps.getD 7 undef = .slice (some ⟨g7, 0, none⟩) k c7 := hout 7 (by decide)
          clear hout hin
          exact relStep_move (.tmp 7) rfl (wanted_none rfl) (by show fr.tmps.getD 7 undef = _; rw [h7])
        · intro w9 hb9 fr hout hin
          have h8 : fr.tmps.getD 8 undef = .int .i64 (m : Nat) := hout 8 (by decide)
          clear hout hin
          exact relStep_move (.tmp 8) rfl (wanted_none rfl) (by show fr.tmps.getD 8 undef = _; rw [h8])
        · intro w9 hb9 fr hout hin
          have h41 : fr.tmps.getD 41 undef = .slice (some ⟨g7, 0, none⟩) k c7 := hin 41 (by decide) (by decide)
          have h42 : fr.tmps.getD 42 undef = .int .i64 (m : Nat) := hin 42 (by decide) (by decide)
          clear hout hin
          exact cd_idxI (.tmp 41) (.tmp 42) rfl HMK.out h41 h42 (wanted_none rfl) rfl
        · intro w9 hb9 fr hout hin
          have h43 : fr.tmps.getD 43 undef = .pointer (some ⟨g7, m, none⟩) := hin 43 (by decide) (by decide)
          clear hout hin
          exact cd_loadI (.tmp 43) rfl h43 ((hb9.cell (p := ⟨_, m, none⟩) C7.out.1).trans C7.out.2) (wanted_none rfl) rfl
        · intro w9 hb9 fr hout hin
          have h40 : fr.tmps.getD 40 undef = .int .i64 (x : Nat) := hin 40 (by decide) (by decide)
          have h44 : fr.tmps.getD 44 undef = .int .i64 (x : Nat) := hin 44 (by decide) (by decide)
          clear hout hin
          exact cd_bin .neq 3 (.tmp 40) (.tmp 44) _ rfl h40 h44 (fun w => by go_simp) (fun w => by go_simp) (wanted_none rfl) rfl
        · intro w9 hb9 fr hout hin
          have h45 : fr.tmps.getD 45 undef = .bool false := hin 45 (by decide) (by decide)
          clear hout hin
          exact relStep_move (.tmp 45) rfl (wanted_none rfl) (by show fr.tmps.getD 45 undef = _; rw [h45])
        · intro w9 hb9 fr hout hin
          have h5 : fr.tmps.getD 5 undef = .slice A5 n5 c5 := hout 5 (by decide)
          have h46 : fr.tmps.getD 46 undef = .bool false := hin 46 (by decide) (by decide)
          clear hout hin
          exact relStep_move (.tmp 5) rfl (wanted_some (g := 9) (t := 46) (b := false) rfl rfl h46) (by show fr.tmps.getD 5 undef = _; rw [h5])
        · intro w9 hb9 fr hout hin
          have h47 : fr.tmps.getD 47 undef = .slice A5 n5 c5 := hin 47 (by decide) (by decide)
          have h46 : fr.tmps.getD 46 undef = .bool false := hin 46 (by decide) (by decide)
          clear hout hin
          exact cd_call1 (.tmp 47) rfl en_cdFew (wanted_some (g := 9) (t := 46) (b := false) rfl rfl h46) (by rw [show fr.eval (.tmp 47) = _ from h47]; exact fewB w9 (HBY.out.below hb9) HLB.out) (fun _ _ h => h)
        · intro w9 hb9 fr hout hin
          have h6 : fr.tmps.getD 6 undef = .slice (some ⟨g6, 0, none⟩) k c6 := hout 6 (by decide)
          have h46 : fr.tmps.getD 46 undef = .bool false := hin 46 (by decide) (by decide)
          clear hout hin
          exact relStep_move (.tmp 6) rfl (wanted_some (g := 9) (t := 46) (b := false) rfl rfl h46) (by show fr.tmps.getD 6 undef = _; rw [h6])
        · intro w9 hb9 fr hout hin
          have h8 : fr.tmps.getD 8 undef = .int .i64 (m : Nat) := hout 8 (by decide)
          have h46 : fr.tmps.getD 46 undef = .bool false := hin 46 (by decide) (by decide)
          clear hout hin
          exact relStep_move (.tmp 8) rfl (wanted_some (g := 9) (t := 46) (b := false) rfl rfl h46) (by show fr.tmps.getD 8 undef = _; rw [h8])
        · intro w9 hb9 fr hout hin
          have h49 : fr.tmps.getD 49 undef = .slice (some ⟨g6, 0, none⟩) k c6 := hin 49 (by decide) (by decide)
          have h50 : fr.tmps.getD 50 undef = .int .i64 (m : Nat) := hin 50 (by decide) (by decide)
          have h46 : fr.tmps.getD 46 undef = .bool false := hin 46 (by decide) (by decide)
          clear hout hin
          exact cd_idxI (.tmp 49) (.tmp 50) rfl HMK.out h49 h50 (wanted_some (g := 9) (t := 46) (b := false) rfl rfl h46) rfl
        · intro w9 hb9 fr hout hin
          have h51 : fr.tmps.getD 51 undef = .pointer (some ⟨g6, m, none⟩) := hin 51 (by decide) (by decide)
          have h46 : fr.tmps.getD 46 undef = .bool false := hin 46 (by decide) (by decide)
          clear hout hin
          exact cd_loadI (.tmp 51) rfl h51 ((hb9.cell (p := ⟨_, m, none⟩) C6.out.1).trans C6.out.2) (wanted_some (g := 9) (t := 46) (b := false) rfl rfl h46) rfl
        · intro w9 hb9 fr hout hin
          have h52 : fr.tmps.getD 52 undef = .int .i64 (x : Nat) := hin 52 (by decide) (by decide)
          have h46 : fr.tmps.getD 46 undef = .bool false := hin 46 (by decide) (by decide)
          clear hout hin
          exact cd_conv (.tmp 52) rfl h52 (wanted_some (g := 9) (t := 46) (b := false) rfl rfl h46) (congrArg (Value.int .u64) HWX.out)
        · intro w9 hb9 fr hout hin
          have h53 : fr.tmps.getD 53 undef = .int .u64 (x : Nat) := hin 53 (by decide) (by decide)
          have h46 : fr.tmps.getD 46 undef = .bool false := hin 46 (by decide) (by decide)
          clear hout hin
          exact cd_bldW (.tmp 53) rfl h53 HX64.out (wanted_some (g := 9) (t := 46) (b := false) rfl rfl h46) rfl
        · intro w9 hb9 fr hout hin
          have h48 : Byt w9 (fr.tmps.getD 48 undef) b := hin 48 (by decide) (by decide)
          have h54 : fr.tmps.getD 54 undef = W x := hin 54 (by decide) (by decide)
          have h46 : fr.tmps.getD 46 undef = .bool false := hin 46 (by decide) (by decide)
          clear hout hin
          exact cd_call2 (.tmp 48) (.tmp 54) rfl en_cdJump (wanted_some (g := 9) (t := 46) (b := false) rfl rfl h46) (by rw [show fr.eval (.tmp 54) = _ from h54]; exact (JX.out w9 _ h48).mono fun _ _ h => RetV.cd h) (fun _ _ h => h)
        · intro w9 hb9 fr hout hin
          have h55 : fr.tmps.getD 55 undef = .bool true := hin 55 (by decide) (by decide)
          have h46 : fr.tmps.getD 46 undef = .bool false := hin 46 (by decide) (by decide)
          clear hout hin
          exact cd_not (.tmp 55) _ rfl h55 (wanted_some (g := 9) (t := 46) (b := false) rfl rfl h46) rfl
        · intro w9 hb9 fr hout hin
          have h46 : fr.tmps.getD 46 undef = .bool false := hin 46 (by decide) (by decide)
          have h56 : fr.tmps.getD 56 undef = .bool (!true) := hin 56 (by decide) (by decide)
          clear hout hin
          exact relStep_pickF (.tmp 46) (.const (.bool true)) (.tmp 56) rfl h46 (wanted_none rfl) (by show fr.tmps.getD 56 undef = _; rw [h56])
      intro X9 hb9
      refine relAsk_in (by rfl) ?_
      intro v37 h37
      obtain rfl : v37 = .slice (some ⟨g6, 0, none⟩) k c6 := h37
      refine relAsk_in (by rfl) ?_
      intro v38 h38
      obtain rfl : v38 = .int .i64 (m : Nat) := h38
      refine relAsk_in (by rfl) ?_
      intro v39 h39
      obtain rfl : v39 = .pointer (some ⟨g6, m, none⟩) := h39
      refine relAsk_in (by rfl) ?_
      intro v40 h40
      obtain rfl : v40 = .int .i64 (x : Nat) := h40
      refine relAsk_in (by rfl) ?_
      intro v41 h41
      obtain rfl : v41 = .slice (some ⟨g7, 0, none⟩) k c7 := h41
      refine relAsk_in (by rfl) ?_
      intro v42 h42
      obtain rfl : v42 = .int .i64 (m : Nat) := h42
      refine relAsk_in (by rfl) ?_
      intro v43 h43
      obtain rfl : v43 = .pointer (some ⟨g7, m, none⟩) := h43
      refine relAsk_in (by rfl) ?_
      intro v44 h44
      obtain rfl : v44 = .int .i64 (x : Nat) := h44
      refine relAsk_in (by rfl) ?_
      intro v45 h45
      obtain rfl : v45 = .bool false := h45
      refine relAsk_in (by rfl) ?_
      intro v46 h46
      obtain rfl : v46 = .bool false := h46
      refine relAsk_in (by rfl) ?_
      intro v47 h47
      obtain rfl : v47 = .slice A5 n5 c5 := h47
      refine relAsk_in (by rfl) ?_
      intro v48 h48
      refine relAsk_in (by rfl) ?_
      intro v49 h49
      obtain rfl : v49 = .slice (some ⟨g6, 0, none⟩) k c6 := h49
      refine relAsk_in (by rfl) ?_
      intro v50 h50
      obtain rfl : v50 = .int .i64 (m : Nat) := h50
      refine relAsk_in (by rfl) ?_
      intro v51 h51
      obtain rfl : v51 = .pointer (some ⟨g6, m, none⟩) := h51
      refine relAsk_in (by rfl) ?_
      intro v52 h52
      obtain rfl : v52 = .int .i64 (x : Nat) := h52
      refine relAsk_in (by rfl) ?_
      intro v53 h53
      obtain rfl : v53 = .int .u64 (x : Nat) := h53
      refine relAsk_in (by rfl) ?_
      intro v54 h54
      obtain rfl : v54 = W x := h54
      refine relAsk_in (by rfl) ?_
      intro v55 h55
      obtain rfl : v55 = .bool true := h55
      refine relAsk_in (by rfl) ?_
      intro v56 h56
      obtain rfl : v56 = .bool (!true) := h56
      refine relAsk_in (by rfl) ?_
      intro v57 h57
      obtain rfl : v57 = .bool (!true) := h57
      refine relAsk_nil ?_
      refine wpList_nil ?_
      clear h48
      go_simp
      have HB9 := Lib.hid (HB.out.trans (hb9.mono HB.out.size))
      have H6 := Lib.hid (h6.out.below hb9)
      have H7 := Lib.hid (h7.out.below hb9)
      have HBY9 := Lib.hid (HBY.out.below hb9)
      clear hb9 HB h6 h7 HBY JX C6 C7 HWX HX64
      go_wp2_with fail
      go_roundw
      case rel => exact ⟨m + 1, by go_num, by have := HMK.out; omega, H6, H7, HBY9, HB9⟩
      case measure => have := HMK.out; simp [intOf]; omega
    · have h0i : ¬ (m : Int) < (k : Int) := by omega
      go_wp2_with fail
      (with_reducible refine (HKW.out _).mono ?_)
      rintro e w8 ⟨rfl, hb8⟩
      have HB8 := Lib.hid (HB.out.trans (hb8.mono HB.out.size))
      clear hb8 HB HKW
      go_wp2_with fail
      exact bodyPost_ret (v := .bool true) (by simp [results, Tryd.results4, go_sem]) rfl ⟨rfl, HB8.out⟩
end Go.Proofs.YtopeahjdglkheaaDoor
