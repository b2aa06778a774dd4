/- Package quarryref18: Name, Named, Shape. (Written by wip/gencdname.py.) -/
import Derived.Test.YtopeahjdglkheaaDoorCdRow
namespace Go.Proofs.YtopeahjdglkheaaDoor
open Go.RowKit

def nameZ (f op : Int) : ByteArray := if opZ f op = true then (rowN (decide (13 ≤ f)) op.toNat).1 else ⟨#[]⟩
def popsZ (f op : Int) : Nat := if opZ f op = true then (rowN false op.toNat).2.1 else 0
def laysZ (f op : Int) : Nat := if opZ f op = true then (rowN false op.toNat).2.2 else 0
theorem rowN_nums (b : Bool) (n : Nat) : (rowN b n).2 = (rowN false n).2 := by
  cases b
  · rfl
  · by_cases h : n = 68
    · subst h; rfl
    · simp [rowN, h]
theorem rowV_eq (f op : Int) : rowV f op = .tuple #[.string (nameZ f op), .int .i64 (popsZ f op : Nat), .int .i64 (laysZ f op : Nat), .bool (opZ f op)] := by
  unfold rowV nameZ popsZ laysZ
  by_cases h : opZ f op = true
  · rw [if_pos h, if_pos h, if_pos h, if_pos h, h, rowN_nums]
  · rw [if_neg h, if_neg h, if_neg h, if_neg h]
    rw [Bool.not_eq_true] at h
    rw [h]
    rfl
theorem cstr_ne {x y : ByteArray} (h : x ≠ y) : (x.toList == y.toList) = false := by
  refine beq_eq_false_iff_ne.2 fun e => h ?_
  rw [ByteArray.toList_eq, ByteArray.toList_eq] at e
  exact ByteArray.ext (Array.toList_inj.1 e)
theorem cstr_none {x : ByteArray} (h : x = ⟨#[]⟩) : x.toList.isEmpty = true := by rw [h, ByteArray.toList_eq]; rfl
theorem cstr_some {x : ByteArray} (h : x ≠ ⟨#[]⟩) : x.toList.isEmpty = false := by
  cases he : x.toList.isEmpty
  · rfl
  · refine absurd ?_ h
    rw [List.isEmpty_iff, ByteArray.toList_eq] at he
    exact ByteArray.ext (Array.toList_inj.1 he)
theorem cstr_eq {x y : ByteArray} (h : x = y) : (x.toList == y.toList) = true := by rw [h]; exact beq_self_eq_true _

set_option maxRecDepth 100000 in
set_option maxHeartbeats 6400000 in
theorem rname_c (f op : Int) (w : World) : Calls Tryd.prog 30 #[.int .i64 f, .int .i64 op] w (RetV (.string (nameZ f op)) w) := by
  have K : Hid (∀ w, Calls Tryd.prog 8 #[.int .i64 f, .int .i64 op] w (RetV (.tuple #[.string (nameZ f op), .int .i64 (popsZ f op : Nat), .int .i64 (laysZ f op : Nat), .bool (opZ f op)]) w)) := fun w => by rw [← rowV_eq]; exact rrow_c f op w
  generalize nameZ f op = s at *
  generalize popsZ f op = p at *
  generalize laysZ f op = q at *
  generalize opZ f op = b at *
  go_enter Tryd.func30, Tryd.ntmps30
  go_wp2_with fail
  (with_reducible refine (K.out _).mono ?_)
  rintro e w1 ⟨rfl, hb⟩
  clear K
  go_wp2_with fail
  go_ret
  exact ⟨rfl, hb⟩

/-- The first operation from i on of that name, of k to come. -/
def namedF (f : Int) (s : ByteArray) : Nat → Nat → Option Nat
  | 0, _ => none
  | k + 1, i => if nameZ f i = s then some i else namedF f s k (i + 1)
def cnamedZ (f : Int) (s : ByteArray) : Option Nat := if s = ⟨#[]⟩ then none else namedF f s 256 0
def cnamedV : Option Nat → Value
  | some i => .tuple #[.int .i64 (i : Nat), .bool true]
  | none => .tuple #[.int .i64 0, .bool false]

set_option maxRecDepth 100000 in
set_option maxHeartbeats 6400000 in
theorem rcnamed_c (f : Int) (s : ByteArray) (w : World) : Calls Tryd.prog 11 #[.int .i64 f, .string s] w (RetV (cnamedV (cnamedZ f s)) w) := by
  by_cases hs : s = ⟨#[]⟩
  · have hz : cnamedV (cnamedZ f s) = .tuple #[.int .i64 0, .bool false] := by rw [cnamedZ, if_pos hs]; rfl
    rw [hz]
    have he := cstr_none hs
    clear hs hz
    go_enter Tryd.func11, Tryd.ntmps11
    go_wp2_with fail
    go_loopw [6] (fun a wr => a = .int .i64 0 ∧ Hid (Below w.heap.size w wr)) (fun a _ => 0)
    case atStart => exact ⟨rfl, Lib.hid (Below.refl _ _)⟩
    case round =>
      obtain ⟨rfl, hb⟩ := hrel
      go_wp2_with fail
      exact bodyPost_ret (v := .tuple #[.int .i64 0, .bool false]) (by simp [results, Tryd.results11, go_sem]) rfl ⟨rfl, hb.out⟩
  · obtain ⟨q, hq⟩ : ∃ q, q = cnamedZ f s := ⟨_, rfl⟩
    rw [← hq]
    have HQ : Hid (q = namedF f s 256 0) := by rw [cnamedZ, if_neg hs] at hq; exact hq
    have hne0 := cstr_some hs
    clear hs hq
    go_enter Tryd.func11, Tryd.ntmps11
    go_wp2_with fail
    go_loopw [6] (fun a wr => ∃ (m : Nat), a = .int .i64 (m : Int) ∧ Hid (m ≤ 256) ∧ Hid (q = namedF f s (256 - m) m) ∧ Hid (Below w.heap.size w wr)) (fun a _ => 256 - (intOf a).toNat)
    case atStart => exact ⟨0, rfl, Lib.hid (Nat.zero_le _), HQ, Lib.hid (Below.refl _ _)⟩
    case round =>
      clear HQ
      obtain ⟨m, rfl, hm, hq, hb⟩ := hrel
      by_cases h0 : m < 256
      · have hq2 := hq.out
        rw [show 256 - m = 256 - (m + 1) + 1 by omega, namedF] at hq2
        have KN := Lib.hid (rname_c f m wr)
        obtain ⟨x, hx⟩ : ∃ x, x = nameZ f m := ⟨_, rfl⟩
        rw [← hx] at KN hq2
        have HQ2 := Lib.hid hq2
        clear hq hq2 hx
        go_wp2_with fail
        (with_reducible refine KN.out.mono ?_)
        rintro e w2 ⟨rfl, hb2⟩
        have HB2 := Lib.hid (hb.out.trans (hb2.mono hb.out.size))
        clear KN hb2
        by_cases he : x = s
        · have hq := HQ2.out
          rw [if_pos he] at hq
          have HQ := Lib.hid hq
          have hee := cstr_eq he
          clear hq HQ2 he
          go_wp2_with fail
          exact bodyPost_ret (v := .tuple #[.int .i64 (m : Nat), .bool true]) (by simp [results, Tryd.results11, go_sem]) rfl ⟨by rw [HQ.out]; rfl, HB2.out⟩
        · have hq := HQ2.out
          rw [if_neg he] at hq
          have HQ := Lib.hid hq
          have hne := cstr_ne he
          clear hq HQ2 he
          go_wp2_with fail
          go_roundw
          case rel => exact ⟨m + 1, by go_num, Lib.hid (by omega), HQ, HB2⟩
          case measure => simp [intOf]; omega
      · have hq2 := hq.out
        have hm2 := hm.out
        obtain rfl : m = 256 := by omega
        have HQ : Hid (q = none) := hq2
        clear hq hq2
        go_wp2_with fail
        exact bodyPost_ret (v := .tuple #[.int .i64 0, .bool false]) (by simp [results, Tryd.results11, go_sem]) rfl ⟨by rw [HQ.out]; rfl, hb.out⟩

def popsB : ByteArray := { data := (([48, 50, 50, 50, 50, 50, 50, 50, 51, 51, 50, 50, 46, 46, 46, 46, 50, 50, 50, 50, 50, 49, 50, 50, 50, 49, 50, 50, 50, 50, 46, 46, 50, 46, 46, 46, 46, 46, 46, 46, 46, 46, 46, 46, 46, 46, 46, 46, 48, 49, 48, 48, 48, 49, 48, 51, 48, 51, 48, 49, 52, 48, 51, 49].append [49, 48, 48, 48, 48, 48, 48, 48, 48, 49, 48, 46, 46, 46, 46, 46, 49, 49, 50, 50, 49, 50, 49, 50, 48, 48, 48, 48, 49, 50, 51, 48, 48, 48, 48, 48, 48, 48, 48, 48, 48, 48, 48, 48, 48, 48, 48, 48, 48, 48, 48, 48, 48, 48, 48, 48, 48, 48, 48, 48, 48, 48, 48, 48]).append ([49, 50, 51, 52, 53, 54, 55, 56, 57, 58, 59, 60, 61, 62, 63, 64, 50, 51, 52, 53, 54, 55, 56, 57, 58, 59, 60, 61, 62, 63, 64, 65, 50, 51, 52, 53, 54, 46, 46, 46, 46, 46, 46, 46, 46, 46, 46, 46, 46, 46, 46, 46, 46, 46, 46, 46, 46, 46, 46, 46, 46, 46, 46, 46].append [46, 46, 46, 46, 46, 46, 46, 46, 46, 46, 46, 46, 46, 46, 46, 46, 46, 46, 46, 46, 46, 46, 46, 46, 46, 46, 46, 46, 46, 46, 46, 46, 46, 46, 46, 46, 46, 46, 46, 46, 46, 46, 46, 46, 46, 46, 46, 46, 51, 55, 55, 50, 54, 52, 46, 46, 46, 46, 54, 46, 46, 50, 46, 49])).toArray }
def laysB : ByteArray := { data := (([48, 49, 49, 49, 49, 49, 49, 49, 49, 49, 49, 49, 46, 46, 46, 46, 49, 49, 49, 49, 49, 49, 49, 49, 49, 49, 49, 49, 49, 49, 46, 46, 49, 46, 46, 46, 46, 46, 46, 46, 46, 46, 46, 46, 46, 46, 46, 46, 49, 49, 49, 49, 49, 49, 49, 48, 49, 48, 49, 49, 48, 49, 48, 49].append [49, 49, 49, 49, 49, 49, 49, 49, 49, 49, 49, 46, 46, 46, 46, 46, 48, 49, 48, 48, 49, 48, 48, 48, 49, 49, 49, 48, 49, 48, 48, 49, 49, 49, 49, 49, 49, 49, 49, 49, 49, 49, 49, 49, 49, 49, 49, 49, 49, 49, 49, 49, 49, 49, 49, 49, 49, 49, 49, 49, 49, 49, 49, 49]).append ([50, 51, 52, 53, 54, 55, 56, 57, 58, 59, 60, 61, 62, 63, 64, 65, 50, 51, 52, 53, 54, 55, 56, 57, 58, 59, 60, 61, 62, 63, 64, 65, 48, 48, 48, 48, 48, 46, 46, 46, 46, 46, 46, 46, 46, 46, 46, 46, 46, 46, 46, 46, 46, 46, 46, 46, 46, 46, 46, 46, 46, 46, 46, 46].append [46, 46, 46, 46, 46, 46, 46, 46, 46, 46, 46, 46, 46, 46, 46, 46, 46, 46, 46, 46, 46, 46, 46, 46, 46, 46, 46, 46, 46, 46, 46, 46, 46, 46, 46, 46, 46, 46, 46, 46, 46, 46, 46, 46, 46, 46, 46, 46, 49, 49, 49, 48, 49, 49, 46, 46, 46, 46, 49, 46, 46, 48, 46, 48])).toArray }
theorem shape_at : ∀ n : Nat, n < 256 → opFirst n ≠ 99 → popsB.data.toList[n]? = some (UInt8.ofNat (48 + (rowN false n).2.1)) ∧ laysB.data.toList[n]? = some (UInt8.ofNat (48 + (rowN false n).2.2)) ∧ (rowN false n).2.1 < 200 ∧ (rowN false n).2.2 < 200 := by decide +kernel
section
variable {ops : Array Oper} {T : Facts} {o : Oper} {a : Act} {w : World}
theorem cd_idx {s : ByteArray} {y : Operand} {n : Nat} {c : UInt8} (x : Operand) (ho : o.op = .index 9 y x) (hy : a.eval y = .string s) (hx : a.eval x = .int .i64 (n : Nat)) (hc : s.data.toList[n]? = some c) (hw : Region.wanted o (yielded ops a.tmps) = true) (hf : factTo T o.dst (.int .u8 (c.toNat : Nat)) w) : relStep Tryd.prog ops T o a w :=
  relStep_val (.int .u8 (c.toNat : Nat)) hw hf (by
    obtain ⟨hl, hg⟩ := List.getElem?_eq_some_iff.1 hc
    have hl2 : n < s.size := by rw [Array.length_toList] at hl; exact hl
    have hr : (Instr.index 9 (.string s) (.int .i64 (n : Nat))).run Tryd.prog w = .ok (.int .u8 (c.toNat : Nat)) w := by
      rw [run_index_string w 9 s .i64 (n : Nat) (by kernel_rfl), dif_pos ⟨by omega, by omega⟩]
      congr 3
      rw [← hg]
      rfl
    unfold execOp
    rw [ho]
    simp only [hx, hy]
    clear hx hy hf hw ho
    go_simp)
theorem cd_from8 {z : Int} (h0 : 0 ≤ z) (h1 : z < 256) (x : Operand) (ho : o.op = .convert 5 3 x) (hx : a.eval x = .int .u8 z) (hw : Region.wanted o (yielded ops a.tmps) = true) (hf : factTo T o.dst (.int .i64 z) w) : relStep Tryd.prog ops T o a w :=
  relStep_val _ hw hf (by
    have e : IntKind.i64.wrap z = z := IntWalk.i64_in _ (by omega)
    unfold execOp
    rw [ho]
    simp only [hx]
    go_simp)
end

set_option maxRecDepth 100000 in
set_option maxHeartbeats 6400000 in
theorem rshape_c (f op : Int) (w : World) : Calls Tryd.prog 12 #[.int .i64 f, .int .i64 op] w (RetV (.tuple #[.int .i64 (popsZ f op : Nat), .int .i64 (laysZ f op : Nat), .bool (opZ f op)]) w) := by
  have KO : Hid (∀ v, Calls Tryd.prog 25 #[.int .i64 f, .int .i64 op] v (fun e w' => e = .returned (.bool (opZ f op)) ∧ w' = v)) := fun v => rop_c f op v
  by_cases h : opZ f op = true
  · have h0 : opFirst op ≠ 99 := fun e => by
      unfold opZ at h
      have := of_decide_eq_true h
      omega
    have hop : 0 ≤ op ∧ op < 256 := by
      constructor
      · refine Int.not_lt.1 fun hlt => h0 (opFirst_lo hlt)
      · refine Int.not_le.1 fun hge => h0 (opFirst_256 hge)
    obtain ⟨n, rfl⟩ : ∃ n : Nat, op = n := ⟨op.toNat, by omega⟩
    obtain ⟨cp, cl, hp, hl⟩ := shape_at n (by omega) h0
    have ep : popsZ f n = (rowN false n).2.1 := by unfold popsZ; rw [if_pos h]; rfl
    have el : laysZ f n = (rowN false n).2.2 := by unfold laysZ; rw [if_pos h]; rfl
    rw [← ep] at cp hp
    rw [← el] at cl hl
    rw [h] at KO ⊢
    generalize popsZ f n = pz at *
    generalize laysZ f n = qz at *
    obtain ⟨p, hpz⟩ : ∃ p, p = UInt8.ofNat (48 + pz) := ⟨_, rfl⟩
    obtain ⟨q, hqz⟩ : ∃ q, q = UInt8.ofNat (48 + qz) := ⟨_, rfl⟩
    have np : p.toNat = 48 + pz := by rw [hpz, UInt8.toNat_ofNat']; omega
    have nq : q.toNat = 48 + qz := by rw [hqz, UInt8.toNat_ofNat']; omega
    rw [← hpz] at cp
    rw [← hqz] at cl
    have CP := Lib.hid cp
    have CL := Lib.hid cl
    have BP : Hid ((p.toNat : Int) < 256) := Lib.hid (by omega)
    have BL : Hid ((q.toNat : Int) < 256) := Lib.hid (by omega)
    have WP : Hid (IntKind.i64.wrap ((p.toNat : Int) - 48) = (pz : Int)) := by show _ = _; rw [IntWalk.i64_in _ (by omega)]; omega
    have WL : Hid (IntKind.i64.wrap ((q.toNat : Int) - 48) = (qz : Int)) := by show _ = _; rw [IntWalk.i64_in _ (by omega)]; omega
    clear h h0 hop cp cl hp hl ep el np nq hpz hqz
    go_enter Tryd.func12, Tryd.ntmps12
    go_wp2_with fail
    (with_reducible refine (KO.out _).mono ?_)
    rintro e w1 ⟨rfl, rfl⟩
    clear KO
    go_upto_region 3 with (fail)
    refine wp_region_see 11 [11, 12, 13, 14, 15, 16, 17, 18, 4, 5, 6] [(11, .is (.int .i64 (n : Nat))), (12, .is (.int .u8 (p.toNat : Nat))), (13, .is (.int .i64 (p.toNat : Nat))), (14, .is (.int .i64 (pz : Nat))), (15, .is (.int .i64 (n : Nat))), (16, .is (.int .u8 (q.toNat : Nat))), (17, .is (.int .i64 (q.toNat : Nat))), (18, .is (.int .i64 (qz : Nat))), (4, .is (.int .i64 (pz : Nat))), (5, .is (.int .i64 (qz : Nat))), (6, .is (.bool true))] (by kernel_rfl) (by kernel_rfl) (by rfl) ?_ ?_
    · refine seeOps_cons ?_ (seeOps_cons ?_ (seeOps_cons ?_ (seeOps_cons ?_ (seeOps_cons ?_ (seeOps_cons ?_ (seeOps_cons ?_ (seeOps_cons ?_ (seeOps_cons ?_ (seeOps_cons ?_ (seeOps_cons ?_ seeOps_nil))))))))))
      · intro w9 hb9 fr hout hin
        have h1 : fr.tmps.getD 1 undef = .int .i64 (n : Nat) := hout 1 (by decide)
        clear hout hin
        exact relStep_move (.tmp 1) rfl (wanted_none rfl) (by show fr.tmps.getD 1 undef = _; rw [h1])
      · intro w9 hb9 fr hout hin
        have h11 : fr.tmps.getD 11 undef = .int .i64 (n : Nat) := hin 11 (by decide) (by decide)
        clear hout hin
        exact cd_idx (s := popsB) (.tmp 11) rfl rfl h11 CP.out (wanted_none rfl) rfl
      · intro w9 hb9 fr hout hin
        have h12 : fr.tmps.getD 12 undef = .int .u8 (p.toNat : Nat) := hin 12 (by decide) (by decide)
        clear hout hin
        exact cd_from8 (by omega) BP.out (.tmp 12) rfl h12 (wanted_none rfl) rfl
      · intro w9 hb9 fr hout hin
        have h13 : fr.tmps.getD 13 undef = .int .i64 (p.toNat : Nat) := hin 13 (by decide) (by decide)
        clear hout hin
        exact cd_bin .sub 3 (.tmp 13) (.const (.int .i64 48)) _ rfl h13 rfl (fun w => by go_simp) (fun w => by rw [← WP.out]; go_simp) (wanted_none rfl) rfl
      · intro w9 hb9 fr hout hin
        have h1 : fr.tmps.getD 1 undef = .int .i64 (n : Nat) := hout 1 (by decide)
        clear hout hin
        exact relStep_move (.tmp 1) rfl (wanted_none rfl) (by show fr.tmps.getD 1 undef = _; rw [h1])
      · intro w9 hb9 fr hout hin
        have h15 : fr.tmps.getD 15 undef = .int .i64 (n : Nat) := hin 15 (by decide) (by decide)
        clear hout hin
        exact cd_idx (s := laysB) (.tmp 15) rfl rfl h15 CL.out (wanted_none rfl) rfl
      · intro w9 hb9 fr hout hin
        have h16 : fr.tmps.getD 16 undef = .int .u8 (q.toNat : Nat) := hin 16 (by decide) (by decide)
        clear hout hin
        exact cd_from8 (by omega) BL.out (.tmp 16) rfl h16 (wanted_none rfl) rfl
      · intro w9 hb9 fr hout hin
        have h17 : fr.tmps.getD 17 undef = .int .i64 (q.toNat : Nat) := hin 17 (by decide) (by decide)
        clear hout hin
        exact cd_bin .sub 3 (.tmp 17) (.const (.int .i64 48)) _ rfl h17 rfl (fun w => by go_simp) (fun w => by rw [← WL.out]; go_simp) (wanted_none rfl) rfl
      · intro w9 hb9 fr hout hin
        have h14 : fr.tmps.getD 14 undef = .int .i64 (pz : Nat) := hin 14 (by decide) (by decide)
        clear hout hin
        exact relStep_assign (.tmp 14) rfl (wanted_none rfl) (by show fr.tmps.getD 14 undef = _; rw [h14])
      · intro w9 hb9 fr hout hin
        have h18 : fr.tmps.getD 18 undef = .int .i64 (qz : Nat) := hin 18 (by decide) (by decide)
        clear hout hin
        exact relStep_assign (.tmp 18) rfl (wanted_none rfl) (by show fr.tmps.getD 18 undef = _; rw [h18])
      · intro w9 hb9 fr hout hin
        clear hout hin
        exact relStep_assign (.const (.bool true)) rfl (wanted_none rfl) rfl
    intro X9 hb9
    refine relAsk_in (by rfl) ?_
    intro v11 h11
    obtain rfl : v11 = .int .i64 (n : Nat) := h11
    refine relAsk_in (by rfl) ?_
    intro v12 h12
    obtain rfl : v12 = .int .u8 (p.toNat : Nat) := h12
    refine relAsk_in (by rfl) ?_
    intro v13 h13
    obtain rfl : v13 = .int .i64 (p.toNat : Nat) := h13
    refine relAsk_in (by rfl) ?_
    intro v14 h14
    obtain rfl : v14 = .int .i64 (pz : Nat) := h14
    refine relAsk_in (by rfl) ?_
    intro v15 h15
    obtain rfl : v15 = .int .i64 (n : Nat) := h15
    refine relAsk_in (by rfl) ?_
    intro v16 h16
    obtain rfl : v16 = .int .u8 (q.toNat : Nat) := h16
    refine relAsk_in (by rfl) ?_
    intro v17 h17
    obtain rfl : v17 = .int .i64 (q.toNat : Nat) := h17
    refine relAsk_in (by rfl) ?_
    intro v18 h18
    obtain rfl : v18 = .int .i64 (qz : Nat) := h18
    refine relAsk_in (by rfl) ?_
    intro v4 h4
    obtain rfl : v4 = .int .i64 (pz : Nat) := h4
    refine relAsk_in (by rfl) ?_
    intro v5 h5
    obtain rfl : v5 = .int .i64 (qz : Nat) := h5
    refine relAsk_in (by rfl) ?_
    intro v6 h6
    obtain rfl : v6 = .bool true := h6
    refine relAsk_nil ?_
    refine wpList_nil ?_
    go_simp
    go_wp2_with fail
    exact bodyPost_ret (v := .tuple #[.int .i64 (pz : Nat), .int .i64 (qz : Nat), .bool true]) (by simp [results, Tryd.results12, go_sem]) rfl ⟨rfl, hb9⟩
  · rw [Bool.not_eq_true] at h
    have ep : popsZ f op = 0 := by unfold popsZ; rw [h]; rfl
    have el : laysZ f op = 0 := by unfold laysZ; rw [h]; rfl
    rw [ep, el]
    rw [h] at KO ⊢
    clear h ep el
    go_enter Tryd.func12, Tryd.ntmps12
    go_wp2_with fail
    (with_reducible refine (KO.out _).mono ?_)
    rintro e w1 ⟨rfl, rfl⟩
    clear KO
    go_wp2_with fail
    exact bodyPost_ret (v := .tuple #[.int .i64 0, .int .i64 0, .bool false]) (by simp [results, Tryd.results12, go_sem]) rfl ⟨rfl, Below.refl _ _⟩
end Go.Proofs.YtopeahjdglkheaaDoor
