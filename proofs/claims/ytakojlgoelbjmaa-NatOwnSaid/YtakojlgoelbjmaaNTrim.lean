/- The contracts of bytes.Clone, math/bits.Len8 and of package nat's Trim, Bits and Fill. -/
import Derived.Test.YtakojlgoelbjmaaNStrip
import Derived.Test.YtakojlgoelbjmaaNCmp
import Derived.Lib.SliceRun
import Derived.Laws.AppendOwn
import Derived.Laws.CopyOwn
import Derived.Test.YtakojlgoelbjmaaWordBits
import Derived.Test.YtakojlgoelbjmaaRBit
import Derived.Test.YtakojlgoelbjmaaRFrom
namespace Go.Proofs.Ytakojlgoelbjmaa
open Go.RowKit

theorem owns_byt {w : World} {base : Nat} {v : Value} {bs : List Nat} (h : w.ownsRow base 5 1 v bs.length (bs.map fun n : Nat => Value.int .u8 (n : Int))) (hb : Ds 256 bs) : Byt w v bs := by
  obtain ⟨_, ⟨rfl, h0⟩ | ⟨g, cap, cur, rfl, _, hg, hn, hm, hs, hc⟩⟩ := h
  · have e : bs = [] := List.eq_nil_of_length_eq_zero h0
    subst e
    exact Byt.nil _
  · refine ⟨_, cap, rfl, ⟨hn, (fun e => nomatch e), fun h0 => ⟨g, 0, rfl, ?_, fun j hj => ?_⟩⟩, hb⟩
    · rcases Nat.lt_or_ge g w.heap.size with hlt | hge
      · exact hlt
      · rw [Array.getElem?_eq_none hge] at hg; cases hg
    · rw [cell_of_row w g _ _ _ (0, 0) hg, Nat.zero_add]
      have := congrArg (fun l => l[j]?) hc
      simp only [Nat.mul_one, List.getElem?_map] at this
      rw [List.getElem?_take_of_lt hj] at this
      rw [← Array.getElem?_toList, this]
      simp [List.getElem?_eq_getElem hj]

set_option maxHeartbeats 2000000 in
set_option maxRecDepth 100000 in
theorem clone_o {A : Option Addr} {c : Nat} {xs : List Nat} (w : World) (h : Rd .u8 w A c xs) (hx : Ds 256 xs) (hl : xs.length ≤ 16777216) :
    Calls Try.prog 35 #[.slice A xs.length c] w (RetR (fun w' v => OwnB w.heap.size w' v xs) w) := by
  have q22 : ∀ (w : World) (a : Option Addr) (n c n' c' : Nat), (binOp .eql 22 (.slice a n c) (.slice none n' c')).run Try.prog w = .ok (.bool a.isNone) w := fun w a n c n' c' => Lib.run_eql_slice_nil w _ _ a n c n' c' Try.underlying22
  rcases A with _ | a
  · have h0 : xs.length = 0 := by have := h.cap rfl; have := h.le; omega
    have e : xs = [] := List.eq_nil_of_length_eq_zero h0
    subst e
    clear h
    go_enter Try.func35, Try.ntmps35
    go_wp2_with fail
    go_ret
    exact ⟨_, rfl, OwnB.nil _ _, Below.refl _ _⟩
  · obtain ⟨i0, hi, hz0, hz1, hz2⟩ := info_parts info8
    have hcell : Aside (∀ j (v : Value), (xs.map fun n : Nat => Value.int .u8 (n : Int))[j]? = some v → w.cell? (a.add j) = some v) := by
      intro j v hj
      rw [List.getElem?_map] at hj
      obtain ⟨u, hu, rfl⟩ := Option.map_eq_some_iff.1 hj
      have hjl : j < xs.length := (List.getElem?_eq_some_iff.1 hu).1
      obtain ⟨b, o, e, _, hc⟩ := h.at_ (by omega)
      cases e
      have e : (⟨b, o, none⟩ : Addr).add j = ⟨b, o + j, none⟩ := by unfold Addr.add; split <;> simp_all
      rw [e, hc j hjl, List.getD_eq_getElem?_getD, hu]
      rfl
    have HX := Lib.hid hx
    obtain ⟨L, hL⟩ : ∃ L, L = xs.length := ⟨_, rfl⟩
    rw [← hL] at hl
    rw [← hL]
    have HL := Lib.hid hL
    clear h hx hL
    go_enter Try.func35, Try.ntmps35
    go_wp2_with (at_builtin; refine wpList_append_own _ rfl _ _ 22 rfl w.heap.size 5 i0 (.int .u8 0) 1 1 Try.underlying22 hi hz0 hz1 hz2 rfl (by decide) _ _ _ rfl (World.ownsRow_made w #[] 0 (Nat.le_refl _) (Nat.zero_le _) rfl) a L c (xs.map fun n : Nat => Value.int .u8 (n : Int)) rfl ?qc1 ?qc2 ?qc3 ?qc4 ?qc5 ?qc6 ?_)
    case qc1 => rw [List.length_map, HL.out]; omega
    case qc2 =>
      intro j u hj
      exact Lib.cell?_alloc_some _ (hcell.out j u hj)
    case qc3 => intro u hu; obtain ⟨x, _, rfl⟩ := List.mem_map.1 hu; rfl
    case qc4 => unfold maxLen; omega
    case qc5 => omega
    case qc6 => simp
    intro v' w1 hown hgrow hnil
    go_wp2_with fail
    go_ret
    refine ⟨v', rfl, OwnB.of (by unfold Acc bv; rw [← HL.out]; simpa using hown) HX.out, ?_⟩
    exact ((Below.refl _ w).alloc (Nat.le_refl _) _).grown hgrow (by simp) (by intro k hk; simp [Value.ownBlock] at hk; omega)

theorem clone_c {A : Option Addr} {c : Nat} {xs : List Nat} (w : World) (h : Rd .u8 w A c xs) (hx : Ds 256 xs) (hl : xs.length ≤ 16777216) :
    Calls Try.prog 35 #[.slice A xs.length c] w (RetR (fun w' v => Byt w' v xs) w) := (clone_o w h hx hl).mono fun _ _ ⟨v, e, h, hb⟩ => ⟨v, e, h.byt, hb⟩
set_option maxHeartbeats 4000000 in
set_option maxRecDepth 100000 in
theorem len8_c (x : Nat) (hx : x < 256) (w : World) :
    Calls Try.prog 47 #[.int .u8 x] w fun e w' => e = .returned (.int .i64 (Lib.bitLen x : Nat)) ∧ w = w' := by
  have hs : (Lib.len8tab.size : Int) = 256 := by decide +kernel
  have hx0 : (x : Int) < 256 := by omega
  go_enter Try.func47, Try.ntmps47
  go_wp2
  all_goals (go_ret; refine ⟨congrArg Ending.returned (congrArg (Value.int IntKind.i64) ?_), rfl⟩)
  all_goals simp only [tab_eq]
  all_goals (have l := Lib.bitLen_le8 ⟨x, hx⟩; simp only at l; first | omega | (rw [IntWalk.wrap64_in _ (by omega)]) | (rw [IntWalk.i64_in _ (by omega)]))
set_option maxRecDepth 100000 in
set_option maxHeartbeats 1600000 in
/-- Trim: the bytes without zeros ahead, in new memory. -/
theorem trim_o {A : Option Addr} {c : Nat} {xs : List Nat} (w : World) (h : Rd .u8 w A c xs) (hx : Ds 256 xs) (hl : xs.length ≤ 16777216) :
    Calls Try.prog 9 #[.slice A xs.length c] w (RetR (fun w' v => NBO w.heap.size w' v (dv 256 xs.reverse)) w) := by
  have C1 := Lib.hid (strip_c w h hx hl)
  have DX := Lib.hid (sd_ds hx)
  have LX := Lib.hid (sd_len xs)
  have CX := Lib.hid (sd_can hx)
  have hl' := Lib.hid hl
  generalize xs.length = L at *
  clear h hx hl
  go_enter Try.func9, Try.ntmps9
  go_wp2_with fail
  (with_reducible refine C1.out.mono ?_)
  rintro e w1 ⟨A1, c1, rfl, hr1, hw1⟩
  rw [hw1]
  have C2 := Lib.hid (clone_o w hr1 DX.out (by have := LX.out; have := hl'.out; omega))
  clear hw1 C1 hr1
  go_wp2_with fail
  (with_reducible refine C2.out.mono ?_)
  rintro e w1 ⟨v, rfl, hv, hb⟩
  go_wp2_with fail
  go_ret
  exact ⟨v, rfl, ⟨_, hv, CX.out⟩, hb⟩
theorem trim_n {A : Option Addr} {c : Nat} {xs : List Nat} (w : World) (h : Rd .u8 w A c xs) (hx : Ds 256 xs) (hl : xs.length ≤ 16777216) :
    Calls Try.prog 9 #[.slice A xs.length c] w (RetR (fun w' v => ∃ zs, Byt w' v zs ∧ Can 256 zs.reverse (dv 256 xs.reverse)) w) := (trim_o w h hx hl).mono fun _ _ ⟨v, e, h, hb⟩ => ⟨v, e, h.byt, hb⟩
/-- The highest byte's bits and the bytes below: the number's bits. -/
theorem bits_head {x : Nat} {xs : List Nat} (hx : Ds 256 (x :: xs)) (h0 : x ≠ 0) : 8 * xs.length + Lib.bitLen x = blen (dv 256 (x :: xs).reverse) := by
  have hb := bitLen_is x (by have := hx.cons.1; unfold Lim; omega)
  have lt := dv_lt xs.reverse hx.cons.2.reverse
  rw [List.length_reverse] at lt
  have e : dv 256 (x :: xs).reverse = dv 256 xs.reverse + 256 ^ xs.length * x := by rw [List.reverse_cons, dv_append, List.length_reverse]; simp [dv]
  have e2 : (256 : Nat) ^ xs.length = 2 ^ (8 * xs.length) := by rw [show (256 : Nat) = 2 ^ 8 by decide, ← Nat.pow_mul]
  rw [e2] at lt e
  obtain ⟨b1, _, b3⟩ := hb
  obtain ⟨b3, b4⟩ := b3 h0
  refine blen_eq ?_ fun _ => ?_
  · rw [e, Nat.pow_add]
    have := Nat.mul_le_mul_left (2 ^ (8 * xs.length)) b1
    rw [Nat.mul_succ] at this
    omega
  · rw [e, show 8 * xs.length + Lib.bitLen x - 1 = 8 * xs.length + (Lib.bitLen x - 1) by omega, Nat.pow_add]
    have := Nat.mul_le_mul_left (2 ^ (8 * xs.length)) b4
    omega
set_option maxRecDepth 100000 in
set_option maxHeartbeats 1600000 in
/-- Bits: the least n for which the number is below 2^n. -/
theorem bits_n {A : Option Addr} {c : Nat} {xs : List Nat} (w : World) (h : Rd .u8 w A c xs) (hx : Ds 256 xs) (hl : xs.length ≤ 16777216) :
    Calls Try.prog 18 #[.slice A xs.length c] w fun e w' => e = .returned (.int .i64 (blen (dv 256 xs.reverse) : Nat)) ∧ w' = w := by
  have C1 := Lib.hid (strip_c w h hx hl)
  have DX := sd_ds hx
  have LX := sd_len xs
  have HD := sd_head xs
  have VX := sd_dv xs
  generalize sd xs = ys at *
  rw [← VX]
  generalize xs.length = L at *
  clear h hx VX
  rcases ys with _ | ⟨y, ys⟩
  · have e : blen (dv 256 ([] : List Nat).reverse) = 0 := rfl
    rw [e]
    clear DX LX HD e
    go_enter Try.func18, Try.ntmps18
    go_wp2_with fail
    (with_reducible refine C1.out.mono ?_)
    rintro e w1 ⟨A1, c1, rfl, hr1, hw1⟩
    rw [hw1]
    clear hw1 C1 hr1
    go_wp2_with fail
    go_ret
    exact ⟨rfl, rfl⟩
  · have hy : y ≠ 0 := HD (by simp)
    have hy2 : y < 256 := DX.cons.1
    have hb := bits_head DX hy
    have C2 := Lib.hid (len8_c y hy2)
    have hbl : Lib.bitLen y ≤ 8 := Lib.bitLen_le8 ⟨y, hy2⟩
    obtain ⟨r, er⟩ : ∃ r, r = blen (dv 256 (y :: ys).reverse) := ⟨_, rfl⟩
    obtain ⟨M, eM⟩ : ∃ M, M = ys.length := ⟨_, rfl⟩
    obtain ⟨b, eb⟩ : ∃ b, b = Lib.bitLen y := ⟨_, rfl⟩
    rw [← er]
    rw [← er, ← eM, ← eb] at hb
    rw [List.length_cons, ← eM] at LX
    rw [← eb] at C2 hbl
    have e1 : IntKind.i64.wrap (8 * (M : Int) + (b : Int)) = (r : Int) := by rw [IntWalk.i64_in _ (by omega)]; omega
    have hM := Lib.hid eM
    have hM16 : (M : Int) ≤ 16777216 := by omega
    have hz0 : ((M : Int) + 1 == 0) = false := by simp; omega
    clear DX HD er eM eb hb hy
    go_enter Try.func18, Try.ntmps18
    go_wp2_with fail
    (with_reducible refine C1.out.mono ?_)
    rintro e w1 ⟨A1, c1, rfl, hr1, hw1⟩
    rw [hw1]
    rw [List.length_cons, ← hM.out]
    obtain ⟨bb, o, rfl, _, hc⟩ := hr1.at_ (by simp)
    have hc0 := hc 0 (by simp)
    have hc0 : w.cell? ⟨bb, o, none⟩ = some (.int .u8 (y : Nat)) := hc0
    clear hw1 C1 hr1 hc
    go_wp2_with fail
    (with_reducible refine (C2.out _).mono ?_)
    rintro e w1 ⟨rfl, rfl⟩
    go_wp2_with fail
    go_ret
    exact ⟨rfl, rfl⟩

theorem und8 : Try.prog.underlying 22 = some (.slice (Try.prog.elem 22)) := by kernel_rfl
theorem elem8 (w : World) : (sizeOf (Try.prog.elem 22)).run Try.prog w = .ok 1 w := by kernel_rfl
theorem cut8 (g lo n c : Nat) (h : lo ≤ n) (w : World) : (Instr.sliceAt 22 (.slice (some ⟨g, 0, none⟩) n c) (some (.int .i64 (lo : Nat))) none none).run Try.prog w = .ok (.slice (some (if c = lo then ⟨g, 0, none⟩ else ⟨g, lo, none⟩)) (n - lo) (c - lo)) w := by
  rw [run_sliceAt_slice (h := und8), run_slice_l (ht := und8) (kl := .i64) (l := lo) (h0 := by omega) (h1 := by omega), elem8]
  simp only [Result.andThen_ok, sliced, Int.toNat_natCast, Nat.mul_one]
  congr 2
  by_cases h : c = lo
  · rw [if_pos h, if_pos h]
  · rw [if_neg h, if_neg h]
    simp only [Option.map_some]
    unfold Addr.add
    by_cases h0 : lo = 0 <;> simp [h0]
set_option maxRecDepth 100000 in
set_option maxHeartbeats 1600000 in
/-- Fill, where it does not fit. -/
theorem fill_no {A : Option Addr} {c : Nat} {xs : List Nat} (w : World) (h : Rd .u8 w A c xs) (hx : Ds 256 xs) (hl : xs.length ≤ 16777216) (wide : Int) (hf : wide < (sd xs).length ∨ 65536 < wide) :
    Calls Try.prog 16 #[.slice A xs.length c, .int .i64 wide] w fun e w' => e = .returned (.tuple #[.slice none 0 0, .bool false]) ∧ w' = w := by
  have C1 := Lib.hid (strip_c w h hx hl)
  have LX := sd_len xs
  obtain ⟨K, hK⟩ : ∃ K, K = (sd xs).length := ⟨_, rfl⟩
  rw [← hK] at hf LX
  have HK := Lib.hid hK
  have hK16 : (K : Int) ≤ 16777216 := by omega
  generalize xs.length = L at *
  clear h hx hK
  by_cases h1 : wide < (K : Int)
  · clear hf
    go_enter Try.func16, Try.ntmps16
    go_wp2_with fail
    (with_reducible refine C1.out.mono ?_)
    rintro e w1 ⟨A1, c1, rfl, hr1, hw1⟩
    rw [hw1, ← HK.out]
    clear hw1 C1 hr1
    go_wp2_with fail
    go_ret2
    exact ⟨rfl, rfl⟩
  · have h2 : 65536 < wide := by omega
    clear hf
    go_enter Try.func16, Try.ntmps16
    go_wp2_with fail
    (with_reducible refine C1.out.mono ?_)
    rintro e w1 ⟨A1, c1, rfl, hr1, hw1⟩
    rw [hw1, ← HK.out]
    clear hw1 C1 hr1
    go_wp2_with fail
    go_ret2
    exact ⟨rfl, rfl⟩
set_option maxRecDepth 100000 in
set_option maxHeartbeats 1600000 in
/-- Fill: so many bytes. -/
theorem fill_o {A : Option Addr} {c : Nat} {xs : List Nat} (w : World) (h : Rd .u8 w A c xs) (hx : Ds 256 xs) (hl : xs.length ≤ 16777216) (wide : Nat) (hf : (sd xs).length ≤ wide) (hw : wide ≤ 65536) :
    Calls Try.prog 16 #[.slice A xs.length c, .int .i64 wide] w (RetOk (fun w' v => ∃ l, OwnB w.heap.size w' v l ∧ l.length = wide ∧ dv 256 l.reverse = dv 256 xs.reverse) w) := by
  have C1 := Lib.hid (strip_c w h hx hl)
  obtain ⟨K, hK⟩ : ∃ K, K = (sd xs).length := ⟨_, rfl⟩
  rw [← hK] at hf
  have HK := Lib.hid hK
  have VX := Lib.hid (sd_dv xs)
  have DX := Lib.hid (sd_ds hx)
  have hf1 : ¬ ((wide : Int) < (K : Int)) := by omega
  have hf2 : ¬ ((65536 : Int) < (wide : Int)) := by omega
  have hKw : (K : Int) ≤ (wide : Int) := by omega
  have hmk := mk8 (wide : Int) wide rfl (by omega)
  generalize xs.length = L at *
  clear h hx hK
  go_enter Try.func16, Try.ntmps16
  go_wp2_with fail
  (with_reducible refine C1.out.mono ?_)
  rintro e w1 ⟨A1, c1, rfl, hr1, hw1⟩
  rw [hw1, ← HK.out]
  have R1 := Lib.hid hr1
  clear hw1 C1 hr1
  have hw6 : (wide : Int) ≤ 65536 := by omega
  go_upto_region 5 with (fail)
  have e5 : IntKind.i64.wrap ((wide : Int) - (K : Int)) = ((wide - K : Nat) : Int) := by rw [IntWalk.i64_in _ (by omega)]; omega
  have hsl := cut8 w.heap.size (wide - K) wide wide (by omega)
  refine wp_region_lit ?_
  iterate 7 (refine wpList_plain rfl fun K hK => ?_; go_simp; refine hK _ _ ?_; clear hK K)
  have hmd := Lib.hid (Row.made (k := .u8) w 5 wide)
  have gW := Lib.hid ((Below.refl w.heap.size w).alloc (Nat.le_refl _) (.cells (madeCells #[Value.int .u8 0] wide) 5))
  have R2 := Lib.hid (R1.out.alloc (.cells (madeCells #[Value.int .u8 0] wide) 5))
  obtain ⟨ys, hys⟩ : ∃ ys, ys = sd xs := ⟨_, rfl⟩
  rw [← hys] at R2 HK DX VX
  rw [← hys] at *
  refine wpList_copy_splice rfl (.tmp 24) (.tmp 25) 22 22 rfl 5 Try.underlying22 (by kernel_rfl) (some (if wide = wide - K then ⟨w.heap.size, 0, none⟩ else ⟨w.heap.size, wide - K, none⟩)) A1 (wide - (wide - K)) (wide - (wide - K)) K c1 rfl rfl w.heap.size (wide - K) ((List.replicate wide 0).map fun n : Nat => Value.int .u8 (n : Int)) 5 hmd.out (ys.map fun n : Nat => Value.int .u8 (n : Int)) (by rw [List.length_map, ← HK.out]; show K = min _ _; omega) ?_ (by rw [List.length_map, List.length_map, ← HK.out, List.length_replicate]; omega) ?_ w.heap.size w gW.out (Nat.le_refl _) ?_
  · intro hc
    rw [List.length_map] at hc
    obtain ⟨b, o, rfl, _, hcell⟩ := R2.out.at_ hc
    rw [← HK.out] at hc
    refine ⟨by rw [if_neg (by omega)], ⟨b, o, none⟩, rfl, fun j v hv => ?_⟩
    rw [List.getElem?_map] at hv
    obtain ⟨u, hu, rfl⟩ := Option.map_eq_some_iff.1 hv
    have hj := (List.getElem?_eq_some_iff.1 hu).1
    have e : (⟨b, o, none⟩ : Addr).add j = ⟨b, o + j, none⟩ := by unfold Addr.add; split <;> simp_all
    rw [e, hcell j hj, List.getD_eq_getElem?_getD, hu]
    rfl
  · intro v hv
    rw [List.mem_map] at hv
    obtain ⟨n, _, rfl⟩ := hv
    rfl
  · intro w' hw' hb'
    have hr : Row .u8 w' w.heap.size 5 (List.replicate (wide - K) 0 ++ ys) := by
      have h := hw'.out
      have e : splice ((List.replicate wide 0).map fun n : Nat => Value.int .u8 (n : Int)) (wide - K) (ys.map fun n : Nat => Value.int .u8 (n : Int)) = (List.replicate (wide - K) 0 ++ ys).map fun n : Nat => Value.int .u8 (n : Int) := by
        unfold splice
        rw [List.drop_eq_nil_of_le (by simp; have := HK.out; omega), List.append_nil, List.map_append, ← List.map_take, List.take_replicate, Nat.min_eq_left (by omega)]
      rw [e] at h
      exact h
    have hlen : (List.replicate (wide - K) 0 ++ ys).length = wide := by rw [List.length_append, List.length_replicate, ← HK.out]; omega
    have hby : OwnB w.heap.size w' (.slice (some ⟨w.heap.size, 0, none⟩) wide wide) (List.replicate (wide - K) 0 ++ ys) := by
      have h := OwnB.of (Acc.of_row hr (Nat.le_refl _) (by rw [hlen]; omega)) ((Ds.zeros (by omega) _).append DX.out)
      rwa [hlen] at h
    have HBY := Lib.hid hby
    have HB := Lib.hid hb'
    have HLn := Lib.hid hlen
    have hval : dv 256 (List.replicate (wide - K) 0 ++ ys).reverse = dv 256 xs.reverse := by
      rw [List.reverse_append, dv_append, List.reverse_replicate, dv_zeros, Nat.mul_zero, Nat.add_zero]; exact VX.out
    have HV := Lib.hid hval
    clear hw' hr hby hb' hlen hval hmd gW R1 R2 hsl e5 hmk hf1 hf2 hKw hf hw6 hys
    refine wpList_nil ?_
    generalize goInt _ = gi
    generalize (if wide = wide - K then (⟨w.heap.size, 0, none⟩ : Addr) else ⟨w.heap.size, wide - K, none⟩) = ad
    generalize wide - (wide - K) = q1
    generalize wide - K = q2 at *
    go_wp2_with fail
    go_ret2
    exact ⟨_, rfl, ⟨_, HBY.out, HLn.out, HV.out⟩, HB.out⟩
theorem fill_n {A : Option Addr} {c : Nat} {xs : List Nat} (w : World) (h : Rd .u8 w A c xs) (hx : Ds 256 xs) (hl : xs.length ≤ 16777216) (wide : Nat) (hf : (sd xs).length ≤ wide) (hw : wide ≤ 65536) :
    Calls Try.prog 16 #[.slice A xs.length c, .int .i64 wide] w (RetOk (fun w' v => ∃ l, Byt w' v l ∧ l.length = wide ∧ dv 256 l.reverse = dv 256 xs.reverse) w) := (fill_o w h hx hl wide hf hw).mono fun _ _ ⟨v, e, ⟨l, h1, h2⟩, hb⟩ => ⟨v, e, ⟨l, h1.byt, h2⟩, hb⟩
end Go.Proofs.Ytakojlgoelbjmaa
