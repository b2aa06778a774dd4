/- Package code: Name, Named, Pops. -/
import Derived.Test.YtopeahjdglkheaaDoorCcLook
import Derived.BigQuiet
namespace Go.Proofs.YtopeahjdglkheaaDoor
open Go.RowKit

theorem itoa_dec : ∀ (k n : Nat), n < 10 ^ (k + 1) → Lib.decDigits n = (decF k n).map UInt8.ofNat
  | 0, n, h => by
    rw [Lib.decDigits, dif_pos (by omega), decF, Nat.mod_eq_of_lt (by omega)]; rfl
  | k + 1, n, h => by
    rw [Lib.decDigits, decF]
    by_cases h0 : n < 10
    · rw [dif_pos h0, if_pos h0]; rfl
    · rw [dif_neg h0, if_neg h0, itoa_dec k (n / 10) (by rw [Nat.pow_succ] at h; omega), List.map_append]; rfl
theorem itoa_sOf {n : Nat} (h : n < 1000000000) : (⟨(Lib.decDigits n).toArray⟩ : ByteArray) = sOf (decL n) := by
  rw [itoa_dec 9 n (by omega)]
  unfold decL
  simp [sOf, strOfNums]

theorem nameZ_lk {f : Int} {n : Nat} (h : opZ f n = true) (h68 : ¬ (n = 68 ∧ 13 ≤ f)) : nameZ f n = if (lkN n).2 = -1 then (lkN n).1.1 else (lkN n).1.1 ++ sOf (decL (lkN n).2.toNat) := by
  obtain ⟨h0, _, h2⟩ := opZ_there h
  unfold nameZ
  rw [if_pos h, Int.toNat_natCast]
  have e : rowN (decide (13 ≤ f)) n = rowN false n := by
    by_cases h13 : 13 ≤ f
    · have hn : n ≠ 68 := fun hh => h68 ⟨hh, h13⟩
      unfold rowN
      simp only [hn, false_and, if_false]
    · rw [decide_eq_false h13]
  rw [e, lk_name n (by omega) h0]

theorem lk_small : ∀ n : Nat, n < 256 → (lkN n).1.1.size < 100 := by decide +kernel

set_option maxRecDepth 100000 in
set_option maxHeartbeats 6400000 in
theorem pname_c (f op : Int) (w : World) : Calls Tryd.prog 13 #[.int .i64 f, .int .i64 op] w (RetV (.string (nameZ f op)) w) := by
  cases ho : opZ f op with
  | false =>
    rw [nameZ_none ho]
    have KT : Hid (∀ w, Calls Tryd.prog 28 #[.int .i64 f, .int .i64 op] w fun e w' => e = .returned (.bool false) ∧ w' = w) := fun w => by have h := there_c f op w; rw [ho] at h; exact h
    clear ho
    go_enter Tryd.func13, Tryd.ntmps13
    go_wp2_with fail
    (with_reducible refine (KT.out _).mono ?_)
    rintro e w1 ⟨rfl, rfl⟩
    clear KT
    go_wp2_with fail
    go_ret
    exact ⟨rfl, Below.refl _ _⟩
  | true =>
    obtain ⟨h0, h1, h2⟩ := opZ_there ho
    obtain ⟨n, rfl⟩ : ∃ n : Nat, op = n := ⟨op.toNat, by omega⟩
    have KT : Hid (∀ w, Calls Tryd.prog 28 #[.int .i64 f, .int .i64 (n : Nat)] w fun e w' => e = .returned (.bool true) ∧ w' = w) := fun w => by have h := there_c f n w; rw [ho] at h; exact h
    by_cases h68 : n = 68 ∧ 13 ≤ f
    · obtain ⟨rfl, h13⟩ := h68
      have e : nameZ f (68 : Nat) = ⟨#[80, 82, 69, 86, 82, 65, 78, 68, 65, 79]⟩ := by
        unfold nameZ
        rw [if_pos ho, decide_eq_true h13]; rfl
      rw [e]
      have KT : Hid (∀ w, Calls Tryd.prog 28 #[.int .i64 f, .int .i64 68] w fun e w' => e = .returned (.bool true) ∧ w' = w) := KT
      show Calls Tryd.prog 13 #[.int .i64 f, .int .i64 68] w _
      clear ho h0 h1 h2 e
      go_enter Tryd.func13, Tryd.ntmps13
      go_wp2_with fail
      (with_reducible refine (KT.out _).mono ?_)
      rintro e w1 ⟨rfl, rfl⟩
      clear KT
      go_wp2_with fail
      go_ret
      exact ⟨rfl, Below.refl _ _⟩
    · have hz := nameZ_lk ho h68
      have KL := fun w => plook_c n (by omega) h0 w
      unfold formV at KL
      have hsz := lk_small n (by omega)
      have hnum := lk_num n (by omega) h0
      obtain ⟨x, hx⟩ : ∃ x, x = nameZ f n := ⟨_, rfl⟩
      rw [← hx] at hz ⊢
      obtain ⟨⟨⟨s, p, q⟩, k⟩, hlk⟩ : ∃ r, r = lkN n := ⟨_, rfl⟩
      rw [← hlk] at hz KL hsz hnum
      dsimp only at hz KL hsz hnum
      have KL := Lib.hid KL
      have HX : ∀ n : Nat, Hid (n = n) := fun _ => rfl
      have ht : (n = 68 ∧ ¬ (13 : Int) ≤ f) ∨ ¬ (n : Int) = 68 := by omega
      clear hx hlk ho h0 h1 h2 h68 HX
      by_cases hk : k = -1
      · subst hk
        rw [if_pos rfl] at hz
        subst hz
        clear hsz hnum
        rcases ht with ⟨rfl, h13⟩ | h68
        · have KT : Hid (∀ w, Calls Tryd.prog 28 #[.int .i64 f, .int .i64 68] w fun e w' => e = .returned (.bool true) ∧ w' = w) := KT
          have KL : Hid (∀ w, Calls Tryd.prog 29 #[.int .i64 68] w (RetV (.tuple #[.agg #[.string x, .int .i64 (p : Nat), .int .i64 (q : Nat)], .int .i64 (-1)]) w)) := KL
          show Calls Tryd.prog 13 #[.int .i64 f, .int .i64 68] w _
          go_enter Tryd.func13, Tryd.ntmps13
          go_wp2_with fail
          (with_reducible refine (KT.out _).mono ?_)
          rintro e w1 ⟨rfl, rfl⟩
          clear KT
          go_wp2_with fail
          (with_reducible refine (KL.out _).mono ?_)
          rintro e w2 ⟨rfl, hb⟩
          have HB := Lib.hid hb
          clear KL hb
          go_wp2_with fail
          go_ret
          exact ⟨rfl, HB.out.alloc HB.out.size _⟩
        · go_enter Tryd.func13, Tryd.ntmps13
          go_wp2_with fail
          (with_reducible refine (KT.out _).mono ?_)
          rintro e w1 ⟨rfl, rfl⟩
          clear KT
          go_wp2_with fail
          (with_reducible refine (KL.out _).mono ?_)
          rintro e w2 ⟨rfl, hb⟩
          have HB := Lib.hid hb
          clear KL hb
          go_wp2_with fail
          go_ret
          exact ⟨rfl, HB.out.alloc HB.out.size _⟩
      · rw [if_neg hk] at hz
        obtain ⟨e1, e2⟩ := hnum hk
        obtain ⟨m, hm⟩ : ∃ m, m = k.toNat := ⟨_, rfl⟩
        rw [← hm] at e1 e2 hz
        subst e1
        have kI : ∀ w, Calls Tryd.prog 31 #[.int .i64 (m : Nat)] w (fun e w' => e = .returned (.string (sOf (decL m))) ∧ w' = w) := fun w => by
          have h := hstrconv_Itoa_small m e2 w
          rw [itoa_sOf (by omega)] at h
          exact h
        have hl : ¬ 9223372036854775807 < s.size + (sOf (decL m)).size := by
          have := decF_len 9 m
          rw [sOf_size]
          unfold decL
          omega
        obtain ⟨d, hd⟩ : ∃ d, d = sOf (decL m) := ⟨_, rfl⟩
        rw [← hd] at kI hl hz
        have hk2 : ¬ (m : Int) = -1 := hk
        have KI := Lib.hid kI
        have HL := Lib.hid hl
        subst hz
        clear hm hd hnum hsz e2 kI hl hk
        rcases ht with ⟨rfl, h13⟩ | h68
        · have KT : Hid (∀ w, Calls Tryd.prog 28 #[.int .i64 f, .int .i64 68] w fun e w' => e = .returned (.bool true) ∧ w' = w) := KT
          have KL : Hid (∀ w, Calls Tryd.prog 29 #[.int .i64 68] w (RetV (.tuple #[.agg #[.string s, .int .i64 (p : Nat), .int .i64 (q : Nat)], .int .i64 (m : Nat)]) w)) := KL
          show Calls Tryd.prog 13 #[.int .i64 f, .int .i64 68] w _
          go_enter Tryd.func13, Tryd.ntmps13
          go_wp2_with fail
          (with_reducible refine (KT.out _).mono ?_)
          rintro e w1 ⟨rfl, rfl⟩
          clear KT
          go_wp2_with fail
          (with_reducible refine (KL.out _).mono ?_)
          rintro e w2 ⟨rfl, hb⟩
          have HB := Lib.hid (hb.alloc hb.size (.cells #[.string s, .int .i64 (p : Nat), .int .i64 (q : Nat)] 58))
          have hg := heap_alloc_new w2 (.cells #[.string s, .int .i64 (p : Nat), .int .i64 (q : Nat)] 58)
          obtain ⟨c0, c1, c2, f0, f1, f2⟩ := three_cells hg
          clear KL hb hg
          go_wp2_with fail
          have hl := HL.out
          go_quiet (exact Calls.quiet_of_same (KI.out _))
          go_simp
          go_wp2_with fail
          go_ret
          exact ⟨rfl, HB.out.trans (below_cdN _ _ _)⟩
        · go_enter Tryd.func13, Tryd.ntmps13
          go_wp2_with fail
          (with_reducible refine (KT.out _).mono ?_)
          rintro e w1 ⟨rfl, rfl⟩
          clear KT
          go_wp2_with fail
          (with_reducible refine (KL.out _).mono ?_)
          rintro e w2 ⟨rfl, hb⟩
          have HB := Lib.hid (hb.alloc hb.size (.cells #[.string s, .int .i64 (p : Nat), .int .i64 (q : Nat)] 58))
          have hg := heap_alloc_new w2 (.cells #[.string s, .int .i64 (p : Nat), .int .i64 (q : Nat)] 58)
          obtain ⟨c0, c1, c2, f0, f1, f2⟩ := three_cells hg
          clear KL hb hg
          go_wp2_with fail
          have hl := HL.out
          go_quiet (exact Calls.quiet_of_same (KI.out _))
          go_simp
          go_wp2_with fail
          go_ret
          exact ⟨rfl, HB.out.trans (below_cdN _ _ _)⟩

/-- The first operation from i on that is there and has that name, of k to come. -/
def namedG (f : Int) (s : ByteArray) : Nat → Nat → Option Nat
  | 0, _ => none
  | k + 1, i => if opZ f i = true ∧ nameZ f i = s then some i else namedG f s k (i + 1)
theorem namedG_none {f : Int} : ∀ k i, namedG f ⟨#[]⟩ k i = none
  | 0, _ => rfl
  | k + 1, i => by rw [namedG, if_neg (fun h => nameZ_some h.1 h.2), namedG_none k]
theorem namedG_some {f : Int} {s : ByteArray} (hs : s ≠ ⟨#[]⟩) : ∀ k i, namedG f s k i = namedF f s k i
  | 0, _ => rfl
  | k + 1, i => by
    rw [namedG, namedF, namedG_some hs k]
    by_cases h : nameZ f i = s
    · have ho : opZ f i = true := by
        cases h0 : opZ f i
        · exact absurd (h.symm.trans (nameZ_none h0)) hs
        · rfl
      rw [if_pos ⟨ho, h⟩, if_pos h]
    · rw [if_neg (fun hh => h hh.2), if_neg h]
theorem cnamedZ_G (f : Int) (s : ByteArray) : cnamedZ f s = namedG f s 256 0 := by
  unfold cnamedZ
  split
  · rename_i h; subst h; exact (namedG_none 256 0).symm
  · rename_i h; exact (namedG_some h 256 0).symm

set_option maxRecDepth 100000 in
set_option maxHeartbeats 6400000 in
theorem pnamed_c (f : Int) (s : ByteArray) (w : World) : Calls Tryd.prog 10 #[.int .i64 f, .string s] w (RetV (cnamedV (cnamedZ f s)) w) := by
  obtain ⟨q, hq⟩ : ∃ q, q = cnamedZ f s := ⟨_, rfl⟩
  rw [← hq]
  have HQ : Hid (q = namedG f s 256 0) := by rw [cnamedZ_G] at hq; exact hq
  clear hq
  go_enter Tryd.func10, Tryd.ntmps10
  go_wp2_with fail
  go_loopw [6, 7] (fun _ a wr => ∃ (m : Nat), a = .int .i64 (m : Int) ∧ Hid (m ≤ 256) ∧ Hid (q = namedG f s (256 - m) m) ∧ Hid (Below w.heap.size w wr)) (fun _ a _ => 256 - (intOf a).toNat)
  case atStart => exact ⟨0, rfl, Lib.hid (Nat.zero_le _), HQ, Lib.hid (Below.refl _ _)⟩
  case round =>
    clear HQ
    obtain ⟨m, rfl, hm, hq, hb⟩ := hrel
    by_cases h0 : m < 256
    · have hq2 := hq.out
      rw [show 256 - m = 256 - (m + 1) + 1 by omega, namedG] at hq2
      have KT := there_c f m
      have KN := Lib.hid (fun u => pname_c f m u)
      obtain ⟨x, hx⟩ : ∃ x, x = nameZ f m := ⟨_, rfl⟩
      obtain ⟨o, ho⟩ : ∃ o, o = opZ f m := ⟨_, rfl⟩
      rw [← ho] at KT hq2
      rw [← hx] at KN hq2
      have HQ2 := Lib.hid hq2
      clear hq hq2 hx ho
      cases o with
      | false =>
        have KT := Lib.hid KT
        have hq := HQ2.out
        rw [if_neg (fun h => by cases h.1)] at hq
        have HQ := Lib.hid hq
        clear hq HQ2 KN
        go_wp2_with fail
        (with_reducible refine (KT.out _).mono ?_)
        rintro e w2 ⟨rfl, rfl⟩
        clear KT
        go_wp2_with fail
        go_roundw
        case rel => exact ⟨m + 1, by go_num, Lib.hid (by omega), HQ, hb⟩
        case measure => simp [intOf]; omega
      | true =>
        have KT := Lib.hid KT
        by_cases he : x = s
        · have hq := HQ2.out
          rw [if_pos ⟨rfl, he⟩] at hq
          have HQ := Lib.hid hq
          have hee := cstr_eq he
          clear hq HQ2 he
          go_wp2_with fail
          (with_reducible refine (KT.out _).mono ?_)
          rintro e w2 ⟨rfl, rfl⟩
          clear KT
          go_wp2_with fail
          (with_reducible refine (KN.out _).mono ?_)
          rintro e w3 ⟨rfl, hb2⟩
          have HB2 := Lib.hid (hb.out.trans (hb2.mono hb.out.size))
          clear KN hb2
          go_wp2_with fail
          exact bodyPost_ret (v := .tuple #[.int .i64 (m : Nat), .bool true]) (by simp [results, Tryd.results10, go_sem]) rfl ⟨by rw [HQ.out]; rfl, HB2.out⟩
        · have hq := HQ2.out
          rw [if_neg (fun h => he h.2)] at hq
          have HQ := Lib.hid hq
          have hne := cstr_ne he
          clear hq HQ2 he
          go_wp2_with fail
          (with_reducible refine (KT.out _).mono ?_)
          rintro e w2 ⟨rfl, rfl⟩
          clear KT
          go_wp2_with fail
          (with_reducible refine (KN.out _).mono ?_)
          rintro e w3 ⟨rfl, hb2⟩
          have HB2 := Lib.hid (hb.out.trans (hb2.mono hb.out.size))
          clear KN hb2
          go_wp2_with fail
          go_roundw
          case rel => exact ⟨m + 1, by go_num, Lib.hid (by omega), HQ, HB2⟩
          case measure => simp [intOf]; omega
    · have hq2 := hq.out
      have hm2 := hm.out
      obtain rfl : m = 256 := by omega
      have HQ : Hid (q = none) := hq2
      clear hq hq2
      go_wp2_with fail
      exact bodyPost_ret (v := .tuple #[.int .i64 0, .bool false]) (by simp [results, Tryd.results10, go_sem]) rfl ⟨by rw [HQ.out]; rfl, hb.out⟩

set_option maxRecDepth 100000 in
set_option maxHeartbeats 6400000 in
theorem ppops_c (f op : Int) (w : World) : Calls Tryd.prog 9 #[.int .i64 f, .int .i64 op] w (RetV (.tuple #[.int .i64 (popsZ f op : Nat), .int .i64 (laysZ f op : Nat), .bool (opZ f op)]) w) := by
  cases ho : opZ f op with
  | false =>
    have e1 : popsZ f op = 0 := by unfold popsZ; rw [ho]; rfl
    have e2 : laysZ f op = 0 := by unfold laysZ; rw [ho]; rfl
    rw [e1, e2]
    have KT : Hid (∀ w, Calls Tryd.prog 28 #[.int .i64 f, .int .i64 op] w fun e w' => e = .returned (.bool false) ∧ w' = w) := fun w => by have h := there_c f op w; rw [ho] at h; exact h
    clear ho e1 e2
    go_enter Tryd.func9, Tryd.ntmps9
    go_wp2_with fail
    (with_reducible refine (KT.out _).mono ?_)
    rintro e w1 ⟨rfl, rfl⟩
    clear KT
    go_wp2_with fail
    exact bodyPost_ret (v := .tuple #[.int .i64 0, .int .i64 0, .bool false]) (by simp [results, Tryd.results9, go_sem]) rfl ⟨rfl, Below.refl _ _⟩
  | true =>
    obtain ⟨h0, h1, h2⟩ := opZ_there ho
    obtain ⟨n, rfl⟩ : ∃ n : Nat, op = n := ⟨op.toNat, by omega⟩
    have e := lk_name n (by omega) h0
    have e1 : popsZ f n = (lkN n).1.2.1 := by unfold popsZ; rw [if_pos ho, Int.toNat_natCast, e]
    have e2 : laysZ f n = (lkN n).1.2.2 := by unfold laysZ; rw [if_pos ho, Int.toNat_natCast, e]
    rw [e1, e2]
    have KT : Hid (∀ w, Calls Tryd.prog 28 #[.int .i64 f, .int .i64 (n : Nat)] w fun e w' => e = .returned (.bool true) ∧ w' = w) := fun w => by have h := there_c f n w; rw [ho] at h; exact h
    have KL := fun w => plook_c n (by omega) h0 w
    unfold formV at KL
    obtain ⟨⟨⟨s, p, q⟩, k⟩, hlk⟩ : ∃ r, r = lkN n := ⟨_, rfl⟩
    rw [← hlk] at KL ⊢
    dsimp only at KL ⊢
    have KL := Lib.hid KL
    clear hlk ho h0 h1 h2 e e1 e2
    go_enter Tryd.func9, Tryd.ntmps9
    go_wp2_with fail
    (with_reducible refine (KT.out _).mono ?_)
    rintro e w1 ⟨rfl, rfl⟩
    clear KT
    go_wp2_with fail
    (with_reducible refine (KL.out _).mono ?_)
    rintro e w2 ⟨rfl, hb⟩
    have HB := Lib.hid (hb.alloc hb.size (.cells #[.string s, .int .i64 (p : Nat), .int .i64 (q : Nat)] 58))
    have hg := heap_alloc_new w2 (.cells #[.string s, .int .i64 (p : Nat), .int .i64 (q : Nat)] 58)
    obtain ⟨c0, c1, c2, f0, f1, f2⟩ := three_cells hg
    clear KL hb hg
    go_wp2_with fail
    go_quiet (fail)
    go_simp
    go_wp2_with fail
    exact bodyPost_ret (v := .tuple #[.int .i64 (p : Nat), .int .i64 (q : Nat), .bool true]) (by simp [results, Tryd.results9, go_sem]) rfl ⟨rfl, HB.out.trans (below_cdN _ _ _)⟩
end Go.Proofs.YtopeahjdglkheaaDoor
