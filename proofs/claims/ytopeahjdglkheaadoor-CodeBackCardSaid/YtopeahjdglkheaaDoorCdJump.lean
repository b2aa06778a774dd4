/- Package quarryref18: Jump: may be jumped there? -/
import Derived.Test.YtopeahjdglkheaaDoorCdJumps
import Derived.Test.YtopeahjdglkheaaDoorSmall
namespace Go.Proofs.YtopeahjdglkheaaDoor
open Go.RowKit

/-- A row of places. -/
def IntsAt (w : World) (A : Option Addr) (l : List Nat) : Prop := ∀ i x, l[i]? = some x → ∃ g, A = some ⟨g, 0, none⟩ ∧ g < w.heap.size ∧ w.cell? ⟨g, 0 + i, none⟩ = some (.int .i64 (x : Nat))
theorem IntsAt.below {w w' : World} {A : Option Addr} {l : List Nat} (h : IntsAt w A l) (hb : Below w.heap.size w w') : IntsAt w' A l := fun i x hi => by
  obtain ⟨g, e, hg, hc⟩ := h i x hi
  exact ⟨g, e, Nat.lt_of_lt_of_le hg hb.size, (hb.cell (p := ⟨g, 0 + i, none⟩) hg).trans hc⟩
theorem ownI_at {w : World} {base : Nat} {v : Value} {l : List Nat} (h : w.ownsRow base 3 1 v l.length (intsC l)) : ∃ A c, v = .slice A l.length c ∧ l.length ≤ c ∧ IntsAt w A l := by
  have h0 := h
  rcases h.2 with ⟨e, h1⟩ | ⟨g, cap, cur, rfl, hg, hh, hcap, _⟩
  · refine ⟨none, 0, by rw [e, h1], by omega, fun i x hi => ?_⟩
    have := (List.getElem?_eq_some_iff.1 hi).1
    omega
  · refine ⟨some ⟨g, 0, none⟩, cap, rfl, hcap, fun i x hi => ⟨g, rfl, (Array.getElem?_eq_some_iff.1 hh).1, ?_⟩⟩
    have h2 := World.ownsRow.cells h0 (g := g) rfl i (.int .i64 (x : Nat)) (by simp [intsC, hi])
    rw [Addr.add_mid] at h2
    exact h2
theorem jmp_lt : ∀ (s i : Nat) (l : List Nat) (x : Nat), x ∈ jmp s i l → x < i + l.length
  | _, _, [], x, h => by simp [jmp] at h
  | s + 1, i, _ :: r, x, h => by
    rw [jmp] at h
    have := jmp_lt s (i + 1) r x h
    simp
    omega
  | 0, i, b :: r, x, h => by
    rw [jmp] at h
    simp only [List.length_cons]
    split at h
    · rcases List.mem_cons.1 h with h | h
      · omega
      · have := jmp_lt _ _ r x h; omega
    · have := jmp_lt _ _ r x h; omega
/-- May be jumped there? -/
def jumpB (a : Nat) (bs : List Nat) : Bool := decide (a ∈ jmp 0 0 bs)

set_option maxRecDepth 100000 in
set_option maxHeartbeats 6400000 in
theorem rjump_t {A : Option Addr} {c a : Nat} {bs : List Nat} (w : World) (h : Rd .u8 w A c bs) (hd : Ds 256 bs) (hl : bs.length ≤ 1099511627776) (ha : a < 18446744073709551616) :
    Calls Tryd.prog 19 #[.slice A bs.length c, W a] w (RetV (.bool (jumpB a bs)) w) := by
  obtain ⟨n, hn⟩ : ∃ n, n = bs.length := ⟨_, rfl⟩
  obtain ⟨q, hq⟩ : ∃ q, q = jumpB a bs := ⟨_, rfl⟩
  rw [← hn, ← hq]
  have gW := (Below.refl w.heap.size w).alloc (Nat.le_refl _) (.cells #[.int .u64 (lim 0 a : Nat), .int .u64 (lim 1 a : Nat), .int .u64 (lim 2 a : Nat), .int .u64 (lim 3 a : Nat)] 34)
  have gA := Arr.new4 w 34 (lim 0 a) (lim 1 a) (lim 2 a) (lim 3 a)
  have kS : ∀ w, Calls Tryd.prog 36 #[.agg #[.int .u64 (lim 0 a : Nat), .int .u64 (lim 1 a : Nat), .int .u64 (lim 2 a : Nat), .int .u64 (lim 3 a : Nat)]] w (RetV (.tuple #[.int .u64 (a : Nat), .bool true]) w) := fun w => small1_t ha w
  have kJ : ∀ u, Below w.heap.size w u → Calls Tryd.prog 17 #[.slice A n c] u (JumpsR bs u) := fun u hu => by rw [hn]; exact rjumps_c u (h.below hu) hd hl
  have KS := Lib.hid kS
  have KJ := Lib.hid kJ
  have HL := Lib.hid hl
  have HQ := Lib.hid hq
  clear kS kJ hq hn h hd hl ha
  go_enter Tryd.func19, Tryd.ntmps19
  go_upto_region 1 with (fail)
  generalize w.alloc (.cells #[.int .u64 (lim 0 a : Nat), .int .u64 (lim 1 a : Nat), .int .u64 (lim 2 a : Nat), .int .u64 (lim 3 a : Nat)] 34) = X at *
  obtain ⟨x0, x1, x2, x3⟩ := gA.cells4
  go_wp2_with fail
  (with_reducible refine (KS.out _).mono ?_)
  rintro e w1 ⟨rfl, hb1⟩
  have gW := Lib.hid (gW.trans (hb1.mono gW.size))
  clear x0 x1 x2 x3 gA hb1 KS
  go_wp2_with fail
  (with_reducible refine (KJ.out _ gW.out).mono ?_)
  rintro e w2 ⟨v, rfl, hown, hb2⟩
  obtain ⟨A2, c2, rfl, hlc, hat⟩ := ownI_at hown
  obtain ⟨l, hlj⟩ : ∃ l, l = jmp 0 0 bs := ⟨_, rfl⟩
  have hq : q = decide (a ∈ l.drop 0) := by rw [HQ.out, hlj]; rfl
  have hbd : ∀ x ∈ l, x < 1099511627776 := fun x hx => by
    rw [hlj] at hx
    have := jmp_lt 0 0 bs x hx
    have := HL.out
    omega
  rw [← hlj] at hat hlc ⊢
  have hlb : Hid (l.length ≤ 1099511627776) := by
    have h1 := jmp_len 0 0 bs
    have h2 := HL.out
    rw [hlj]
    show (jmp 0 0 bs).length ≤ _
    omega
  have HBD := Lib.hid hbd
  have HQ0 := Lib.hid hq
  have HA0 := Lib.hid hat
  have HB0 := Lib.hid (gW.out.trans (hb2.mono gW.out.size))
  have HLC := Lib.hid hlc
  clear hown hb2 hlc hat hlj hq hbd HQ gW HL KJ
  obtain ⟨k, hk⟩ : ∃ k, k = l.length := ⟨_, rfl⟩
  rw [← hk]
  have HK := Lib.hid hk
  clear hk
  go_wp2_with fail
  go_loopw [8] (fun i wr => ∃ m : Nat, i = .int .i64 (m : Nat) ∧ Hid (m ≤ k) ∧ Hid (q = decide (a ∈ l.drop m)) ∧ Hid (IntsAt wr A2 l) ∧ Hid (Below w.heap.size w wr)) (fun i _ => k - (intOf i).toNat)
  case atStart => exact ⟨0, rfl, Nat.zero_le _, HQ0.out, HA0.out, HB0.out⟩
  case round =>
    clear HQ0 HA0 HB0
    obtain ⟨m, rfl, hm, hq, hat, hb⟩ := hrel
    by_cases h0 : m < k
    · have hkl := HK.out
      have hkb : k ≤ 1099511627776 := by rw [hkl]; exact hlb.out
      obtain ⟨x, hx⟩ : ∃ x, l[m]? = some x := ⟨_, List.getElem?_eq_getElem (by omega)⟩
      obtain ⟨g, rfl, hg, cm⟩ := hat.out m x hx
      rw [Nat.zero_add] at cm
      have hx40 := HBD.out x (List.mem_of_getElem? hx)
      have hw : IntKind.u64.wrap (x : Int) = (x : Int) := IntWalk.u64_in _ (by omega)
      have hdr : l.drop m = x :: l.drop (m + 1) := by
        rw [List.drop_eq_getElem_cons (by omega)]
        rw [List.getElem?_eq_getElem (by omega)] at hx
        injection hx with hx
        rw [hx]
      have hq2 := hq.out
      rw [hdr] at hq2
      by_cases he : x = a
      · have hqt : q = true := by rw [hq2, he]; simp
        have hei : (x : Int) = (a : Int) := by omega
        rw [hei] at hw
        clear hq hq2 hdr hx hx40 he hkl
        subst hqt
        go_wp2_with fail
        exact bodyPost_ret (v := .bool true) (by simp [results, Tryd.results19, go_sem]) rfl ⟨rfl, hb.out⟩
      · have hqf : q = decide (a ∈ l.drop (m + 1)) := by rw [hq2]; simp [Ne.symm he]
        have hei : ¬ (x : Int) = (a : Int) := by omega
        have HQF := Lib.hid hqf
        clear hq hq2 hdr hx hx40 he hkl hqf
        go_wp2_with fail
        go_roundw
        case rel => exact ⟨m + 1, by go_num, by show _ ≤ _; omega, HQF.out, hat.out, hb.out⟩
        case measure => simp [intOf]; omega
    · have hqf : q = false := by rw [hq.out, List.drop_eq_nil_of_le (by have := HK.out; omega)]; rfl
      subst hqf
      clear hq
      go_wp2_with fail
      exact bodyPost_ret (v := .bool false) (by simp [results, Tryd.results19, go_sem]) rfl ⟨rfl, hb.out⟩
set_option maxRecDepth 100000 in
set_option maxHeartbeats 6400000 in
theorem rjump_f {A : Option Addr} {c a : Nat} {bs : List Nat} (w : World) (h : Rd .u8 w A c bs) (hd : Ds 256 bs) (hl : bs.length ≤ 1099511627776) (hb : Big a) (ha : 18446744073709551616 ≤ a) :
    Calls Tryd.prog 19 #[.slice A bs.length c, W a] w (RetV (.bool (jumpB a bs)) w) := by
  obtain ⟨n, hn⟩ : ∃ n, n = bs.length := ⟨_, rfl⟩
  obtain ⟨q, hq⟩ : ∃ q, q = jumpB a bs := ⟨_, rfl⟩
  rw [← hn, ← hq]
  have gW := (Below.refl w.heap.size w).alloc (Nat.le_refl _) (.cells #[.int .u64 (lim 0 a : Nat), .int .u64 (lim 1 a : Nat), .int .u64 (lim 2 a : Nat), .int .u64 (lim 3 a : Nat)] 34)
  have gA := Arr.new4 w 34 (lim 0 a) (lim 1 a) (lim 2 a) (lim 3 a)
  have kS : ∀ w, Calls Tryd.prog 36 #[.agg #[.int .u64 (lim 0 a : Nat), .int .u64 (lim 1 a : Nat), .int .u64 (lim 2 a : Nat), .int .u64 (lim 3 a : Nat)]] w (RetV (.tuple #[.int .u64 0, .bool false]) w) := fun w => small1_f hb ha w
  have kJ : ∀ u, Below w.heap.size w u → Calls Tryd.prog 17 #[.slice A n c] u (JumpsR bs u) := fun u hu => by rw [hn]; exact rjumps_c u (h.below hu) hd hl
  have KS := Lib.hid kS
  have KJ := Lib.hid kJ
  have HL := Lib.hid hl
  have hqf : q = false := by
    rw [hq, jumpB]
    refine decide_eq_false fun hm => ?_
    have := jmp_lt 0 0 bs a hm
    omega
  subst hqf
  clear kS kJ hq hn h hd hl ha hb
  go_enter Tryd.func19, Tryd.ntmps19
  go_upto_region 1 with (fail)
  generalize w.alloc (.cells #[.int .u64 (lim 0 a : Nat), .int .u64 (lim 1 a : Nat), .int .u64 (lim 2 a : Nat), .int .u64 (lim 3 a : Nat)] 34) = X at *
  obtain ⟨x0, x1, x2, x3⟩ := gA.cells4
  go_wp2_with fail
  (with_reducible refine (KS.out _).mono ?_)
  rintro e w1 ⟨rfl, hb1⟩
  have gW := Lib.hid (gW.trans (hb1.mono gW.size))
  clear x0 x1 x2 x3 gA hb1 KS
  go_wp2_with fail
  (with_reducible refine (KJ.out _ gW.out).mono ?_)
  rintro e w2 ⟨v, rfl, hown, hb2⟩
  obtain ⟨A2, c2, rfl, hlc, hat⟩ := ownI_at hown
  obtain ⟨l, hlj⟩ : ∃ l, l = jmp 0 0 bs := ⟨_, rfl⟩
  have hlb : Hid (l.length ≤ 1099511627776) := by
    have h1 := jmp_len 0 0 bs
    have h2 := HL.out
    rw [hlj]
    show (jmp 0 0 bs).length ≤ _
    omega
  rw [← hlj] at hlc ⊢
  have HB0 := Lib.hid (gW.out.trans (hb2.mono gW.out.size))
  have HLC := Lib.hid hlc
  clear hown hb2 hlc hat hlj gW HL KJ
  obtain ⟨k, hk⟩ : ∃ k, k = l.length := ⟨_, rfl⟩
  rw [← hk]
  have HK := Lib.hid hk
  clear hk
  go_wp2_with fail
  go_loopw [8] (fun i wr => ∃ m : Nat, i = .int .i64 (m : Nat) ∧ Hid (m ≤ k) ∧ Hid (Below w.heap.size w wr)) (fun i _ => k - (intOf i).toNat)
  case atStart => exact ⟨0, rfl, Nat.zero_le _, HB0.out⟩
  case round =>
    clear HB0
    obtain ⟨m, rfl, hm, hb⟩ := hrel
    by_cases h0 : m < k
    · have hkl := HK.out
      have hkb : k ≤ 1099511627776 := by rw [hkl]; exact hlb.out
      clear hkl
      go_wp2_with fail
      go_roundw
      case rel => exact ⟨m + 1, by go_num, by show _ ≤ _; omega, hb.out⟩
      case measure => simp [intOf]; omega
    · go_wp2_with fail
      exact bodyPost_ret (v := .bool false) (by simp [results, Tryd.results19, go_sem]) rfl ⟨rfl, hb.out⟩
theorem rjump_c {A : Option Addr} {c a : Nat} {bs : List Nat} (w : World) (h : Rd .u8 w A c bs) (hd : Ds 256 bs) (hl : bs.length ≤ 1099511627776) (hb : Big a) :
    Calls Tryd.prog 19 #[.slice A bs.length c, W a] w (RetV (.bool (jumpB a bs)) w) := by
  by_cases ha : a < 18446744073709551616
  · exact rjump_t w h hd hl ha
  · exact rjump_f w h hd hl hb (by omega)
end Go.Proofs.YtopeahjdglkheaaDoor
