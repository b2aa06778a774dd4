/- The first item of bytes: what package rlp's length and first tell. -/
import Derived.Test.YtgjiealcjaojaaaRlClone
import Derived.Test.YtgjiealcjaojaaaFrom
import Derived.BigRegion
import Derived.OwnWalk
import Derived.BigQuiet
namespace Go.Proofs.Ytgjiealcjaojaaa
open Go.RowKit

/-- The number that bytes are, the highest first. -/
def be (bs : List Nat) : Nat := dv 256 bs.reverse
theorem be_take {bs : List Nat} {m : Nat} (h : m < bs.length) : be (bs.take (m + 1)) = be (bs.take m) * 256 + bs.getD m 0 := by
  unfold be; rw [rev_take bs m h]; omega
theorem be_lt {bs : List Nat} (h : Ds 256 bs) : be bs < 256 ^ bs.length := by
  have := dv_lt (B := 256) bs.reverse (fun x hx => h x (by simpa using hx))
  simpa [be] using this
theorem be_take_lt {bs : List Nat} (h : Ds 256 bs) {m : Nat} (hm : m ≤ 7) : be (bs.take m) < 72057594037927936 := by
  have h1 := be_lt (h.take m)
  have h2 : (bs.take m).length ≤ 7 := by rw [List.length_take]; omega
  have h3 : 256 ^ (bs.take m).length ≤ 256 ^ 7 := Nat.pow_le_pow_right (by omega) h2
  have h4 : (256 : Nat) ^ 7 = 72057594037927936 := by decide
  omega
theorem or_byte (a b : Nat) (ha : a < 72057594037927936) (hb : b < 256) : bits .or .u64 ((a * 256 : Nat) : Int) (b : Int) = ((a * 256 + b : Nat) : Int) := by
  rw [bits_or_u64_nat _ _ (by omega) (by omega), show a * 256 = 2 ^ 8 * a by omega, ← Nat.two_pow_add_eq_or_of_lt (by omega)]

/-- How long the payload is of which the head's first byte is so far above its base; what is behind the head. -/
def lenS (a : Nat) (raw : List Nat) : Option (Nat × List Nat) :=
  if a ≤ 55 then some (a, raw)
  else if raw.length < a - 55 ∨ raw.getD 0 0 = 0 then none
  else if be (raw.take (a - 55)) ≤ 55 then none
  else some (be (raw.take (a - 55)), raw.drop (a - 55))

theorem Rd.drop {k : IntKind} {w : World} {b o c : Nat} {xs : List Nat} (h : Rd k w (some ⟨b, o, none⟩) c xs) (m : Nat) (hm : m ≤ xs.length) : Rd k w (some ⟨b, o + m, none⟩) (c - m) (xs.drop m) := by
  refine ⟨?_, (fun e => nomatch e), fun h0 => ?_⟩
  · rw [List.length_drop]; have := h.le; omega
  · rw [List.length_drop] at h0
    obtain ⟨b', o', e, hb, hc⟩ := h.at_ (by omega)
    injection e with e; injection e with e1 e2; subst e1 e2
    refine ⟨b, o + m, rfl, hb, fun j hj => ?_⟩
    rw [List.length_drop] at hj
    have := hc (m + j) (by omega)
    rw [show o + (m + j) = o + m + j by omega] at this
    rw [this, List.getD_eq_getElem?_getD, List.getD_eq_getElem?_getD, List.getElem?_drop]

/-- A slice's end: where nothing is left of its room, its begin stays. -/
theorem Rd.rest {k : IntKind} {w : World} {b o c : Nat} {xs : List Nat} (h : Rd k w (some ⟨b, o, none⟩) c xs) (m : Nat) (hm : m ≤ xs.length) : Rd k w (if c = m then some ⟨b, o, none⟩ else some ⟨b, o + m, none⟩) (c - m) (xs.drop m) := by
  split
  · rename_i hcm
    have hl := h.le
    have : xs.drop m = [] := List.drop_eq_nil_of_le (by omega)
    rw [this]
    exact ⟨by simp, (fun e => nomatch e), fun h0 => by simp at h0⟩
  · exact h.drop m hm

/-- What length tells, of a slice. -/
def restA (A : Option Addr) (c k : Nat) : Option Addr := match A with
  | some ⟨b, o, _⟩ => if c = k then some ⟨b, o, none⟩ else some ⟨b, o + k, none⟩
  | none => none
def lenV (A : Option Addr) (c a : Nat) (raw : List Nat) : Value :=
  if a ≤ 55 then .tuple #[.int .u64 a, .slice A raw.length c, .bool true]
  else if raw.length < a - 55 ∨ raw.getD 0 0 = 0 then .tuple #[.int .u64 0, .slice none 0 0, .bool false]
  else .tuple #[.int .u64 (be (raw.take (a - 55)) : Nat), .slice (restA A c (a - 55)) (raw.length - (a - 55)) (c - (a - 55)), .bool (decide (55 < be (raw.take (a - 55))))]
theorem lenV_says {w : World} {b o c : Nat} {raw : List Nat} (h : Rd .u8 w (some ⟨b, o, none⟩) c raw) (hd : Ds 256 raw) (a : Nat) : match lenS a raw with
    | none => ∃ (n : Nat) (v : Value), lenV (some ⟨b, o, none⟩) c a raw = .tuple #[.int .u64 n, v, .bool false]
    | some (n, u) => ∃ (o' c' : Nat), lenV (some ⟨b, o, none⟩) c a raw = .tuple #[.int .u64 n, .slice (some ⟨b, o', none⟩) u.length c', .bool true] ∧ Rd .u8 w (some ⟨b, o', none⟩) c' u ∧ Ds 256 u := by
  unfold lenS lenV
  by_cases h1 : a ≤ 55
  · rw [if_pos h1, if_pos h1]; exact ⟨_, _, rfl, h, hd⟩
  · rw [if_neg h1, if_neg h1]
    by_cases h2 : raw.length < a - 55 ∨ raw.getD 0 0 = 0
    · rw [if_pos h2, if_pos h2]; exact ⟨0, _, rfl⟩
    · rw [if_neg h2, if_neg h2]
      by_cases h3 : be (raw.take (a - 55)) ≤ 55
      · rw [if_pos h3, show decide (55 < be (raw.take (a - 55))) = false from decide_eq_false (by omega)]; exact ⟨_, _, rfl⟩
      · rw [if_neg h3, show decide (55 < be (raw.take (a - 55))) = true from decide_eq_true (by omega)]
        have hr := h.rest (a - 55) (by omega)
        simp only [restA]
        by_cases h4 : c = a - 55
        · rw [if_pos h4] at hr ⊢
          exact ⟨_, _, by rw [List.length_drop], hr, hd.drop _⟩
        · rw [if_neg h4] at hr ⊢
          exact ⟨_, _, by rw [List.length_drop], hr, hd.drop _⟩

set_option maxRecDepth 100000 in
set_option maxHeartbeats 3200000 in
theorem length_c {A : Option Addr} {c : Nat} {raw : List Nat} (w : World) (h : Rd .u8 w A c raw) (hd : Ds 256 raw) (a : Nat) (ha : a ≤ 63) (hl : raw.length ≤ 16777216) :
    Calls Try.prog 86 #[.int .u8 a, .slice A raw.length c] w fun e w' => e = .returned (lenV A c a raw) ∧ ∃ m, w' = w.drewN m := by
  by_cases h55 : a ≤ 55
  · have HR : Hid (lenV A c a raw = .tuple #[.int .u64 a, .slice A raw.length c, .bool true]) := if_pos h55
    have h55' : (a : Int) ≤ 55 := by omega
    have ew : IntKind.u64.wrap (a : Int) = (a : Int) := IntWalk.u64_in _ (by omega)
    obtain ⟨L, hL⟩ : ∃ L, L = raw.length := ⟨_, rfl⟩
    rw [← hL] at HR ⊢
    obtain ⟨V, hV⟩ : ∃ V, V = lenV A c a raw := ⟨_, rfl⟩
    rw [← hV] at HR ⊢
    clear hV
    clear h hd h55 hl hL
    go_enter Try.func86, Try.ntmps86
    go_wp2_with fail
    go_ret3
    exact ⟨congrArg Ending.returned HR.out.symm, 0, rfl⟩
  · obtain ⟨k, hk⟩ : ∃ k, k = a - 55 := ⟨_, rfl⟩
    have hk1 : 1 ≤ k ∧ k ≤ 8 := by omega
    have e1 : IntKind.u8.wrap ((a : Int) - 55) = (k : Int) := by rw [IntWalk.u8_in _ (by omega)]; omega
    have e1' : (a : Int) - 55 = (k : Int) := by omega
    have e2 : IntKind.i64.wrap (k : Int) = (k : Int) := IntWalk.i64_in _ (by omega)
    have h55' : ¬ (a : Int) ≤ 55 := by omega
    have HS : Hid (lenV A c a raw = if raw.length < k ∨ raw.getD 0 0 = 0 then .tuple #[.int .u64 0, .slice none 0 0, .bool false] else .tuple #[.int .u64 (be (raw.take k) : Nat), .slice (restA A c k) (raw.length - k) (c - k), .bool (decide (55 < be (raw.take k)))]) := by
      show _ = _
      rw [hk]; exact if_neg h55
    by_cases hlk : raw.length < k
    · have HR : Hid (lenV A c a raw = .tuple #[.int .u64 0, .slice none 0 0, .bool false]) := HS.out.trans (if_pos (Or.inl hlk))
      have h1 : (raw.length : Int) < (k : Int) := by omega
      obtain ⟨L, hL⟩ : ∃ L, L = raw.length := ⟨_, rfl⟩
      rw [← hL] at h1 ⊢
      clear h hd h55 hl hL hlk HS hk
      go_enter Try.func86, Try.ntmps86
      go_wp2_with fail
      go_ret3
      exact ⟨congrArg Ending.returned HR.out.symm, 0, rfl⟩
    · obtain ⟨b, o, rfl, hb, hc⟩ := h.at_ (by omega)
      have h0 : w.cell? ⟨b, o, none⟩ = some (.int .u8 (raw.getD 0 0 : Nat)) := by have := hc 0 (by omega); rwa [Nat.add_zero] at this
      obtain ⟨x, hx⟩ : ∃ x, x = raw.getD 0 0 := ⟨_, rfl⟩
      rw [← hx] at h0
      have h1 : ¬ (raw.length : Int) < (k : Int) := by omega
      have h2 : (0 : Int) < (raw.length : Int) := by omega
      by_cases hx0 : x = 0
      · have HR : Hid (lenV (some ⟨b, o, none⟩) c a raw = .tuple #[.int .u64 0, .slice none 0 0, .bool false]) := HS.out.trans (if_pos (Or.inr (by rw [← hx]; exact hx0)))
        have hx1 : (x : Int) = 0 := by omega
        obtain ⟨L, hL⟩ : ∃ L, L = raw.length := ⟨_, rfl⟩
        rw [← hL] at h1 h2 ⊢
        clear h hd h55 hl hL hlk HS hk hc hx0 hx
        go_enter Try.func86, Try.ntmps86
        go_wp2_with fail
        go_ret3
        exact ⟨congrArg Ending.returned HR.out.symm, 0, rfl⟩
      · have hxn : ¬ (x : Int) = 0 := by omega
        have hcl := h.le
        have i1 : (k : Int) ≤ (c : Int) := by omega
        have i2 : (k : Int) ≤ (raw.length : Int) := by omega
        have HX := Lib.hid h
        have HD := Lib.hid hd
        have HLK : Hid (k ≤ raw.length ∧ raw.length ≤ 16777216) := ⟨by omega, hl⟩
        have HX0 : Hid (¬ (raw.length < k ∨ raw.getD 0 0 = 0)) := by
          intro h
          rcases h with h | h
          · omega
          · exact hx0 (by rw [hx]; exact h)
        obtain ⟨L, hL⟩ : ∃ L, L = raw.length := ⟨_, rfl⟩
        rw [← hL] at h1 h2 i2 hlk ⊢
        have HL := Lib.hid hL
        clear h hd h55 hl hlk hk hx hL hc hcl hx0
        go_enter Try.func86, Try.ntmps86
        go_upto_region 7 with (fail)
        clear h0
        go_loopw [4, 32] (fun n i wr => ∃ m : Nat, m ≤ k ∧ i = .int .i64 (m : Int) ∧ n = .int .u64 ((be (raw.take m) : Nat) : Int) ∧ wr = w)
          (fun _ i _ => k - (intOf i).toNat)
        case atStart => exact ⟨0, by omega, rfl, by simp [be, dv], rfl⟩
        case round =>
          obtain ⟨m, hm, rfl, rfl, rfl⟩ := hrel
          by_cases hmk : m < k
          · obtain ⟨b', o', e, hb', hcell⟩ := HX.out.at_ (by have := HLK.out; omega)
            injection e with e; injection e with e1 e2; subst e1 e2
            have hc := hcell m (by have := HLK.out; omega)
            have hnx := be_take (bs := raw) (m := m) (by have := HLK.out; omega)
            have hbl := be_take_lt HD.out (m := m) (by omega)
            obtain ⟨y, hy⟩ : ∃ y, y = raw.getD m 0 := ⟨_, rfl⟩
            have hy2 : y < 256 := by rw [hy]; exact HD.out.get (by omega) _
            rw [← hy] at hc hnx
            obtain ⟨n, hn⟩ : ∃ n, n = be (raw.take m) := ⟨_, rfl⟩
            rw [← hn] at hnx hbl
            rw [← hn]
            have f1 : IntKind.u64.wrap ((n : Int) * 256) = ((n * 256 : Nat) : Int) := by rw [IntWalk.u64_in _ (by omega)]; omega
            have f1' : (n : Int) * 256 % 18446744073709551616 = ((n * 256 : Nat) : Int) := by omega
            have f2 : IntKind.u64.wrap (y : Int) = (y : Int) := IntWalk.u64_in _ (by omega)
            have f3 := or_byte n y hbl hy2
            have f4 : IntKind.i64.wrap ((m : Int) + 1) = (m : Int) + 1 := IntWalk.i64_in _ (by omega)
            have hmi : (m : Int) < (k : Int) := by omega
            have HN : Hid (((n * 256 + y : Nat) : Int) = ((be (raw.take (m + 1)) : Nat) : Int)) := by show _ = _; rw [hnx]
            obtain ⟨N2, hN2⟩ : ∃ N2 : Nat, N2 = n * 256 := ⟨_, rfl⟩
            obtain ⟨N3, hN3⟩ : ∃ N3 : Nat, N3 = n * 256 + y := ⟨_, rfl⟩
            rw [← hN2] at f1 f1' f3
            rw [hN2, ← hN3] at f3
            rw [← hN3] at HN
            rw [← hN2] at f3
            have HM : Hid (m + 1 ≤ k) := hmk
            clear hnx hbl hy2 hcell hy hn hN2 hN3
            go_wp2_with fail
            exact ⟨⟨m + 1, HM.out, by simp, by rw [HN.out], trivial⟩, by simp [intOf]; have := HM.out; omega⟩
          · have hmk' : m = k := by omega
            subst hmk'
            have hmi : ¬ (m : Int) < (m : Int) := by omega
            have hcap : (L : Int) ≤ (c : Int) := by have := HX.out.le; have := HL.out; omega
            have HB : Hid (∀ N : Nat, N = be (raw.take m) → lenV (some ⟨b, o, none⟩) c a raw = .tuple #[.int .u64 N, .slice (if c = m then some ⟨b, o, none⟩ else some ⟨b, o + m, none⟩) (L - m) (c - m), .bool (decide (55 < N))]) := by
              intro N hN
              rw [HS.out, if_neg HX0.out, hN, HL.out]
              rfl
            obtain ⟨N, hN⟩ : ∃ N, N = be (raw.take m) := ⟨_, rfl⟩
            have HB2 := Lib.hid (HB.out N hN)
            rw [← hN]
            clear hN HB HX HD HLK HX0 HL
            obtain ⟨AA, hAA⟩ : ∃ AA : Option Addr, AA = if c = m then some ⟨b, o, none⟩ else some ⟨b, o + m, none⟩ := ⟨_, rfl⟩
            rw [← hAA] at HB2
            have g1 : (m : Int) ≤ (c : Int) := by omega
            go_wp2_with fail
            by_cases h55 : (55 : Nat) < N
            · have h56 : (55 : Int) < (N : Int) := by omega
              rw [show decide (55 < N) = true from decide_eq_true h55] at HB2
              clear h55
              go_region
              simp only [← hAA]
              clear hAA
              go_simp
              go_wp2_with fail
              go_ret3
              exact ⟨congrArg Ending.returned HB2.out.symm, 1, rfl⟩
            · have h56 : ¬ (55 : Int) < (N : Int) := by omega
              rw [show decide (55 < N) = false from decide_eq_false h55] at HB2
              clear h55
              go_region
              simp only [← hAA]
              clear hAA
              go_simp
              go_wp2_with fail
              go_ret3
              exact ⟨congrArg Ending.returned HB2.out.symm, 1, rfl⟩
end Go.Proofs.Ytgjiealcjaojaaa
