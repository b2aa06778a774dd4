/- Package quarryref04: hexes, Text. (Written by wip/gencdhex.py.) -/
import Derived.Test.YtopeahjdglkheaaDoorCdOps
import Derived.Test.YtopeahjdglkheaaDoorCdName
import Derived.Test.YtopeahjdglkheaaDoorRTrim
import Derived.RegionTactic
import Derived.BigRegion
import Derived.Deep.RegionLaw
namespace Go.Proofs.YtopeahjdglkheaaDoor
open Go.RowKit

/-- A hex digit; bytes as hex digits, two each; the text of bytes. -/
def hexN (d : Nat) : Nat := if d < 10 then 48 + d else 87 + d
def hexL (bs : List Nat) : List Nat := bs.flatMap fun b => [hexN (b / 16), hexN (b % 16)]
def textL (bs : List Nat) : List Nat := [48, 120] ++ hexL bs
theorem hexN_lt {d : Nat} (h : d < 16) : hexN d < 256 := by unfold hexN; split <;> omega
theorem hexL_len (bs : List Nat) : (hexL bs).length = 2 * bs.length := by
  unfold hexL
  induction bs with
  | nil => rfl
  | cons b bs ih => simp only [List.flatMap_cons, List.length_append, ih]; simp; omega
theorem hexL_snoc (bs : List Nat) (m x : Nat) (h : bs[m]? = some x) : hexL (bs.take (m + 1)) = hexL (bs.take m) ++ [hexN (x / 16), hexN (x % 16)] := by
  obtain ⟨hl, hx⟩ := List.getElem?_eq_some_iff.1 h
  rw [List.take_succ_eq_append_getElem hl, hx]
  unfold hexL
  rw [List.flatMap_append]
  simp
theorem hexL_ds {bs : List Nat} (hd : Ds 256 bs) : Ds 256 (hexL bs) := fun y hy => by
  unfold hexL at hy
  obtain ⟨b, hb, h⟩ := List.mem_flatMap.1 hy
  have := hd b hb
  simp only [List.mem_cons, List.not_mem_nil, or_false] at h
  rcases h with h | h <;> rw [h] <;> exact hexN_lt (by omega)
theorem hex_at : ∀ d : Nat, d < 16 → (#[48, 49, 50, 51, 52, 53, 54, 55, 56, 57, 97, 98, 99, 100, 101, 102] : Array UInt8).toList[d]? = some (UInt8.ofNat (hexN d)) ∧ (UInt8.ofNat (hexN d)).toNat = hexN d := by decide
theorem Acc.below8 {w w' : World} {base : Nat} {v : Value} {bs : List Nat} (h : Acc w base v bs) (hb : Below w.heap.size w w') : Acc w' base v bs := by
  refine ⟨h.1, ?_⟩
  rcases h.2 with h | ⟨g, cap, cur, e, hg, hh, r⟩
  · exact .inl h
  · exact .inr ⟨g, cap, cur, e, hg, (hb.block g (Array.getElem?_eq_some_iff.1 hh).1).trans hh, r⟩
theorem hex_get (d : Nat) (h : d < (⟨#[48, 49, 50, 51, 52, 53, 54, 55, 56, 57, 97, 98, 99, 100, 101, 102]⟩ : ByteArray).size) : (((⟨#[48, 49, 50, 51, 52, 53, 54, 55, 56, 57, 97, 98, 99, 100, 101, 102]⟩ : ByteArray)[d]'h).toNat : Int) = (hexN d : Nat) := by
  obtain ⟨h1, h2⟩ := hex_at d h
  obtain ⟨hl, hg⟩ := List.getElem?_eq_some_iff.1 h1
  rw [← h2, ← hg]
  rfl
/-- append to a slice that a call owns, as one step of a region that draws. -/
theorem step_cd_own {P : Program} {ops : Array Oper} {o : Oper} {a : Act} {w : World} {K : Act → World → Prop} {Q : Exit → Act → World → Prop} {E : Prop} (hgd : o.guard = none) (s x : Operand) (t : TypeId)
    (ho : o.op = .call { callee := .builtin .append, args := #[s, x], argTypes := #[t, t] })
    (base : Nat) (e : TypeId) (i : TypeInfo) (z : Value) (size bytes : Nat) (ht : P.underlying t = some (.slice e)) (hi : P.info? e = some i) (hz : i.zero = some z)
    (hsize : i.size = size) (hby : i.bytes = bytes) (hzs : z.cells.size = size) (hsz : 0 < size)
    (v : Value) (n : Nat) (xs : List Value) (hs : a.eval s = v) (hown : w.ownsRow base e size v n xs)
    (ad : Addr) (m c : Nat) (news : List Value) (hx : a.eval x = .slice (some ad) m c) (hl : news.length = m * size) (hnews : ∀ j u, news[j]? = some u → w.cell? (ad.add j) = some u) (h1 : ∀ u ∈ news, u.oneCell' = true)
    (h63 : n + m ≤ maxLen) (hbytes : (n + m) * bytes ≤ 140737488355328) (hbase : base ≤ w.heap.size)
    (h : ∀ v' w', w'.ownsRow base e size v' (n + m) (xs ++ news) → w.grownBy w' v.ownBlock → (v' = .slice none 0 0 ↔ v = .slice none 0 0 ∧ m = 0) → K (a.put o.dst v') w') :
    if Region.wanted o (yielded ops a.tmps) = true then o.wp P a w K Q else E := by
  have hw : Region.wanted o (yielded ops a.tmps) = true := by simp [Region.wanted, hgd]
  rw [if_pos hw]
  exact wp_append_own w s x t ho base e i z size bytes ht hi hz hsize hby hzs hsz v n xs hs hown ad m c news hx hl hnews h1 h63 hbytes hbase h
theorem two_new {w : World} {a b : Value} {t : TypeId} : ∀ j u, ([a, b] : List Value)[j]? = some u → (w.alloc (.cells #[a, b] t)).cell? ((⟨w.heap.size, 0, none⟩ : Addr).add j) = some u := by
  intro j u hj
  rw [Addr.add_mid, cell_of_row _ _ (0 + j) _ _ (0, 0) (heap_alloc_new w _)]
  match j, hj with
  | 0, hj => exact hj
  | 1, hj => exact hj

set_option maxRecDepth 100000 in
set_option maxHeartbeats 6400000 in
theorem rhexes_c {A : Option Addr} {c : Nat} {bs : List Nat} (w : World) (h : Rd .u8 w A c bs) (hd : Ds 256 bs) (hl : bs.length ≤ 1073741824) : Calls Tryd.prog 50 #[.slice A bs.length c] w (RetV (.string (sOf (hexL bs))) w) := by
  obtain ⟨n, hn⟩ : ∃ n, n = bs.length := ⟨_, rfl⟩
  obtain ⟨S, hS⟩ : ∃ S, S = sOf (hexL bs) := ⟨_, rfl⟩
  rw [← hn] at hl ⊢
  rw [← hS]
  obtain ⟨i0, hi, hz0, hz1, hz2⟩ := info_parts info8
  have HN := Lib.hid hn
  have HS := Lib.hid hS
  have HR := Lib.hid h
  have HD := Lib.hid hd
  have HL := Lib.hid hl
  clear hn hS h hd hl
  go_enter Tryd.func50, Tryd.ntmps50
  go_wp2_with fail
  go_loopw [3, 4] (fun v i wr => ∃ (m q cc : Nat) (B : Option Addr), v = .slice B q cc ∧ i = .int .i64 (m : Nat) ∧ m ≤ n ∧ Hid (q = (hexL (bs.take m)).length) ∧ Hid (Acc wr w.heap.size v (hexL (bs.take m))) ∧ Hid (Below w.heap.size w wr)) (fun _ i _ => n - (intOf i).toNat)
  case atStart => exact ⟨0, 0, 0, none, rfl, rfl, Nat.zero_le _, Lib.hid rfl, Lib.hid (Acc.nil _ _), Lib.hid (Below.refl _ _)⟩
  case round =>
    obtain ⟨m, q, cc, B, rfl, rfl, hm, hq, hacc, HB⟩ := hrel
    by_cases h0 : m < n
    · have hnl := HN.out
      have hL := HL.out
      obtain ⟨x, hx⟩ : ∃ x, bs[m]? = some x := ⟨_, List.getElem?_eq_getElem (by omega)⟩
      have hx256 : x < 256 := HD.out x (List.mem_of_getElem? hx)
      obtain ⟨b, o, rfl, hlt, hcell⟩ := HR.out.at_ (by omega)
      have hc0 := hcell m (by omega)
      rw [show bs.getD m 0 = x by rw [List.getD_eq_getElem?_getD, hx]; rfl] at hc0
      have hcw := (HB.out.cell (p := ⟨b, o + m, none⟩) hlt).trans hc0
      have HCX := Lib.hid (And.intro (Nat.lt_of_lt_of_le hlt HB.out.size) hcw)
      have HNX := Lib.hid (hexL_snoc bs m x hx)
      obtain ⟨d1, hd1⟩ : ∃ d, d = x / 16 := ⟨_, rfl⟩
      obtain ⟨d2, hd2⟩ : ∃ d, d = x % 16 := ⟨_, rfl⟩
      have Q1 : Hid (IntKind.u8.wrap ((x : Int).tdiv 16) = (d1 : Int)) := by show _ = _; rw [Int.tdiv_eq_ediv_of_nonneg (by omega), IntKind.wrap_u8]; omega
      have Q2 : Hid ((x : Int).tmod 16 = (d2 : Int)) := by show _ = _; rw [Int.tmod_eq_emod_of_nonneg (by omega)]; omega
      have L1 : Hid (d1 < 16) := Lib.hid (by omega)
      have L2 : Hid (d2 < 16) := Lib.hid (by omega)
      rw [← hd1, ← hd2] at HNX
      have HQN : Hid ((hexL (bs.take m)).length ≤ 2147483648) := by show _ ≤ _; rw [hexL_len, List.length_take]; omega
      have HACC := Lib.hid hacc.out
      have HMN := Lib.hid h0
      have h0i : (m : Int) < (n : Int) := by omega
      clear hacc hc0 hcell
      have hsz := HB.out.size
      have HACD : Hid (Acc wr.drew w.heap.size (.slice B q cc) (hexL (bs.take m))) := HACC.out
      have hbW : b < wr.heap.size := HCX.out.1
      have cx := HCX.out.2
      have q1 : IntKind.u8.wrap ((x : Int) / 16) = (d1 : Int) := by rw [IntKind.wrap_u8]; omega
      have q2 := Q2.out
      have q3 : (x : Int) % 16 = (d2 : Int) := by omega
      have l1 : (d1 : Int) < 16 := by have := L1.out; omega
      have l2 : (d2 : Int) < 16 := by have := L2.out; omega
      have sg := hex_get
      clear HCX Q1 Q2 hnl hL hx hx256 hlt hcw hd1 hd2 h0
      go_wp2_with fail
      go_region_law (refine step_cd_own rfl (.tmp 11) (.tmp 24) 31 rfl w.heap.size 5 i0 (.int .u8 0) 1 1 Tryd.underlying31 hi hz0 hz1 hz2 rfl (by decide) (.slice B q cc) _ _ (by simp [Act.eval]) (World.ownsRow.alloc (w := wr.drew) HACD.out _) ⟨wr.heap.size, 0, none⟩ 2 2 [.int .u8 (hexN d1 : Nat), .int .u8 (hexN d2 : Nat)] (by simp [Act.eval]) rfl (two_new (w := wr.drew)) (by intro u hu; simp at hu; rcases hu with hu | hu <;> subst hu <;> rfl) (by have := HQN.out; unfold maxLen; omega) (by have := HQN.out; omega) (by simp; omega) ?_; intro v' w2 hown hg _)
      all_goals
        have hacc1 : Acc w2 w.heap.size v' (hexL (bs.take m) ++ [hexN d1, hexN d2]) := by
          unfold Acc; rw [bv_append, List.length_append]
          exact hown
        have hbw : Below w.heap.size w w2 := (HB.out.drew.alloc hsz _).grown hg (by simp; omega) (fun k hk => Acc.own HACC.out k hk)
        rw [← HNX.out] at hacc1
        have HA := Lib.hid hacc1
        obtain ⟨A', c', e'⟩ := hacc1.form
        obtain ⟨q', hq'⟩ : ∃ q', q' = (hexL (bs.take (m + 1))).length := ⟨_, rfl⟩
        rw [← hq'] at e'
        subst e'
        have HQ := Lib.hid hq'
        have HBW := Lib.hid hbw
        have wm : IntKind.i64.wrap ((m : Int) + 1) = ((m + 1 : Nat) : Int) := by rw [IntWalk.i64_in _ (by have := HL.out; have := HMN.out; omega)]; omega
        clear hacc1 hq' hbw HACC HNX hown hg HACD cx q1 q2 q3 l1 l2 sg
        go_simp
        go_wp2_with fail
        go_roundw
        case rel => exact ⟨m + 1, q', c', A', rfl, by go_num, by have := HMN.out; omega, HQ, HA, HBW⟩
        case measure => have := HMN.out; simp [intOf]; omega
    · have hfull : bs.take m = bs := List.take_of_length_le (by have := HN.out; omega)
      have hby := hacc.out
      rw [hfull] at hby
      have ks := run_sOf (hby.byt (hexL_ds HD.out))
      rw [← HS.out] at ks
      have h0i : ¬ (m : Int) < (n : Int) := by omega
      clear hby hacc hfull hq h0 HD HR HN
      go_wp2_with fail
      exact bodyPost_ret (v := .string S) (by simp [results, Tryd.results50, go_sem]) rfl ⟨rfl, HB.out⟩

set_option maxRecDepth 100000 in
set_option maxHeartbeats 6400000 in
theorem rtext_c {A : Option Addr} {c : Nat} {bs : List Nat} (w : World) (h : Rd .u8 w A c bs) (hd : Ds 256 bs) (hl : bs.length ≤ 1073741824) : Calls Tryd.prog 38 #[.slice A bs.length c] w (RetV (.string (sOf (textL bs))) w) := by
  have k := rhexes_c w h hd hl
  have e : sOf (textL bs) = ⟨#[48, 120]⟩ ++ sOf (hexL bs) := by unfold textL; rw [← sOf_append]; rfl
  have hz : (⟨#[48, 120]⟩ : ByteArray).size = 2 := rfl
  have hz2 : (sOf (hexL bs)).size ≤ 2147483648 := by rw [sOf_size, hexL_len]; omega
  rw [e]
  have HZ : Hid (¬ 9223372036854775807 < (⟨#[48, 120]⟩ : ByteArray).size + (sOf (hexL bs)).size) := by show ¬ _; rw [hz]; omega
  generalize sOf (hexL bs) = S at *
  generalize bs.length = n at *
  have K := Lib.hid k
  clear k e hz hz2 h hd hl
  go_enter Tryd.func38, Tryd.ntmps38
  go_wp2_with fail
  (with_reducible refine K.out.mono ?_)
  rintro e w1 ⟨rfl, hb⟩
  have hz := HZ.out
  clear K HZ
  go_wp2_with fail
  go_ret
  exact ⟨rfl, hb⟩
end Go.Proofs.YtopeahjdglkheaaDoor
