/- Package quarryref18: List, a code written down. (Written by wip/gencdlist.py.) -/
import Derived.Test.YtopeahjdglkheaaDoorCdOps
import Derived.Test.YtopeahjdglkheaaDoorCdName
import Derived.Test.YtopeahjdglkheaaDoorRTrim
import Derived.RegionTactic
import Derived.BigRegion
import Derived.Deep.RegionLaw
import Derived.Test.YtopeahjdglkheaaDoorCdBack
namespace Go.Proofs.YtopeahjdglkheaaDoor
open Go.RowKit

/-- A hex digit; bytes as hex digits, two each; the text of bytes. -/
def hexN (d : Nat) : Nat := if d < 10 then 48 + d else 87 + d
def hexL (bs : List Nat) : List Nat := bs.flatMap fun b => [hexN (b / 16), hexN (b % 16)]
def textL (bs : List Nat) : List Nat := [48, 120] ++ hexL bs
theorem hexN_lt {d : Nat} (h : d < 16) : hexN d < 256 := by unfold hexN; split <;> omega
theorem hexL_len (bs : List Nat) : (hexL bs).length = 2 * bs.length := by
  unfold hexL
  induction bs with
  | nil => rfl
  | cons b bs ih => simp only [List.flatMap_cons, List.length_append, ih]; simp; omega
theorem hexL_snoc (bs : List Nat) (m x : Nat) (h : bs[m]? = some x) : hexL (bs.take (m + 1)) = hexL (bs.take m) ++ [hexN (x / 16), hexN (x % 16)] := by
  obtain ⟨hl, hx⟩ := List.getElem?_eq_some_iff.1 h
  rw [List.take_succ_eq_append_getElem hl, hx]
  unfold hexL
  rw [List.flatMap_append]
  simp
theorem hexL_ds {bs : List Nat} (hd : Ds 256 bs) : Ds 256 (hexL bs) := fun y hy => by
  unfold hexL at hy
  obtain ⟨b, hb, h⟩ := List.mem_flatMap.1 hy
  have := hd b hb
  simp only [List.mem_cons, List.not_mem_nil, or_false] at h
  rcases h with h | h <;> rw [h] <;> exact hexN_lt (by omega)
theorem hex_at : ∀ d : Nat, d < 16 → (#[48, 49, 50, 51, 52, 53, 54, 55, 56, 57, 97, 98, 99, 100, 101, 102] : Array UInt8).toList[d]? = some (UInt8.ofNat (hexN d)) ∧ (UInt8.ofNat (hexN d)).toNat = hexN d := by decide
theorem Acc.below8 {w w' : World} {base : Nat} {v : Value} {bs : List Nat} (h : Acc w base v bs) (hb : Below w.heap.size w w') : Acc w' base v bs := by
  refine ⟨h.1, ?_⟩
  rcases h.2 with h | ⟨g, cap, cur, e, hg, hh, r⟩
  · exact .inl h
  · exact .inr ⟨g, cap, cur, e, hg, (hb.block g (Array.getElem?_eq_some_iff.1 hh).1).trans hh, r⟩
theorem hex_get (d : Nat) (h : d < (⟨#[48, 49, 50, 51, 52, 53, 54, 55, 56, 57, 97, 98, 99, 100, 101, 102]⟩ : ByteArray).size) : (((⟨#[48, 49, 50, 51, 52, 53, 54, 55, 56, 57, 97, 98, 99, 100, 101, 102]⟩ : ByteArray)[d]'h).toNat : Int) = (hexN d : Nat) := by
  obtain ⟨h1, h2⟩ := hex_at d h
  obtain ⟨hl, hg⟩ := List.getElem?_eq_some_iff.1 h1
  rw [← h2, ← hg]
  rfl
/-- append to a slice that a call owns, as one step of a region that draws. -/
theorem step_cd_own {P : Program} {ops : Array Oper} {o : Oper} {a : Act} {w : World} {K : Act → World → Prop} {Q : Exit → Act → World → Prop} {E : Prop} (hgd : o.guard = none) (s x : Operand) (t : TypeId)
    (ho : o.op = .call { callee := .builtin .append, args := #[s, x], argTypes := #[t, t] })
    (base : Nat) (e : TypeId) (i : TypeInfo) (z : Value) (size bytes : Nat) (ht : P.underlying t = some (.slice e)) (hi : P.info? e = some i) (hz : i.zero = some z)
    (hsize : i.size = size) (hby : i.bytes = bytes) (hzs : z.cells.size = size) (hsz : 0 < size)
    (v : Value) (n : Nat) (xs : List Value) (hs : a.eval s = v) (hown : w.ownsRow base e size v n xs)
    (ad : Addr) (m c : Nat) (news : List Value) (hx : a.eval x = .slice (some ad) m c) (hl : news.length = m * size) (hnews : ∀ j u, news[j]? = some u → w.cell? (ad.add j) = some u) (h1 : ∀ u ∈ news, u.oneCell' = true)
    (h63 : n + m ≤ maxLen) (hbytes : (n + m) * bytes ≤ 140737488355328) (hbase : base ≤ w.heap.size)
    (h : ∀ v' w', w'.ownsRow base e size v' (n + m) (xs ++ news) → w.grownBy w' v.ownBlock → (v' = .slice none 0 0 ↔ v = .slice none 0 0 ∧ m = 0) → K (a.put o.dst v') w') :
    if Region.wanted o (yielded ops a.tmps) = true then o.wp P a w K Q else E := by
  have hw : Region.wanted o (yielded ops a.tmps) = true := by simp [Region.wanted, hgd]
  rw [if_pos hw]
  exact wp_append_own w s x t ho base e i z size bytes ht hi hz hsize hby hzs hsz v n xs hs hown ad m c news hx hl hnews h1 h63 hbytes hbase h
theorem two_new {w : World} {a b : Value} {t : TypeId} : ∀ j u, ([a, b] : List Value)[j]? = some u → (w.alloc (.cells #[a, b] t)).cell? ((⟨w.heap.size, 0, none⟩ : Addr).add j) = some u := by
  intro j u hj
  rw [Addr.add_mid, cell_of_row _ _ (0 + j) _ _ (0, 0) (heap_alloc_new w _)]
  match j, hj with
  | 0, hj => exact hj
  | 1, hj => exact hj

set_option maxRecDepth 100000 in
set_option maxHeartbeats 6400000 in
theorem rhexes_c {A : Option Addr} {c : Nat} {bs : List Nat} (w : World) (h : Rd .u8 w A c bs) (hd : Ds 256 bs) (hl : bs.length ≤ 1073741824) : Calls Tryd.prog 50 #[.slice A bs.length c] w (RetV (.string (sOf (hexL bs))) w) := by
  obtain ⟨n, hn⟩ : ∃ n, n = bs.length := ⟨_, rfl⟩
  obtain ⟨S, hS⟩ : ∃ S, S = sOf (hexL bs) := ⟨_, rfl⟩
  rw [← hn] at hl ⊢
  rw [← hS]
  obtain ⟨i0, hi, hz0, hz1, hz2⟩ := info_parts info8
  have HN := Lib.hid hn
  have HS := Lib.hid hS
  have HR := Lib.hid h
  have HD := Lib.hid hd
  have HL := Lib.hid hl
  clear hn hS h hd hl
  go_enter Tryd.func50, Tryd.ntmps50
  go_wp2_with fail
  go_loopw [3, 4] (fun v i wr => ∃ (m q cc : Nat) (B : Option Addr), v = .slice B q cc ∧ i = .int .i64 (m : Nat) ∧ m ≤ n ∧ Hid (q = (hexL (bs.take m)).length) ∧ Hid (Acc wr w.heap.size v (hexL (bs.take m))) ∧ Hid (Below w.heap.size w wr)) (fun _ i _ => n - (intOf i).toNat)
  case atStart => exact ⟨0, 0, 0, none, rfl, rfl, Nat.zero_le _, Lib.hid rfl, Lib.hid (Acc.nil _ _), Lib.hid (Below.refl _ _)⟩
  case round =>
    obtain ⟨m, q, cc, B, rfl, rfl, hm, hq, hacc, HB⟩ := hrel
    by_cases h0 : m < n
    · have hnl := HN.out
      have hL := HL.out
      obtain ⟨x, hx⟩ : ∃ x, bs[m]? = some x := ⟨_, List.getElem?_eq_getElem (by omega)⟩
      have hx256 : x < 256 := HD.out x (List.mem_of_getElem? hx)
      obtain ⟨b, o, rfl, hlt, hcell⟩ := HR.out.at_ (by omega)
      have hc0 := hcell m (by omega)
      rw [show bs.getD m 0 = x by rw [List.getD_eq_getElem?_getD, hx]; rfl] at hc0
      have hcw := (HB.out.cell (p := ⟨b, o + m, none⟩) hlt).trans hc0
      have HCX := Lib.hid (And.intro (Nat.lt_of_lt_of_le hlt HB.out.size) hcw)
      have HNX := Lib.hid (hexL_snoc bs m x hx)
      obtain ⟨d1, hd1⟩ : ∃ d, d = x / 16 := ⟨_, rfl⟩
      obtain ⟨d2, hd2⟩ : ∃ d, d = x % 16 := ⟨_, rfl⟩
      have Q1 : Hid (IntKind.u8.wrap ((x : Int).tdiv 16) = (d1 : Int)) := by show _ = _; rw [Int.tdiv_eq_ediv_of_nonneg (by omega), IntKind.wrap_u8]; omega
      have Q2 : Hid ((x : Int).tmod 16 = (d2 : Int)) := by show _ = _; rw [Int.tmod_eq_emod_of_nonneg (by omega)]; omega
      have L1 : Hid (d1 < 16) := Lib.hid (by omega)
      have L2 : Hid (d2 < 16) := Lib.hid (by omega)
      rw [← hd1, ← hd2] at HNX
      have HQN : Hid ((hexL (bs.take m)).length ≤ 2147483648) := by show _ ≤ _; rw [hexL_len, List.length_take]; omega
      have HACC := Lib.hid hacc.out
      have HMN := Lib.hid h0
      have h0i : (m : Int) < (n : Int) := by omega
      clear hacc hc0 hcell
      have hsz := HB.out.size
      have HACD : Hid (Acc wr.drew w.heap.size (.slice B q cc) (hexL (bs.take m))) := HACC.out
      have hbW : b < wr.heap.size := HCX.out.1
      have cx := HCX.out.2
      have q1 : IntKind.u8.wrap ((x : Int) / 16) = (d1 : Int) := by rw [IntKind.wrap_u8]; omega
      have q2 := Q2.out
      have q3 : (x : Int) % 16 = (d2 : Int) := by omega
      have l1 : (d1 : Int) < 16 := by have := L1.out; omega
      have l2 : (d2 : Int) < 16 := by have := L2.out; omega
      have sg := hex_get
      clear HCX Q1 Q2 hnl hL hx hx256 hlt hcw hd1 hd2 h0
      go_wp2_with fail
      go_region_law (refine step_cd_own rfl (.tmp 11) (.tmp 24) 31 rfl w.heap.size 5 i0 (.int .u8 0) 1 1 Tryd.underlying31 hi hz0 hz1 hz2 rfl (by decide) (.slice B q cc) _ _ (by simp [Act.eval]) (World.ownsRow.alloc (w := wr.drew) HACD.out _) ⟨wr.heap.size, 0, none⟩ 2 2 [.int .u8 (hexN d1 : Nat), .int .u8 (hexN d2 : Nat)] (by simp [Act.eval]) rfl (two_new (w := wr.drew)) (by intro u hu; simp at hu; rcases hu with hu | hu <;> subst hu <;> rfl) (by have := HQN.out; unfold maxLen; omega) (by have := HQN.out; omega) (by simp; omega) ?_; intro v' w2 hown hg _)
      all_goals
        have hacc1 : Acc w2 w.heap.size v' (hexL (bs.take m) ++ [hexN d1, hexN d2]) := by
          unfold Acc; rw [bv_append, List.length_append]
          exact hown
        have hbw : Below w.heap.size w w2 := (HB.out.drew.alloc hsz _).grown hg (by simp; omega) (fun k hk => Acc.own HACC.out k hk)
        rw [← HNX.out] at hacc1
        have HA := Lib.hid hacc1
        obtain ⟨A', c', e'⟩ := hacc1.form
        obtain ⟨q', hq'⟩ : ∃ q', q' = (hexL (bs.take (m + 1))).length := ⟨_, rfl⟩
        rw [← hq'] at e'
        subst e'
        have HQ := Lib.hid hq'
        have HBW := Lib.hid hbw
        have wm : IntKind.i64.wrap ((m : Int) + 1) = ((m + 1 : Nat) : Int) := by rw [IntWalk.i64_in _ (by have := HL.out; have := HMN.out; omega)]; omega
        clear hacc1 hq' hbw HACC HNX hown hg HACD cx q1 q2 q3 l1 l2 sg
        go_simp
        go_wp2_with fail
        go_roundw
        case rel => exact ⟨m + 1, q', c', A', rfl, by go_num, by have := HMN.out; omega, HQ, HA, HBW⟩
        case measure => have := HMN.out; simp [intOf]; omega
    · have hfull : bs.take m = bs := List.take_of_length_le (by have := HN.out; omega)
      have hby := hacc.out
      rw [hfull] at hby
      have ks := run_sOf (hby.byt (hexL_ds HD.out))
      rw [← HS.out] at ks
      have h0i : ¬ (m : Int) < (n : Int) := by omega
      clear hby hacc hfull hq h0 HD HR HN
      go_wp2_with fail
      exact bodyPost_ret (v := .string S) (by simp [results, Tryd.results50, go_sem]) rfl ⟨rfl, HB.out⟩

set_option maxRecDepth 100000 in
set_option maxHeartbeats 6400000 in
theorem rtext_c {A : Option Addr} {c : Nat} {bs : List Nat} (w : World) (h : Rd .u8 w A c bs) (hd : Ds 256 bs) (hl : bs.length ≤ 1073741824) : Calls Tryd.prog 38 #[.slice A bs.length c] w (RetV (.string (sOf (textL bs))) w) := by
  have k := rhexes_c w h hd hl
  have e : sOf (textL bs) = ⟨#[48, 120]⟩ ++ sOf (hexL bs) := by unfold textL; rw [← sOf_append]; rfl
  have hz : (⟨#[48, 120]⟩ : ByteArray).size = 2 := rfl
  have hz2 : (sOf (hexL bs)).size ≤ 2147483648 := by rw [sOf_size, hexL_len]; omega
  rw [e]
  have HZ : Hid (¬ 9223372036854775807 < (⟨#[48, 120]⟩ : ByteArray).size + (sOf (hexL bs)).size) := by show ¬ _; rw [hz]; omega
  generalize sOf (hexL bs) = S at *
  generalize bs.length = n at *
  have K := Lib.hid k
  clear k e hz hz2 h hd hl
  go_enter Tryd.func38, Tryd.ntmps38
  go_wp2_with fail
  (with_reducible refine K.out.mono ?_)
  rintro e w1 ⟨rfl, hb⟩
  have hz := HZ.out
  clear K HZ
  go_wp2_with fail
  go_ret
  exact ⟨rfl, hb⟩
end Go.Proofs.YtopeahjdglkheaaDoor
namespace Go.Proofs.YtopeahjdglkheaaDoor
open Go.RowKit

/-- How many bytes behind an operation are its own, if it is there. -/
def skipZ (f : Int) (b : Nat) : Nat := if nameZ f b = ⟨#[]⟩ then 0 else ownZ b
/-- A line: the operation b at place i, r behind it. -/
def lineZ (f : Int) (i b : Nat) (r : List Nat) : ByteArray :=
  if nameZ f b = ⟨#[]⟩ then ((sOf (decL i) ++ ⟨#[32]⟩) ++ ⟨#[73, 78, 86, 65, 76, 73, 68, 32]⟩) ++ sOf (textL [b])
  else if 0 < ownZ b then (((sOf (decL i) ++ ⟨#[32]⟩) ++ nameZ f b) ++ ⟨#[32]⟩) ++ sOf (textL (r.take (ownZ b))) else (sOf (decL i) ++ ⟨#[32]⟩) ++ nameZ f b
/-- The lines of a code, from place i on, where s bytes are yet another operation's own. -/
def lst (f : Int) : Nat → Nat → List Nat → List ByteArray
  | _, _, [] => []
  | s + 1, i, _ :: r => lst f s (i + 1) r
  | 0, i, b :: r => lineZ f i b r :: lst f (skipZ f b) (i + 1) r
theorem lst_skip (f : Int) : ∀ (s i : Nat) (l : List Nat), lst f s i l = lst f 0 (i + s) (l.drop s)
  | 0, _, _ => rfl
  | s + 1, i, [] => by simp [lst]
  | s + 1, i, _ :: r => by
    rw [lst, lst_skip f s (i + 1) r, List.drop_succ_cons, show i + 1 + s = i + (s + 1) by omega]
theorem lst_step {f : Int} {i b : Nat} {l r : List Nat} (h : l = b :: r) : lst f 0 i l = lineZ f i b r :: lst f 0 (i + 1 + skipZ f b) (r.drop (skipZ f b)) := by
  rw [h, lst, ← lst_skip f (skipZ f b) (i + 1) r]
theorem lst_len (f : Int) : ∀ (s i : Nat) (l : List Nat), (lst f s i l).length ≤ l.length
  | _, _, [] => by simp [lst]
  | s + 1, i, _ :: r => by rw [lst]; have := lst_len f s (i + 1) r; simp; omega
  | 0, i, b :: r => by
    have := lst_len f (skipZ f b) (i + 1) r
    rw [lst]; simp; omega
def strC (l : List ByteArray) : List Value := l.map Value.string
theorem infoStrC : (Tryd.prog.info? 9).map (fun i => (i.zero, i.size, i.bytes)) = some (some (.string .empty), 1, 16) := by kernel_rfl
/-- A string more behind a row that the call owns. -/
theorem run_append_str (t' : TypeId) {w : World} {base : Nat} {v : Value} {l : List ByteArray} (hown : w.ownsRow base 9 1 v l.length (strC l)) (s : ByteArray) (hl : l.length ≤ 1099511627776) (hb : base ≤ w.heap.size) :
    ∃ v' w', (Builtin.append_ #[39, 39] t' #[v, .slice (some ⟨w.heap.size, 0, none⟩) 1 1]).run Tryd.prog (w.alloc (.cells #[.string s] 9)) = .ok v' w' ∧ w'.ownsRow base 9 1 v' (l ++ [s]).length (strC (l ++ [s])) ∧ (w.alloc (.cells #[.string s] 9)).grownBy w' v.ownBlock := by
  obtain ⟨i0, hi, hz0, hz1, hz2⟩ := info_parts infoStrC
  have hown2 : (w.alloc (.cells #[.string s] 9)).ownsRow base 9 1 v l.length (strC l) := by
    refine ⟨hown.1, ?_⟩
    rcases hown.2 with h | ⟨g, cap, cur, e, hg, hh, r⟩
    · exact .inl h
    · exact .inr ⟨g, cap, cur, e, hg, (Below.heap_alloc _ _ _ (Array.getElem?_eq_some_iff.1 hh).1).trans hh, r⟩
  obtain ⟨v', w', h1, h2, h3, _, _⟩ := run_append_own_at (P := Tryd.prog) (w.alloc (.cells #[.string s] 9)) base 39 t' 9 i0 (.string .empty) 1 16 Tryd.underlying39 hi hz0 hz1 hz2 (by simp [Value.cells]) (by decide) v l.length (strC l) hown2 ⟨w.heap.size, 0, none⟩ 1 1 [.string s] rfl
    (fun j u hj => by
      cases j with
      | zero => simp at hj; subst hj; rw [Addr.add_mid, cell_of_row _ _ 0 _ _ (0, 0) (heap_alloc_new w _)]; rfl
      | succ j => simp at hj) (fun u hu => by rw [List.mem_singleton] at hu; rw [hu]; rfl) (by unfold maxLen; omega) (by omega) (by simp; omega)
  refine ⟨v', w', h1, ?_, h3⟩
  rw [List.length_append, show strC (l ++ [s]) = strC l ++ [.string s] by simp [strC]]
  exact h2
theorem ownS_below {w w' : World} {base n : Nat} {v : Value} {l : List Value} (h : w.ownsRow base 9 1 v n l) (hb : Below w.heap.size w w') : w'.ownsRow base 9 1 v n l := by
  refine ⟨h.1, ?_⟩
  rcases h.2 with h | ⟨g, cap, cur, e, hg, hh, r⟩
  · exact .inl h
  · exact .inr ⟨g, cap, cur, e, hg, (hb.block g (Array.getElem?_eq_some_iff.1 hh).1).trans hh, r⟩
theorem Rd.cdrop {k : IntKind} {w : World} {b o c : Nat} {xs : List Nat} (h : Rd k w (some ⟨b, o, none⟩) c xs) (m : Nat) (hm : m ≤ xs.length) : Rd k w (some ⟨b, o + m, none⟩) (c - m) (xs.drop m) := by
  refine ⟨?_, (fun e => nomatch e), fun h0 => ?_⟩
  · rw [List.length_drop]; have := h.le; omega
  · rw [List.length_drop] at h0
    obtain ⟨b', o', e, hb, hc⟩ := h.at_ (by omega)
    injection e with e; injection e with e1 e2; subst e1 e2
    refine ⟨b, o + m, rfl, hb, fun j hj => ?_⟩
    rw [List.length_drop] at hj
    have := hc (m + j) (by omega)
    rw [show o + (m + j) = o + m + j by omega] at this
    rw [this, List.getD_eq_getElem?_getD, List.getD_eq_getElem?_getD, List.getElem?_drop]
/-- What List tells. -/
def ListR (f : Int) (bs : List Nat) (w : World) (e : Ending) (w' : World) : Prop := ∃ v, e = .returned v ∧ w'.ownsRow w.heap.size 9 1 v (lst f 0 0 bs).length (strC (lst f 0 0 bs)) ∧ Below w.heap.size w w'
theorem ownZ_le (b : Nat) : ownZ b ≤ 32 := by unfold ownZ; split <;> omega

set_option maxRecDepth 100000 in
set_option maxHeartbeats 6400000 in
theorem rlist_c (f : Int) {A : Option Addr} {c : Nat} {bs : List Nat} (w : World) (h : Rd .u8 w A c bs) (hd : Ds 256 bs) (hl : bs.length ≤ 100000000) : Calls Tryd.prog 21 #[.int .i64 f, .slice A bs.length c] w (ListR f bs w) := by
  obtain ⟨n, hn⟩ : ∃ n, n = bs.length := ⟨_, rfl⟩
  rw [← hn] at hl ⊢
  have HN := Lib.hid hn
  have HR := Lib.hid h
  have HD := Lib.hid hd
  have HL := Lib.hid hl
  clear hn h hd hl
  go_enter Tryd.func21, Tryd.ntmps21
  go_wp2_with fail
  go_loopw [5, 6] (fun v i wr => ∃ (m : Nat) (out : List ByteArray), m ≤ n + 40 ∧ i = .int .i64 (m : Nat) ∧ Hid (wr.ownsRow w.heap.size 9 1 v out.length (strC out)) ∧ Hid (out ++ lst f 0 m (bs.drop m) = lst f 0 0 bs) ∧ Hid (Below w.heap.size w wr)) (fun _ i _ => n + 40 - (intOf i).toNat)
  case atStart => exact ⟨0, [], by omega, rfl, Lib.hid ⟨rfl, .inl ⟨rfl, rfl⟩⟩, Lib.hid rfl, Lib.hid (Below.refl _ _)⟩
  case round =>
    obtain ⟨m, out, hm, rfl, HOWN, hst, HB⟩ := hrel
    by_cases h0 : m < n
    · have hnl := HN.out
      have hL := HL.out
      obtain ⟨b, hb⟩ : ∃ b, bs[m]? = some b := ⟨_, List.getElem?_eq_getElem (by omega)⟩
      have hb256 : b < 256 := HD.out b (List.mem_of_getElem? hb)
      obtain ⟨bb, oo, rfl, hlt, hcell⟩ := HR.out.at_ (by omega)
      have hc0 := hcell m (by omega)
      rw [show bs.getD m 0 = b by rw [List.getD_eq_getElem?_getD, hb]; rfl] at hc0
      have hcw := (HB.out.cell (p := ⟨bb, oo + m, none⟩) hlt).trans hc0
      have hdr : bs.drop m = b :: bs.drop (m + 1) := by
        rw [List.drop_eq_getElem_cons (by omega)]
        rw [List.getElem?_eq_getElem (by omega)] at hb
        injection hb with hb
        rw [hb]
      have hst := hst.out
      rw [lst_step hdr, List.drop_drop] at hst
      have hcap := HR.out.le
      have HOL : Hid (out.length ≤ 1099511627776) := by
        have h1 := congrArg List.length hst
        have h2 := lst_len f 0 0 bs
        simp only [List.length_append] at h1
        show out.length ≤ _
        omega
      have HSK : Hid (skipZ f b ≤ 32) := by show _ ≤ _; unfold skipZ; split; omega; exact ownZ_le b
      have hst2 : (out ++ [lineZ f m b (bs.drop (m + 1))]) ++ lst f 0 (m + 1 + skipZ f b) (bs.drop (m + 1 + skipZ f b)) = lst f 0 0 bs := by rw [List.append_assoc]; exact hst
      have HNX := Lib.hid hst2
      have HBN := Lib.hid (And.intro hlt hc0)
      have KD : Hid (Calls Tryd.prog 26 #[.int .i64 (m : Nat)] wr (RetV (.string (sOf (decL m))) wr)) := rdigits_c m (by omega) wr
      have hds : (sOf (decL m)).size ≤ 10 := by rw [sOf_size]; exact decF_len 9 m
      obtain ⟨D, hD⟩ : ∃ D, D = sOf (decL m) := ⟨_, rfl⟩
      have hsp : (⟨#[32]⟩ : ByteArray).size = 1 := rfl
      have hns := nameZ_size f b
      obtain ⟨N, hN⟩ : ∃ N, N = nameZ f b := ⟨_, rfl⟩
      have KN : Hid (∀ u, Calls Tryd.prog 30 #[.int .i64 f, .int .i64 (b : Nat)] u (RetV (.string N) u)) := fun u => by rw [hN]; exact rname_c f b u
      rw [← hD] at KD hds
      rw [← hN] at hns
      have hz1 : ¬ 9223372036854775807 < D.size + (⟨#[32]⟩ : ByteArray).size := by rw [hsp]; omega
      have e8 : IntKind.i64.wrap (b : Int) = (b : Int) := IntWalk.i64_in _ (by omega)
      have HMN := Lib.hid h0
      have HCAP := Lib.hid hcap
      have h0i : (m : Int) < (n : Int) := by omega
      obtain ⟨T1, hT1⟩ : ∃ T1, T1 = D ++ ⟨#[32]⟩ := ⟨_, rfl⟩
      have hT1s : T1.size ≤ 11 := by rw [hT1, ByteArray.size_append, hsp]; omega
      have HLN : Hid (lineZ f m b (bs.drop (m + 1)) = if N = ⟨#[]⟩ then (T1 ++ ⟨#[73, 78, 86, 65, 76, 73, 68, 32]⟩) ++ sOf (textL [b]) else if 0 < ownZ b then ((T1 ++ N) ++ ⟨#[32]⟩) ++ sOf (textL ((bs.drop (m + 1)).take (ownZ b))) else T1 ++ N) := by
        show _ = _
        rw [hT1, hD, hN]; rfl
      have HSKE : Hid (skipZ f b = if N = ⟨#[]⟩ then 0 else ownZ b) := by show _ = _; rw [hN]; rfl
      have HT1S := Lib.hid hT1s
      have HNS := Lib.hid hns
      have HB256 := Lib.hid hb256
      have HDR := Lib.hid hdr
      have HT1 := Lib.hid hT1.symm
      clear hnl hL hst hst2 hdr hb hc0 hcell hlt hcap hds hsp hns hD hN hT1 hT1s hb256 h0
      go_wp2_with fail
      (with_reducible refine KD.out.mono ?_)
      rintro e w1 ⟨rfl, hb1⟩
      have HB1 := Lib.hid (HB.out.trans (hb1.mono HB.out.size))
      have HOWN1 := Lib.hid (ownS_below HOWN.out hb1)
      have hcw := (HB1.out.cell (p := ⟨bb, oo + m, none⟩) HBN.out.1).trans HBN.out.2
      clear KD hb1 HB HOWN
      go_wp2_with fail
      rw [show D ++ (⟨#[32]⟩ : ByteArray) = T1 from HT1.out]
      (with_reducible refine (KN.out _).mono ?_)
      rintro e w2 ⟨rfl, hb2⟩
      have HB2 := Lib.hid (HB1.out.trans (hb2.mono HB1.out.size))
      have HOWN2 := Lib.hid (ownS_below HOWN1.out hb2)
      have hcw := (HB2.out.cell (p := ⟨bb, oo + m, none⟩) HBN.out.1).trans HBN.out.2
      clear KN hb2 HB1 HOWN1 hz1
      by_cases hNE : N = ⟨#[]⟩
      · have he := cstr_none hNE
        have hln := HLN.out
        rw [if_pos hNE] at hln
        have hsk := HSKE.out
        rw [if_pos hNE] at hsk
        rw [hln, hsk] at HNX
        have hz2 : ¬ 9223372036854775807 < T1.size + (⟨#[73, 78, 86, 65, 76, 73, 68, 32]⟩ : ByteArray).size := by
          rw [show (⟨#[73, 78, 86, 65, 76, 73, 68, 32]⟩ : ByteArray).size = 8 from rfl]; have := HT1S.out; omega
        clear hln hsk hNE HLN HSKE
        have j0 : (0 : Int) ≤ (m : Int) := by omega
        have j1 : (m : Int) + 1 ≤ (c : Int) := by have := HCAP.out; have := HN.out; have := HMN.out; omega
        have j2 : IntKind.i64.wrap ((m : Int) + 1) = (m : Int) + 1 := IntWalk.i64_in _ (by have := HL.out; have := HMN.out; omega)
        have j3 : (m : Int) ≤ (m : Int) + 1 := by omega
        have KT : Hid (Calls Tryd.prog 38 #[.slice (some ⟨bb, oo + m, none⟩) 1 (c - m)] w2 (RetV (.string (sOf (textL [b]))) w2)) := by
          have h1 := (((HR.out.below HB2.out)).cdrop m (by have := HN.out; have := HMN.out; omega)).take 1 (by rw [List.length_drop]; have := HN.out; have := HMN.out; omega)
          rw [HDR.out] at h1
          exact rtext_c (bs := [b]) w2 h1 (fun x hx => by rw [List.mem_singleton] at hx; rw [hx]; exact HB256.out) (by simp)
        obtain ⟨X, hX⟩ : ∃ X, X = sOf (textL [b]) := ⟨_, rfl⟩
        have hxs : X.size ≤ 4 := by rw [hX, sOf_size, textL, List.length_append, hexL_len]; simp
        rw [← hX] at KT HNX
        obtain ⟨T2, hT2⟩ : ∃ T2, T2 = T1 ++ (⟨#[73, 78, 86, 65, 76, 73, 68, 32]⟩ : ByteArray) := ⟨_, rfl⟩
        have hT2s : T2.size ≤ 19 := by rw [hT2, ByteArray.size_append, show (⟨#[73, 78, 86, 65, 76, 73, 68, 32]⟩ : ByteArray).size = 8 from rfl]; have := HT1S.out; omega
        have hz3 : ¬ 9223372036854775807 < T2.size + X.size := by omega
        obtain ⟨LL, hLL⟩ : ∃ LL, LL = T2 ++ X := ⟨_, rfl⟩
        rw [← hT2, ← hLL] at HNX
        have HT2 := Lib.hid hT2.symm
        have HLL := Lib.hid hLL.symm
        clear hX hxs hT2 hT2s hLL
        go_wp2_with fail
        rw [show T1 ++ (⟨#[73, 78, 86, 65, 76, 73, 68, 32]⟩ : ByteArray) = T2 from HT2.out]
        (with_reducible refine KT.out.mono ?_)
        rintro e w3 ⟨rfl, hb3⟩
        have HB3 := Lib.hid (HB2.out.trans (hb3.mono HB2.out.size))
        have HOWN3 := Lib.hid (ownS_below HOWN2.out hb3)
        clear KT hb3 HB2 HOWN2 hcw
        go_upto_region 16 with (fail)
        rw [show T2 ++ X = LL from HLL.out]
        obtain ⟨v', w9, happ, hown, hgr⟩ := run_append_str 39 (HOWN3).out LL HOL.out HB3.out.size
        have hb1 : Below w.heap.size w w9 := (HB3.out.alloc HB3.out.size (.cells #[.string LL] 9)).grown hgr (by have := HB3.out.size; simp; omega) (fun k hk => by
          rcases (HOWN3).out.2 with ⟨e, _⟩ | ⟨g, cap, cur, e, hg, _⟩
          · rw [e] at hk; simp [Value.ownBlock] at hk
          · rw [e] at hk; simp [Value.ownBlock] at hk; omega)
        have HAPP := Lib.hid happ
        have HOWN9 := Lib.hid hown
        have HB9 := Lib.hid hb1
        clear happ hown hgr hb1
        go_wp2_with (at_builtin; refine cd_append_run rfl (.tmp 65) (.tmp 67) 39 rfl HAPP.out ?_)
        clear HAPP
        go_wp2_with fail
        go_roundw
        case rel => exact ⟨m + 1 + 0, out ++ [LL], by have := HMN.out; omega, by first | rfl | go_num, HOWN9, HNX, HB9⟩
        case measure => have := HMN.out; simp [intOf]; omega
      · have he := cstr_some hNE
        obtain ⟨k, hk⟩ : ∃ k, k = ownZ b := ⟨_, rfl⟩
        have hln := HLN.out
        rw [if_neg hNE, ← hk] at hln
        have hsk := HSKE.out
        rw [if_neg hNE, ← hk] at hsk
        rw [hln, hsk] at HNX
        have hk32 : k ≤ 32 := by rw [hk]; exact ownZ_le b
        have KW : Hid (∀ v, Calls Tryd.prog 34 #[.int .u8 (b : Nat)] v (fun e w' => e = .returned (.int .i64 (k : Nat)) ∧ w' = v)) := fun v => by rw [hk]; exact rown_c b HB256.out v
        obtain ⟨T2, hT2⟩ : ∃ T2, T2 = T1 ++ N := ⟨_, rfl⟩
        have hT2s : T2.size ≤ 111 := by rw [hT2, ByteArray.size_append]; have := HT1S.out; have := HNS.out; omega
        have hz2 : ¬ 9223372036854775807 < T1.size + N.size := by have := HT1S.out; have := HNS.out; omega
        rw [← hT2] at HNX
        have HT2 := Lib.hid hT2.symm
        have HSK2 := Lib.hid hsk
        clear hln hsk hNE HLN HSKE hk hT2
        by_cases hk0 : 0 < k
        · have k0 : (0 : Int) < (k : Int) := by omega
          rw [if_pos hk0] at HNX
          have j0 : (0 : Int) ≤ (m : Int) := by omega
          have j1 : (m : Int) + 1 ≤ (c : Int) := by have := HCAP.out; have := HN.out; have := HMN.out; omega
          have j2 : IntKind.i64.wrap ((m : Int) + 1) = (m : Int) + 1 := IntWalk.i64_in _ (by have := HL.out; have := HMN.out; omega)
          obtain ⟨en, hen⟩ : ∃ en, en = m + 1 + k := ⟨_, rfl⟩
          have j3 : IntKind.i64.wrap ((m : Int) + 1 + (k : Int)) = (en : Int) := by rw [IntWalk.i64_in _ (by have := HL.out; have := HMN.out; omega)]; omega
          obtain ⟨ys, hys⟩ : ∃ ys, ys = (bs.drop (m + 1)).take k := ⟨_, rfl⟩
          have hyl : ys.length ≤ 32 := by rw [hys, List.length_take]; omega
          have hyd : Ds 256 ys := fun x hx => HD.out x (List.mem_of_mem_drop (List.mem_of_mem_take (hys ▸ hx)))
          rw [← hys] at HNX
          have hyn : ys.length = min k (n - (m + 1)) := by rw [hys, List.length_take, List.length_drop, HN.out]
          have HYS := Lib.hid hys
          have HYD := Lib.hid hyd
          obtain ⟨X, hX⟩ : ∃ X, X = sOf (textL ys) := ⟨_, rfl⟩
          have hxs : X.size ≤ 66 := by rw [hX, sOf_size, textL, List.length_append, hexL_len]; simp; omega
          rw [← hX] at HNX
          obtain ⟨T3, hT3⟩ : ∃ T3, T3 = T2 ++ (⟨#[32]⟩ : ByteArray) := ⟨_, rfl⟩
          have hz3 : ¬ 9223372036854775807 < T2.size + (⟨#[32]⟩ : ByteArray).size := by rw [show (⟨#[32]⟩ : ByteArray).size = 1 from rfl]; omega
          have hT3s : T3.size ≤ 112 := by rw [hT3, ByteArray.size_append, show (⟨#[32]⟩ : ByteArray).size = 1 from rfl]; omega
          have hz4 : ¬ 9223372036854775807 < T3.size + X.size := by omega
          obtain ⟨LL, hLL⟩ : ∃ LL, LL = T3 ++ X := ⟨_, rfl⟩
          rw [← hT3, ← hLL] at HNX
          have HT3 := Lib.hid hT3.symm
          have HLL := Lib.hid hLL.symm
          have HX := Lib.hid hX
          have HYL := Lib.hid hyl
          have HYN := Lib.hid hyn
          have HEN := Lib.hid hen
          have HK32 := Lib.hid hk32
          have HK0 := Lib.hid hk0
          clear hys hyl hyd hyn hX hxs hT3 hT3s hT2s hLL hen hk32 hk0
          by_cases hlong : n < en
          · have j4 : (n : Int) < (en : Int) := by omega
            by_cases hcm : c = m + 1
            · have j5 : (c : Int) = (m : Int) + 1 := by omega
              have j6 : (n : Int) = (m : Int) + 1 := by have := HCAP.out; have := HN.out; have := HMN.out; omega
              have HCM := Lib.hid hcm
              clear hcm
              go_wp2_with fail
              rw [show T1 ++ N = T2 from HT2.out]
              (with_reducible refine (KW.out _).mono ?_)
              rintro e w3 ⟨rfl, rfl⟩
              go_wp2_with fail
              clear KW
              have KT : Hid (Calls Tryd.prog 38 #[.slice (some ⟨bb, oo, none⟩) 0 (c - (m + 1))] w3 (RetV (.string X) w3)) := by
                have hy0 : ys = [] := by
                  have := HYN.out
                  have := HN.out
                  exact List.eq_nil_of_length_eq_zero (by omega)
                rw [HX.out, hy0]
                exact rtext_c (A := some ⟨bb, oo, none⟩) (c := c - (m + 1)) (bs := []) w3 ⟨Nat.zero_le _, (fun e => nomatch e), fun h => by simp at h⟩ (fun x hx => by cases hx) (by simp)
              have hcw1 := hcw
              rw [show T2 ++ (⟨#[32]⟩ : ByteArray) = T3 from HT3.out]
              (with_reducible refine KT.out.mono ?_)
              rintro e w4 ⟨rfl, hb4⟩
              have HB4 := Lib.hid (HB2.out.trans (hb4.mono HB2.out.size))
              have HOWN4 := Lib.hid (ownS_below HOWN2.out hb4)
              clear KT hb4 HB2 HOWN2 hcw hcw1 j4 j5 j6
              go_upto_region 16 with (fail)
              rw [show T3 ++ X = LL from HLL.out]
              obtain ⟨v', w9, happ, hown, hgr⟩ := run_append_str 39 (HOWN4).out LL HOL.out HB4.out.size
              have hb1 : Below w.heap.size w w9 := (HB4.out.alloc HB4.out.size (.cells #[.string LL] 9)).grown hgr (by have := HB4.out.size; simp; omega) (fun k hk => by
                rcases (HOWN4).out.2 with ⟨e, _⟩ | ⟨g, cap, cur, e, hg, _⟩
                · rw [e] at hk; simp [Value.ownBlock] at hk
                · rw [e] at hk; simp [Value.ownBlock] at hk; omega)
              have HAPP := Lib.hid happ
              have HOWN9 := Lib.hid hown
              have HB9 := Lib.hid hb1
              clear happ hown hgr hb1
              go_wp2_with (at_builtin; refine cd_append_run rfl (.tmp 65) (.tmp 67) 39 rfl HAPP.out ?_)
              clear HAPP
              go_wp2_with fail
              go_roundw
              case rel => exact ⟨en, out ++ [LL], by have := HEN.out; have := HMN.out; have := HK32.out; omega, rfl, HOWN9, by rw [HEN.out]; exact HNX, HB9⟩
              case measure => have := HMN.out; have := HEN.out; simp [intOf]; omega

            · have j5 : (m : Int) + 1 < (c : Int) := by omega
              have j6 : (m : Int) + 1 ≤ (n : Int) := by have := HMN.out; omega
              have j7 : (n : Int) ≤ (c : Int) := by have := HCAP.out; have := HN.out; omega
              go_wp2_with fail
              rw [show T1 ++ N = T2 from HT2.out]
              (with_reducible refine (KW.out _).mono ?_)
              rintro e w3 ⟨rfl, rfl⟩
              go_wp2_with fail
              clear KW
              have KT : Hid (Calls Tryd.prog 38 #[.slice (some ⟨bb, oo + (m + 1), none⟩) (n - (m + 1)) (c - (m + 1))] w3 (RetV (.string X) w3)) := by
                have h1 := (HR.out.below HB2.out).cdrop (m + 1) (by have := HN.out; have := HMN.out; omega)
                have h2 : bs.drop (m + 1) = ys := by rw [HYS.out, List.take_of_length_le]; rw [List.length_drop]; have := HN.out; have := HEN.out; omega
                rw [h2] at h1
                have h3 := rtext_c w3 h1 HYD.out (by have := HYL.out; omega)
                rw [HX.out]
                rw [show ys.length = n - (m + 1) by have := HYN.out; have := HEN.out; omega] at h3
                exact h3
              have hcw1 := hcw
              rw [show T2 ++ (⟨#[32]⟩ : ByteArray) = T3 from HT3.out]
              (with_reducible refine KT.out.mono ?_)
              rintro e w4 ⟨rfl, hb4⟩
              have HB4 := Lib.hid (HB2.out.trans (hb4.mono HB2.out.size))
              have HOWN4 := Lib.hid (ownS_below HOWN2.out hb4)
              clear KT hb4 HB2 HOWN2 hcw hcw1
              go_upto_region 16 with (fail)
              rw [show T3 ++ X = LL from HLL.out]
              obtain ⟨v', w9, happ, hown, hgr⟩ := run_append_str 39 (HOWN4).out LL HOL.out HB4.out.size
              have hb1 : Below w.heap.size w w9 := (HB4.out.alloc HB4.out.size (.cells #[.string LL] 9)).grown hgr (by have := HB4.out.size; simp; omega) (fun k hk => by
                rcases (HOWN4).out.2 with ⟨e, _⟩ | ⟨g, cap, cur, e, hg, _⟩
                · rw [e] at hk; simp [Value.ownBlock] at hk
                · rw [e] at hk; simp [Value.ownBlock] at hk; omega)
              have HAPP := Lib.hid happ
              have HOWN9 := Lib.hid hown
              have HB9 := Lib.hid hb1
              clear happ hown hgr hb1
              go_wp2_with (at_builtin; refine cd_append_run rfl (.tmp 65) (.tmp 67) 39 rfl HAPP.out ?_)
              clear HAPP
              go_wp2_with fail
              go_roundw
              case rel => exact ⟨en, out ++ [LL], by have := HEN.out; have := HMN.out; have := HK32.out; omega, rfl, HOWN9, by rw [HEN.out]; exact HNX, HB9⟩
              case measure => have := HMN.out; have := HEN.out; simp [intOf]; omega

          · have j4 : ¬ (n : Int) < (en : Int) := by omega
            have j5 : (m : Int) + 1 < (c : Int) := by have := HCAP.out; have := HN.out; have := HEN.out; have := HK0.out; omega
            have j6 : (m : Int) + 1 ≤ (en : Int) := by have := HEN.out; omega
            have j7 : (en : Int) ≤ (c : Int) := by have := HCAP.out; have := HN.out; omega
            go_wp2_with fail
            rw [show T1 ++ N = T2 from HT2.out]
            (with_reducible refine (KW.out _).mono ?_)
            rintro e w3 ⟨rfl, rfl⟩
            go_wp2_with fail
            clear KW
            have KT : Hid (Calls Tryd.prog 38 #[.slice (some ⟨bb, oo + (m + 1), none⟩) (en - (m + 1)) (c - (m + 1))] w3 (RetV (.string X) w3)) := by
              have h1 := ((HR.out.below HB2.out).cdrop (m + 1) (by have := HN.out; have := HMN.out; omega)).take k (by rw [List.length_drop]; have := HN.out; have := HEN.out; omega)
              rw [← HYS.out] at h1
              have h3 := rtext_c w3 h1 HYD.out (by have := HYL.out; omega)
              rw [HX.out]
              rw [show ys.length = en - (m + 1) by have := HYN.out; have := HEN.out; omega] at h3
              exact h3
            have hcw1 := hcw
            rw [show T2 ++ (⟨#[32]⟩ : ByteArray) = T3 from HT3.out]
            (with_reducible refine KT.out.mono ?_)
            rintro e w4 ⟨rfl, hb4⟩
            have HB4 := Lib.hid (HB2.out.trans (hb4.mono HB2.out.size))
            have HOWN4 := Lib.hid (ownS_below HOWN2.out hb4)
            clear KT hb4 HB2 HOWN2 hcw hcw1
            go_upto_region 16 with (fail)
            rw [show T3 ++ X = LL from HLL.out]
            obtain ⟨v', w9, happ, hown, hgr⟩ := run_append_str 39 (HOWN4).out LL HOL.out HB4.out.size
            have hb1 : Below w.heap.size w w9 := (HB4.out.alloc HB4.out.size (.cells #[.string LL] 9)).grown hgr (by have := HB4.out.size; simp; omega) (fun k hk => by
              rcases (HOWN4).out.2 with ⟨e, _⟩ | ⟨g, cap, cur, e, hg, _⟩
              · rw [e] at hk; simp [Value.ownBlock] at hk
              · rw [e] at hk; simp [Value.ownBlock] at hk; omega)
            have HAPP := Lib.hid happ
            have HOWN9 := Lib.hid hown
            have HB9 := Lib.hid hb1
            clear happ hown hgr hb1
            go_wp2_with (at_builtin; refine cd_append_run rfl (.tmp 65) (.tmp 67) 39 rfl HAPP.out ?_)
            clear HAPP
            go_wp2_with fail
            go_roundw
            case rel => exact ⟨en, out ++ [LL], by have := HEN.out; have := HMN.out; have := HK32.out; omega, rfl, HOWN9, by rw [HEN.out]; exact HNX, HB9⟩
            case measure => have := HMN.out; have := HEN.out; simp [intOf]; omega

        · obtain rfl : k = 0 := by omega
          rw [if_neg hk0] at HNX
          clear hk0 hk32 hT2s
          have j2 : IntKind.i64.wrap ((m : Int) + 1) = (m : Int) + 1 := IntWalk.i64_in _ (by have := HL.out; have := HMN.out; omega)
          go_wp2_with fail
          rw [show T1 ++ N = T2 from HT2.out]
          (with_reducible refine (KW.out _).mono ?_)
          rintro e w3 ⟨rfl, rfl⟩
          clear KW hcw
          go_upto_region 16 with (fail)
          obtain ⟨v', w9, happ, hown, hgr⟩ := run_append_str 39 (HOWN2).out T2 HOL.out HB2.out.size
          have hb1 : Below w.heap.size w w9 := (HB2.out.alloc HB2.out.size (.cells #[.string T2] 9)).grown hgr (by have := HB2.out.size; simp; omega) (fun k hk => by
            rcases (HOWN2).out.2 with ⟨e, _⟩ | ⟨g, cap, cur, e, hg, _⟩
            · rw [e] at hk; simp [Value.ownBlock] at hk
            · rw [e] at hk; simp [Value.ownBlock] at hk; omega)
          have HAPP := Lib.hid happ
          have HOWN9 := Lib.hid hown
          have HB9 := Lib.hid hb1
          clear happ hown hgr hb1
          go_wp2_with (at_builtin; refine cd_append_run rfl (.tmp 65) (.tmp 67) 39 rfl HAPP.out ?_)
          clear HAPP
          go_wp2_with fail
          go_roundw
          case rel => exact ⟨m + 1 + 0, out ++ [T2], by have := HMN.out; omega, by first | rfl | go_num, HOWN9, HNX, HB9⟩
          case measure => have := HMN.out; simp [intOf]; omega

    · have hj : out = lst f 0 0 bs := by
        have h1 := hst.out
        rw [List.drop_eq_nil_of_le (by have := HN.out; omega), lst, List.append_nil] at h1
        exact h1
      subst hj
      have h0i : ¬ (m : Int) < (n : Int) := by omega
      clear hst h0
      go_wp2_with fail
      exact bodyPost_ret (v := u5) (by simp [results, Tryd.results21, go_sem]) rfl ⟨u5, rfl, HOWN.out, HB.out⟩
end Go.Proofs.YtopeahjdglkheaaDoor
