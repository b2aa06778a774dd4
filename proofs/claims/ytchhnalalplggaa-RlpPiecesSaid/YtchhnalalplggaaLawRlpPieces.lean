/- The law RlpPieces. -/
import Derived.Test.YtchhnalalplggaaRlAccG
import Derived.Test.YtchhnalalplggaaRlEncode
import Derived.Test.YtchhnalalplggaaLawRlpSplit
import Derived.Test.YtchhnalalplggaaRlWakes
import Derived.Test.YtchhnalalplggaaRlDs
import Derived.Test.YtchhnalalplggaaRlMath
import Derived.Deep.QuietTactic
import Derived.BigQuiet
namespace Go.Proofs.Ytchhnalalplggaa
open Go.RowKit

section
variable {ops : Array Oper} {T : Facts} {o : Oper} {a : Act} {w : World}
theorem op_neE {z : Int} (x y : Operand) (t : TypeId) (ho : o.op = .binOp .neq 28 x y t) (hx : a.eval x = .int .i64 z) (hy : a.eval y = .int .i64 z) (hw : Region.wanted o (yielded ops a.tmps) = true) (hf : factTo T o.dst (.bool false) w) : relStep Try.prog ops T o a w :=
  relStep_val (.bool false) hw hf (by
    unfold execOp
    rw [ho]
    simp only [hx, hy]
    go_simp)
theorem op_notP {b : Bool} (x : Operand) (t : TypeId) (ho : o.op = .unOp .not t x) (hx : a.eval x = .bool b) (hw : Region.wanted o (yielded ops a.tmps) = true) (hf : factTo T o.dst (.bool (!b)) w) : relStep Try.prog ops T o a w :=
  relStep_val (.bool (!b)) hw hf (by
    unfold execOp
    rw [ho]
    simp only [hx]
    go_simp)
theorem wanted_not {g t : Nat} {b c : Bool} (h : o.guard = some (g, b)) (hg : (ops[g]?).bind (·.dst) = some t) (hv : a.tmps.getD t undef = .bool c) (hbc : b ≠ c) : Region.wanted o (yielded ops a.tmps) = false := by
  unfold Region.wanted
  rw [h]
  have : a.tmps[t]? = some (.bool c) := by
    rw [Array.getD_eq_getD_getElem?] at hv
    cases hx : a.tmps[t]? with
    | none => rw [hx] at hv; simp [undef] at hv
    | some v => rw [hx] at hv; simp at hv; rw [hv]
  cases b <;> cases c <;> first | exact absurd rfl hbc | simp [yielded, hg, this]
end
section
variable {ops : Array Oper} {T : Facts} {o : Oper} {a : Act} {w : World}
theorem op_indexI {g off K c j : Nat} (x y : Operand) (ho : o.op = .indexAddr 23 x y) (hj : j < K) (hx : a.eval x = .slice (some ⟨g, off, none⟩) K c) (hy : a.eval y = .int .i64 (j : Nat)) (hw : Region.wanted o (yielded ops a.tmps) = true) (hf : factTo T o.dst (.pointer (some ⟨g, off + j * 3, none⟩)) w) : relStep Try.prog ops T o a w :=
  relStep_val (.pointer (some ⟨g, off + j * 3, none⟩)) hw hf (by
    have h1 : (j : Int) < (K : Int) := by omega
    have h0 : (0 : Int) ≤ (j : Int) := by omega
    clear hj
    unfold execOp
    rw [ho]
    simp only [hx, hy]
    go_simp)
theorem op_field0 {g k : Nat} (x : Operand) (ho : o.op = .fieldAddr 25 x 0) (hx : a.eval x = .pointer (some ⟨g, k, none⟩)) (hw : Region.wanted o (yielded ops a.tmps) = true) (hf : factTo T o.dst (.pointer (some ⟨g, k, none⟩)) w) : relStep Try.prog ops T o a w :=
  relStep_val (.pointer (some ⟨g, k, none⟩)) hw hf (by
    unfold execOp
    rw [ho]
    simp only [hx]
    go_simp)
theorem op_field1 {g k : Nat} (x : Operand) (ho : o.op = .fieldAddr 25 x 1) (hx : a.eval x = .pointer (some ⟨g, k, none⟩)) (hw : Region.wanted o (yielded ops a.tmps) = true) (hf : factTo T o.dst (.pointer (some ⟨g, k + 1, none⟩)) w) : relStep Try.prog ops T o a w :=
  relStep_val (.pointer (some ⟨g, k + 1, none⟩)) hw hf (by
    unfold execOp
    rw [ho]
    simp only [hx]
    go_simp)
theorem op_neS {s : ByteArray} (x y : Operand) (t : TypeId) (ho : o.op = .binOp .neq 9 x y t) (hx : a.eval x = .string s) (hy : a.eval y = .string s) (hw : Region.wanted o (yielded ops a.tmps) = true) (hf : factTo T o.dst (.bool false) w) : relStep Try.prog ops T o a w :=
  relStep_val (.bool false) hw hf (by
    unfold execOp
    rw [ho]
    simp only [hx, hy]
    go_simp)
theorem op_lenB {A : Option Addr} {n c : Nat} (x : Operand) (ho : o.op = .call { callee := .builtin .len, args := #[x], argTypes := #[22] }) (hx : a.eval x = .slice A n c) (hw : Region.wanted o (yielded ops a.tmps) = true) (hf : factTo T o.dst (.int .i64 (n : Nat)) w) : relStep Try.prog ops T o a w :=
  relStep_val (.int .i64 (n : Nat)) hw hf (by
    clear hw hf
    generalize a.eval = p at *
    unfold execOp
    rw [ho]
    go_simp)
theorem op_from {g off oF n c F : Nat} (x y : Operand) (ho : o.op = .slice 22 x (some y) none none) (hF : F ≤ n) (hn : n ≤ c) (hoF : oF = if c = F then off else off + F) (hx : a.eval x = .slice (some ⟨g, off, none⟩) n c) (hy : a.eval y = .int .i64 (F : Nat)) (hw : Region.wanted o (yielded ops a.tmps) = true) (hf : factTo T o.dst (.slice (some ⟨g, oF, none⟩) (n - F) (c - F)) w) : relStep Try.prog ops T o a w :=
  relStep_val (.slice (some ⟨g, oF, none⟩) (n - F) (c - F)) hw hf (by
    have h1 : (F : Int) ≤ (n : Int) := by omega
    have h2 : (n : Int) ≤ (c : Int) := by omega
    have h3 : (0 : Int) ≤ (F : Int) := by omega
    have h4 : (F : Int) ≤ (c : Int) := by omega
    by_cases hc : c = F
    · rw [if_pos hc] at hoF
      subst hoF
      clear hF hn hw hf
      generalize a.eval = p at *
      unfold execOp
      rw [ho]
      go_simp
    · rw [if_neg hc] at hoF
      subst hoF
      clear hF hn hw hf
      generalize a.eval = p at *
      unfold execOp
      rw [ho]
      go_simp)
end
def twJ (x : Itm) : Itm := (twI 20 x 200).1
theorem twJ_sz (x : Itm) : fsz (twJ x) ≤ 81800 ∧ okN (twJ x) 1023 = true := by
  have h1 := twI_sz 20 x 200 (by omega) (by omega)
  have h2 := twI_ok 20 1002 x 200
  unfold twJ
  exact ⟨by omega, h2⟩
theorem psz_twJ : ∀ xs : List Itm, psz (xs.map twJ) ≤ 81800 * xs.length
  | [] => by simp [psz]
  | x :: xs => by
    have := psz_twJ xs
    have := (twJ_sz x).1
    simp only [List.map_cons, psz, List.length_cons]; omega
theorem okL_twJ : ∀ xs : List Itm, okL (xs.map twJ) 1023 = true
  | [] => by simp [okL]
  | x :: xs => by simp only [List.map_cons, okL, (twJ_sz x).2, okL_twJ xs, Bool.and_true]
theorem okN_mono : ∀ (x : Itm) (n : Nat), okN x n = true → okN x (n + 1) = true := Itm.ind fun l bs xs ih n h => by
  cases l with
  | false => exact okN_text _ _ _
  | true =>
    cases n with
    | zero => rw [okN.eq_def] at h; exact absurd h (by simp)
    | succ n =>
      rw [okN_list] at h ⊢
      revert ih h
      clear bs
      induction xs with
      | nil => intro _ _; simp [okL]
      | cons y ys ihl =>
        intro ih h
        simp only [okL, Bool.and_eq_true] at h ⊢
        exact ⟨ih 0 y rfl n h.1, ihl (fun j x hj => ih (j + 1) x (by simpa using hj)) h.2⟩
theorem formL_snoc : ∀ (xs : List Itm) (y : Itm), formL (xs ++ [y]) = formL xs ++ form y
  | [], y => by simp [formL]
  | x :: xs, y => by simp only [List.cons_append, formL, formL_snoc xs y, List.append_assoc]
theorem formL_append : ∀ (xs ys : List Itm), formL (xs ++ ys) = formL xs ++ formL ys
  | [], ys => by simp [formL]
  | x :: xs, ys => by simp only [List.cons_append, formL, formL_append xs ys, List.append_assoc]
/-- A form, and what is behind it. -/
theorem fst_form (l : Bool) (bs : List Nat) (zs : List Itm) (r : List Nat) (h : fsz (.mk l bs zs) ≤ 16777216) : fstS (form (.mk l bs zs) ++ r) = some (l, if l = true then formL zs else bs, r) := by
  rw [fsz] at h
  rw [form]
  cases l with
  | true =>
    rw [if_pos rfl, if_pos rfl]
    rw [if_pos rfl] at h
    have := fstS_list (formL zs) r (by rw [formL_len]; omega)
    rwa [formL_len] at this
  | false =>
    rw [if_neg (by simp), if_neg (by simp)]
    rw [if_neg (by simp)] at h
    have hb : bs.length ≤ 16777216 := by
      unfold tsz at h
      split at h
      · rename_i hb
        unfold bareB at hb
        simp at hb
        omega
      · omega
    exact fstS_text bs r (by omega)

set_option maxRecDepth 100000 in
set_option maxHeartbeats 6400000 in
theorem rlpPieces_c {B : Option Addr} {m cap b off : Nat} {u : Nat → Value} {xs : List Itm} (w : World) (hxl : xs.length = m) (hB : 0 < m → B = some ⟨b, off, none⟩ ∧ b < w.heap.size)
    (hu : ∀ j, j < 3 * m → w.cell? ⟨b, off + j, none⟩ = some (u j)) (hx : ∀ (j : Nat) (x : Itm), xs[j]? = some x → IAt (fun g => g < w.heap.size) w (.agg #[u (3 * j), u (3 * j + 1), u (3 * j + 2)]) x) :
    Calls Try.prog 7 #[.slice B m cap] w (RetV (.bool true) w) := by
  obtain ⟨i0, hi, hz0, hz1, hz2⟩ : ∃ i, Try.prog.info? 5 = some i ∧ i.zero = some (.int .u8 0) ∧ i.size = 1 ∧ i.bytes = 1 := info_parts info8
  obtain ⟨i1, ki, kz0, kz1, kz2⟩ : ∃ i, Try.prog.info? 25 = some i ∧ i.zero = some (.agg #[.bool false, .slice none 0 0, .slice none 0 0]) ∧ i.size = 3 ∧ i.bytes = 56 := by
    obtain ⟨i, hi, he⟩ := Option.map_eq_some_iff.1 infoIt
    injection he with h1 h2
    injection h2 with h2 h3
    exact ⟨i, hi, h1, h2, h3⟩
  have HPC := Lib.hid (fun j x h => part_cells (xs := xs) (by rw [hxl]; exact hu) hx (j := j) (x := x) h)
  have HBB := Lib.hid hB
  have HXL := Lib.hid hxl
  clear hxl hB hu hx
  go_enter Try.func7, Try.ntmps7
  go_upto_region 4 with (fail)
  go_loopw [3, 4, 5] (fun av lv i wr => ∃ (j : Nat) (ys : List Itm) (us : List Value) (Aa : Option Addr) (na ca : Nat), j ≤ m ∧ j ≤ 30 ∧ i = .int .i64 (j : Int) ∧ av = .slice Aa na ca ∧ Hid (ys = (xs.take j).map twJ) ∧ Hid (AccG (fun b => w.heap.size ≤ b ∧ (Value.slice Aa na ca).ownBlock ≠ some b) wr w.heap.size lv us ys) ∧ Hid (Acc wr w.heap.size (.slice Aa na ca) (formL ys)) ∧ Hid (Below w.heap.size w wr))
    (fun _ _ i _ => 30 - (intOf i).toNat)
  case atStart => exact ⟨0, [], [], none, 0, 0, by omega, by omega, rfl, rfl, by simp [Hid], AccG.nil _ _ _, by rw [formL]; exact ⟨rfl, .inl ⟨rfl, rfl⟩⟩, Lib.hid (Below.refl _ _)⟩
  case round =>
    obtain ⟨j, ys, us, Aa, na, ca, hj, hj30, rfl, rfl, hys, hag, hac, hb⟩ := hrel
    have HNA : Hid (na = (formL ys).length) := by
      obtain ⟨_, _, e⟩ := hac.out.form
      injection e
    have hyl : ys.length = j := by rw [hys.out, List.length_map, List.length_take]; have := HXL.out; omega
    by_cases hgo : j < m ∧ j < 30
    · obtain ⟨xi, hxi⟩ : ∃ x, xs[j]? = some x := ⟨_, List.getElem?_eq_getElem (by rw [HXL.out]; exact hgo.1)⟩
      obtain ⟨rfl, hg1⟩ := HBB.out (by omega)
      obtain ⟨l3, a3, n3, c3, a4, n4, c4, p0, p1, p2, hI1⟩ := HPC.out j xi hxi
      have hA1 : Below wr.heap.size wr (wr.alloc (.cells #[.int .i64 200] 3)) := (Below.refl _ _).alloc (Nat.le_refl _) _
      have hbw : Below w.heap.size w (wr.alloc (.cells #[.int .i64 200] 3)) := hb.out.trans (hA1.mono hb.out.size)
      have p0 := (hbw.cell (p := ⟨b, off + j * 3, none⟩) hg1).trans p0
      have p1 := (hbw.cell (p := ⟨b, off + j * 3 + 1, none⟩) hg1).trans p1
      have p2 := (hbw.cell (p := ⟨b, off + j * 3 + 2, none⟩) hg1).trans p2
      have hws := hb.out.size
      have hs1 : (wr.alloc (.cells #[.int .i64 200] 3)).heap.size = wr.heap.size + 1 := by simp
      have ch : Calls Try.prog 23 #[.agg #[.bool l3, .slice a3 n3 c3, .slice a4 n4 c4], .int .i64 20, .pointer (some ⟨wr.heap.size, 0, none⟩)] (wr.alloc (.cells #[.int .i64 200] 3)) (TwR wr.heap.size 20 xi 200 (wr.alloc (.cells #[.int .i64 200] 3))) := (twin_i 20 (by omega) wr.heap.size 200 xi _ _ ((hI1.mono (S' := fun b => b ≠ wr.heap.size) (fun b hb _ => by omega)).keep hbw) (heap_alloc_new wr _) (by omega) (by omega))
      have C := Lib.hid ch
      clear ch
      have hnx : (xs.take (j + 1)).map twJ = ys ++ [twJ xi] := by
        rw [hys.out, List.take_succ_eq_append_getElem (by rw [HXL.out]; exact hgo.1), List.map_append]
        have : xs[j]'(by rw [HXL.out]; exact hgo.1) = xi := by
          rw [List.getElem?_eq_getElem (by rw [HXL.out]; exact hgo.1)] at hxi
          injection hxi
        rw [this]; rfl
      obtain ⟨y, hy⟩ : ∃ y, y = twJ xi := ⟨_, rfl⟩
      have hysz := twJ_sz xi
      rw [← hy] at hnx hysz
      have HY := Lib.hid hy
      have HYS := Lib.hid hysz
      have HNX := Lib.hid hnx
      have hpl : (formL ys).length ≤ 2454000 := by
        rw [formL_len, hys.out]
        have h1 := psz_twJ (xs.take j)
        have h2 : (xs.take j).length ≤ j := by rw [List.length_take]; omega
        omega
      have HPL := Lib.hid hpl
      have HJ : Hid (j < m ∧ j < 30) := hgo
      have hj1 : (j : Int) < (m : Int) := by omega
      have hj2 : (j : Int) < 30 := by omega
      have ej : IntKind.i64.wrap ((j : Int) + 1) = (j : Int) + 1 := IntWalk.i64_in _ (by omega)
      have HS1 := Lib.hid hs1
      have HWS := Lib.hid hws
      have HYL := Lib.hid hyl
      clear hxi hg1 hI1 hA1 hbw hs1 hws hnx hy hysz hpl hgo hys hj hj30 hyl
      go_wp2_with fail
      (with_reducible refine C.out.mono ?_)
      rintro e w2 ⟨htk, -, v2, rfl, hi2⟩
      have hi2' : IAt (fun b => wr.heap.size + 1 ≤ b) w2 v2 y := by rw [HY.out]; rw [← HS1.out]; exact hi2
      obtain ⟨l6, a6, n6, c6, b6, m6, cp6, rfl⟩ := hi2'.parts
      have hk2 : ∀ k, k < wr.heap.size → w2.heap[k]? = wr.heap[k]? := fun k hk => (htk.block k (by rw [HS1.out]; omega) (by omega)).trans (Below.heap_alloc _ _ _ hk)
      have hb2 : Below wr.heap.size wr w2 := ⟨htk.os, htk.tape, htk.output, by have := htk.size; rw [HS1.out] at this; omega, hk2⟩
      have hA3 : Below w2.heap.size w2 (w2.alloc (.cells #[.bool l6, .slice a6 n6 c6, .slice b6 m6 cp6] 25)) := (Below.refl _ _).alloc (Nat.le_refl _) _
      have hb3 := hb2.trans (hA3.mono hb2.size)
      have hc7 := heap_alloc_new w2 (.cells #[.bool l6, .slice a6 n6 c6, .slice b6 m6 cp6] 25)
      have HI3 := Lib.hid (hi2'.keep hA3)
      have C2 := Lib.hid (encode_c y _ _ (hi2'.keep hA3) (by have := HYS.out; omega))
      have HB3 := Lib.hid hb3
      have HC7 := Lib.hid hc7
      have HS2 : Hid (wr.heap.size + 1 ≤ w2.heap.size) := by have := htk.size; rw [HS1.out] at this; exact this
      obtain ⟨y0, y1, y2, -, -, -⟩ := three_cells hc7
      clear htk hi2 hi2' hk2 hb2 hA3 hb3 hc7 C p0 p1 p2
      go_wp2_with fail
      (with_reducible refine C2.out.mono ?_)
      rintro e w4 ⟨hb4, hcase⟩
      have hok : okN y 1024 = true := okN_mono y 1023 HYS.out.2
      rcases hcase with ⟨-, v8, rfl, hacc8⟩ | ⟨hk, rfl⟩
      rotate_left
      · exact absurd hk (by rw [hok]; decide)
      obtain ⟨A8, c8, rfl⟩ := hacc8.form
      have hfl : (form y).length = fsz y := form_len y
      have hfp := fsz_pos y
      obtain ⟨b8, o8, rfl, -, -⟩ := hacc8.rd.at_ (by omega)
      have hc74 := (hb4.block _ (heap_lt2 HC7.out)).trans HC7.out
      have hA5 : Below w4.heap.size w4 (w4.alloc (.cells #[.bool l6, .slice a6 n6 c6, .slice b6 m6 cp6] 25)) := (Below.refl _ _).alloc (Nat.le_refl _) _
      have hb4' := HB3.out.trans (hb4.mono HB3.out.size)
      have hb5 := hb4'.trans (hA5.mono hb4'.size)
      have HAG := Lib.hid (hag.out.below hb5)
      have HAC := Lib.hid (hac.out.below hb5)
      have HI5 := Lib.hid ((HI3.out.keep hb4).keep hA5)
      have HR8 := Lib.hid (hacc8.below hA5)
      have HB5 := Lib.hid (hb.out.trans (hb5.mono hb.out.size))
      have HOL := Lib.hid (fun k => hag.out.own k)
      have HOA : Hid (∀ k, (Value.slice Aa na ca).ownBlock = some k → k < wr.heap.size) := fun k hk => (World.ownsRow.lt hac.out k hk).2
      have HS4 : Hid (wr.heap.size + 1 ≤ w4.heap.size) := by show _ ≤ _; have := HS2.out; have := hb4.size; have := HB3.out.size; simp at *; omega
      have HSZ5 : Hid ((w4.alloc (.cells #[.bool l6, .slice a6 n6 c6, .slice b6 m6 cp6] 25)).heap.size = w4.heap.size + 1) := by show _ = _; simp
      have hn8 : (form y).length = fsz y := hfl
      obtain ⟨F, hF⟩ : ∃ F, F = (form y).length := ⟨_, rfl⟩
      have HF : Hid (F = (form y).length ∧ F ≤ 81800) := ⟨hF, by have := HYS.out; omega⟩
      rw [← hF]
      obtain ⟨A9, c9, rfl⟩ := hag.out.form
      obtain ⟨z0, z1, z2, -, -, -⟩ := three_cells hc74
      obtain ⟨mm, hmm⟩ : ∃ n, n = ys.length := ⟨_, rfl⟩
      have HMM := Lib.hid hmm
      rw [← hmm]
      have HNW3 : Hid (∀ j u, ([.bool l6, .slice a6 n6 c6, .slice b6 m6 cp6] : List Value)[j]? = some u → (w4.alloc (.cells #[.bool l6, .slice a6 n6 c6, .slice b6 m6 cp6] 25)).cell? ((⟨w4.heap.size, 0, none⟩ : Addr).add j) = some u) := item_new
      have hmb : mm ≤ 30 := by have := HYL.out; have := HJ.out; omega
      clear hacc8 hok hfl hfp hc74 hA5 hb4' hb5 hb4 hag hac hb hn8 hF C2 hmm HC7 y0 y1 y2
      go_wp2_with (at_builtin; refine wpList_append_own_at _ rfl (.tmp 45) (.tmp 47) 23 rfl w.heap.size 25 i1 (.agg #[.bool false, .slice none 0 0, .slice none 0 0]) 3 56 Try.underlying23 ki kz0 kz1 kz2 rfl (by decide) (.slice A9 mm c9) mm us rfl (by have := HAG.out.1; rwa [← HMM.out] at this) ⟨w4.heap.size, 0, none⟩ 1 1 [.bool l6, .slice a6 n6 c6, .slice b6 m6 cp6] rfl rfl HNW3.out (by intro u hu; simp at hu; rcases hu with rfl | rfl | rfl <;> rfl) (by unfold maxLen; omega) (by omega) (by rw [HSZ5.out]; have := HWS.out; have := HS4.out; omega) ?_)
      intro v' w6 hown hg _ hat
      have hagm : AccG (fun b => w.heap.size ≤ b ∧ (Value.slice Aa na ca).ownBlock ≠ some b) (w4.alloc (.cells #[.bool l6, .slice a6 n6 c6, .slice b6 m6 cp6] 25)) w.heap.size (.slice A9 mm c9) us ys := by rw [HMM.out]; exact HAG.out
      have hag6 := hagm.grow (HI5.out.mono fun b _ hS => ⟨⟨by have := HWS.out; omega, fun e => by have := HOA.out _ e; omega⟩, fun e => by have := (HOL.out _ (by rw [← HMM.out]; exact e)).2; omega⟩) (by rw [← HMM.out]; exact hown) hg (by rw [HSZ5.out]; exact hat)
      have hac6 := HAC.out.far (w' := w6) (fun k hk hlt => hg.block k hlt (fun e => AccG.no hagm HAC.out k e.symm hk))
      have hr86 := HR8.out.far (w' := w6) (fun k hk hlt => hg.block k hlt (fun e => AccG.no hagm HR8.out k e.symm hk))
      have HB6 := Lib.hid (HB5.out.grown hg (by rw [HSZ5.out]; have := HWS.out; have := HS4.out; omega) (fun k hk => (hagm.own k hk).1))
      have HS6 := Lib.hid hg.size
      have HNW8 := Lib.hid hr86.rd.news
      have HAC6 := Lib.hid hac6
      have HAG6 := Lib.hid hag6
      clear hown hg hat hagm hag6 hac6 hr86 HAG HAC HI5 HR8 HB5 z0 z1 z2
      have hnb : na ≤ 2454000 := by have := HNA.out; have := HPL.out; omega
      go_wp2_with (at_builtin; refine wpList_append_own_at _ rfl (.tmp 49) (.tmp 50) 22 rfl w.heap.size 5 i0 (.int .u8 0) 1 1 Try.underlying22 hi hz0 hz1 hz2 rfl (by decide) (.slice Aa na ca) na (bv (formL ys)) rfl (by have := HAC6.out; unfold Acc at this; rw [← HNA.out] at this; exact this) ⟨b8, o8, none⟩ F c8 (bv (form y)) rfl (by rw [bv_length, HF.out.1]; omega) HNW8.out (by intro u hu; simp [bv] at hu; obtain ⟨x, _, rfl⟩ := hu; rfl) (by have := HF.out; unfold maxLen; omega) (by have := HF.out; omega) (by have := HB6.out.size; exact this) ?_)
      intro v' w7 hown hg _ hat
      have hacc : Acc w7 w.heap.size v' (formL (ys ++ [y])) := by
        unfold Acc
        rw [formL_snoc, bv_append, List.length_append, ← HNA.out, ← HF.out.1]
        exact hown
      obtain ⟨A10, c10, rfl⟩ := hacc.form
      have hag7 := HAG6.out.move (w' := w7) (P' := fun b => w.heap.size ≤ b ∧ (Value.slice A10 (formL (ys ++ [y])).length c10).ownBlock ≠ some b) hg.size (fun b hb hP => ⟨hP.1, fun e => by
        rcases hat with h | h
        · exact hP.2 (h.symm.trans e)
        · rw [h] at e; injection e with e; omega⟩) (fun k hk hP => hg.block k hk (fun e => by
        rcases hP with hP | hP
        · exact hP.2 e.symm
        · exact AccG.no HAG6.out HAC6.out k hP e.symm))
      have HB7 := Lib.hid (HB6.out.grown hg HB6.out.size (fun k hk => (World.ownsRow.lt HAC6.out k hk).1))
      have HAC7 := Lib.hid hacc
      have HAG7 := Lib.hid hag7
      obtain ⟨nz, hnz⟩ : ∃ n, n = (formL (ys ++ [y])).length := ⟨_, rfl⟩
      rw [← hnz] at HAC7 HAG7 ⊢
      clear hown hg hat hacc hag7 HAG6 HAC6 HB6 hnz HNW8
      go_wp2_with fail
      exact ⟨⟨j + 1, ys ++ [y], _, _, _, _, by have := HJ.out; omega, by have := HJ.out; omega, by simp, rfl, HNX.out.symm, HAG7.out, HAC7.out, HB7.out⟩, by simp [intOf]; have := HJ.out; omega⟩
    · obtain ⟨A9, c9, rfl⟩ := hag.out.form
      have hio := hag.out.item
      have hps : psz ys ≤ 2454000 := by
        rw [hys.out]
        have h1 := psz_twJ (xs.take j)
        have h2 : (xs.take j).length ≤ j := by rw [List.length_take]; omega
        omega
      have hokl : okL ys 1023 = true := by rw [hys.out]; exact okL_twJ _
      have hfl : (formL ys).length = psz ys := formL_len ys
      have hfz : fsz (.mk true [] ys) ≤ 16777216 := by
        rw [fsz, if_pos rfl]
        have := hsz_le (n := psz ys) (by omega)
        omega
      have hok : okN (.mk true [] ys) 1024 = true := by rw [okN_list]; exact hokl
      have hds : Ds 256 (form (.mk true [] ys)) := hio.form_ds (Nat.le_trans hfz (by omega))
      have hspl : splitS (form (.mk true [] ys)) = (true, formL ys, [], 0) := by
        have h := fst_form true [] ys [] hfz
        rw [List.append_nil, if_pos rfl] at h
        unfold splitS
        rw [h]
      have hfw : (form (.mk true [] ys)).length = fsz (.mk true [] ys) := form_len _
      have C2 := Lib.hid (encode_c (.mk true [] ys) _ wr hio hfz)
      obtain ⟨raw, hraw⟩ : ∃ r, r = form (.mk true [] ys) := ⟨_, rfl⟩
      rw [← hraw] at hds hspl hfw
      have HRW := Lib.hid hraw
      have HDS := Lib.hid hds
      have HSP := Lib.hid hspl
      have HFW : Hid (raw.length ≤ 16777216) := by show _ ≤ _; rw [hfw]; exact hfz
      have HOK := Lib.hid hok
      obtain ⟨p, hp⟩ : ∃ p, p = formL ys := ⟨_, rfl⟩
      have HP := Lib.hid hp
      have hpl : p.length ≤ 2454000 := by rw [hp, hfl]; exact hps
      have hpd : Ds 256 p := by
        have h := hds
        rw [hraw, form, if_pos rfl] at h
        rw [hp]
        exact fun x hx => h x (List.mem_append_right _ hx)
      have HPL := Lib.hid hpl
      have HPD := Lib.hid hpd
      have HIO := Lib.hid hio
      have HB0 := Lib.hid hb.out
      have HRA : Hid (Rd .u8 wr Aa ca p) := by have h := hac.out.rd; show Rd _ _ _ _ _; rw [hp]; exact h
      have HNP : Hid (na = p.length) := by show _ = _; rw [HNA.out, hp]
      obtain ⟨K, hK⟩ : ∃ K, K = ys.length := ⟨_, rfl⟩
      have HK : Hid (K = ys.length ∧ K ≤ 30) := ⟨hK, by omega⟩
      have HYQ : Hid (∀ (j : Nat) (y : Itm), ys[j]? = some y → fsz y ≤ 81800 ∧ okN y 1024 = true) := fun j2 y h => by
        have h2 := hys.out
        rw [h2, List.getElem?_map] at h
        obtain ⟨x, _, rfl⟩ := Option.map_eq_some_iff.1 h
        exact ⟨(twJ_sz x).1, okN_mono _ 1023 (twJ_sz x).2⟩
      rw [← hK] at C2 HIO ⊢
      clear hio hps hokl hfl hfz hok hds hspl hfw hraw hp hpl hpd hag hac hb hys HNA hK hyl
      by_cases hjm : j < m
      case' pos =>
        have hj1 : (j : Int) < (m : Int) := by omega
        have hj2 : ¬ (j : Int) < 30 := by omega
        clear hjm hgo hj hj30
      case' neg =>
        have hj1 : ¬ (j : Int) < (m : Int) := by omega
        clear hjm hgo hj hj30
      all_goals
        go_wp2_with fail
        (with_reducible refine C2.out.mono ?_)
        rintro e w1 ⟨hb1, hcase⟩
        rcases hcase with ⟨-, v10, rfl, hacw⟩ | ⟨hk, rfl⟩
        rotate_left
        · exact absurd hk (by rw [HOK.out]; decide)
        rw [← HRW.out] at hacw
        obtain ⟨A10, c10, rfl⟩ := hacw.form
        have sq : Calls Try.prog 21 #[.slice A10 raw.length c10] w1 (fun e w' => Below w1.heap.size w1 w' ∧ ∃ vu vr, e = .returned (.tuple #[.bool true, vu, vr, .int .i64 0]) ∧ Byt w' vu p ∧ Byt w' vr []) := by
          have h := split_q w1 hacw.rd HDS.out HFW.out
          unfold SplitQ at h
          rw [HSP.out] at h
          rw [HP.out]
          exact h
        obtain ⟨L, hL⟩ : ∃ L, L = raw.length := ⟨_, rfl⟩
        rw [← hL] at sq ⊢
        have SQ := Lib.hid sq
        have HIO1 := Lib.hid (HIO.out.keep hb1)
        have HRA1 := Lib.hid (HRA.out.below hb1)
        have HB1 := Lib.hid (HB0.out.trans (hb1.mono HB0.out.size))
        clear hb1 hacw sq hL C2 HIO HRA HB0
        go_wp2_with fail
        (with_reducible refine SQ.out.mono ?_)
        rintro e w2 ⟨hb2, vu, vr, rfl, ⟨A11, c11, rfl, hr11, hd11⟩, ⟨A12, c12, rfl, hr12, hd12⟩⟩
        have HIO2 := Lib.hid (HIO1.out.keep hb2)
        have hra := HRA1.out.below hb2
        have HRA2 := Lib.hid hra
        have HB2 := Lib.hid (HB1.out.trans (hb2.mono HB1.out.size))
        have s1 := run_sOf (show Byt w2 (.slice A11 p.length c11) p from ⟨_, _, rfl, hr11, hd11⟩)
        have s2 := run_sOf (show Byt w2 (.slice Aa p.length ca) p from ⟨_, _, rfl, hra, HPD.out⟩)
        rw [← HNP.out] at s1 s2 ⊢
        clear hb2 hr11 hd11 hr12 hd12 hra SQ HIO1 HRA1 HB1
        go_upto_region 18 with (fail)
        have HPC2 : Hid (∃ (b2 off2 : Nat), (0 < K → A9 = some ⟨b2, off2, none⟩ ∧ b2 < w2.heap.size) ∧ K ≤ c9 ∧ ∀ (j : Nat) (y : Itm), ys[j]? = some y → ∃ l a1 n1 c1 a2 n2 c2, w2.cell? ⟨b2, off2 + j * 3, none⟩ = some (.bool l) ∧ w2.cell? ⟨b2, off2 + j * 3 + 1, none⟩ = some (.slice a1 n1 c1) ∧ w2.cell? ⟨b2, off2 + j * 3 + 2, none⟩ = some (.slice a2 n2 c2) ∧ IAt (fun _ => True) w2 (.agg #[.bool l, .slice a1 n1 c1, .slice a2 n2 c2]) y) := by
          obtain ⟨B', cap', b', off', u', e', hB', hc', hu', hx'⟩ := HIO2.out.inv2
          injection e' with e1 e2 e3
          subst e1 e3
          exact ⟨b', off', fun h => ⟨(hB' (by omega)).1, (hB' (by omega)).2.1⟩, by omega, fun j y h => part_cells hu' hx' h⟩
        obtain ⟨b2, off2, hB2, hKc, hcells⟩ := HPC2.out
        have HB9 := Lib.hid hB2
        have HKC := Lib.hid hKc
        have HCE := Lib.hid hcells
        have HZ : Hid (formL ys = formL (ys.drop 0) ∧ Rd .u8 w2 Aa ca (formL (ys.drop 0))) := ⟨by rw [List.drop_zero], by have := HRA2.out; rwa [HP.out] at this⟩
        clear hB2 hKc hcells HPC2 HIO2 s1 s2
        go_loopw [3, 16] (fun av i wr2 => ∃ (j2 : Nat) (A2 : Option Addr) (n2 k2 : Nat), j2 ≤ K ∧ i = .int .i64 (j2 : Int) ∧ av = .slice A2 n2 k2 ∧ Hid (n2 = (formL (ys.drop j2)).length) ∧ Hid (Rd .u8 wr2 A2 k2 (formL (ys.drop j2))) ∧ Hid (Below w2.heap.size w2 wr2))
          (fun _ i _ => K - (intOf i).toNat)
        case atStart => exact ⟨0, _, _, _, by omega, rfl, rfl, (by rw [← HZ.out.1, ← HP.out]; exact HNP.out), HZ.out.2, Lib.hid (Below.refl _ _)⟩
        case round =>
          obtain ⟨j2, A2, n2, k2, hj2', rfl, rfl, hn2, hr2, hbw⟩ := hrel
          by_cases hjK : j2 < K
          · obtain ⟨y, hyj⟩ : ∃ y, ys[j2]? = some y := ⟨_, List.getElem?_eq_getElem (by rw [← HK.out.1]; exact hjK)⟩
            obtain ⟨rfl, hb2⟩ := HB9.out (by omega)
            obtain ⟨hys2, hyk2⟩ := HYQ.out j2 y hyj
            obtain ⟨ly, a3, n3, c3, a4, n4, c4, p0, p1, p2, hI1⟩ := HCE.out j2 y hyj
            have p0 := (hbw.out.cell (p := ⟨b2, off2 + j2 * 3, none⟩) hb2).trans p0
            have p1 := (hbw.out.cell (p := ⟨b2, off2 + j2 * 3 + 1, none⟩) hb2).trans p1
            have p2 := (hbw.out.cell (p := ⟨b2, off2 + j2 * 3 + 2, none⟩) hb2).trans p2
            have hdrop : formL (ys.drop j2) = form y ++ formL (ys.drop (j2 + 1)) := by
              have h := List.drop_eq_getElem_cons (l := ys) (i := j2) (by rw [← HK.out.1]; exact hjK)
              have e : ys[j2]'(by rw [← HK.out.1]; exact hjK) = y := by
                rw [List.getElem?_eq_getElem (by rw [← HK.out.1]; exact hjK)] at hyj
                injection hyj
              rw [h, e, formL]
            obtain ⟨ly', bsy, zsy⟩ := y
            obtain ⟨hl0, ⟨a3', c3', hsl, hr3, hd3⟩, -⟩ := hI1.inv
            injection hl0 with hl0
            subst hl0
            injection hsl with e1 e2 e3
            subst e1 e2 e3
            have hfst := fst_form ly bsy zsy (formL (ys.drop (j2 + 1))) (by omega)
            obtain ⟨y, hy⟩ : ∃ y, y = Itm.mk ly bsy zsy := ⟨_, rfl⟩
            rw [← hy] at hfst hdrop hys2 hyk2 hI1
            obtain ⟨rr, hrr⟩ : ∃ r, r = formL (ys.drop (j2 + 1)) := ⟨_, rfl⟩
            rw [← hrr] at hfst hdrop
            have hfl : (form y).length = fsz y := form_len y
            have hfp := fsz_pos y
            have hyd : Ds 256 (form y) := hI1.form_ds (by omega)
            have hdd : Ds 256 (form y ++ rr) := by
              rw [← hdrop]
              have h := HPD.out
              have e : formL ys = formL (ys.take j2) ++ formL (ys.drop j2) := by
                have := formL_append (ys.take j2) (ys.drop j2)
                rwa [List.take_append_drop] at this
              rw [HP.out, e] at h
              exact fun x hx => h x (List.mem_append_right _ hx)
            have hll : (form y ++ rr).length ≤ 2454000 := by
              rw [← hdrop]
              have h := HPL.out
              have e : formL ys = formL (ys.take j2) ++ formL (ys.drop j2) := by
                have := formL_append (ys.take j2) (ys.drop j2)
                rwa [List.take_append_drop] at this
              rw [HP.out, e, List.length_append] at h
              omega
            rw [hdrop] at hn2 hr2
            have C3 := Lib.hid (encode_c y _ wr (hI1.keep hbw.out) (by omega))
            have hspl : splitS (form y ++ rr) = (ly, if ly = true then formL zsy else bsy, rr, 0) := by
              unfold splitS
              rw [hfst]
            obtain ⟨F, hF⟩ : ∃ F, F = (form y).length := ⟨_, rfl⟩
            obtain ⟨R, hR⟩ : ∃ R, R = rr.length := ⟨_, rfl⟩
            have hnr : n2 = F + R := by rw [hn2.out, List.length_append, hF, hR]
            obtain ⟨bA, oA, rfl, hrd'⟩ := hr2.out.drop' F (by rw [List.length_append]; omega) (by rw [List.length_append]; omega)
            rw [List.drop_left' hF.symm] at hrd'
            have HFR : Hid (F = (form y).length ∧ R = rr.length ∧ n2 = F + R ∧ 0 < F ∧ n2 ≤ 2454000 ∧ n2 ≤ k2) := ⟨hF, hR, hnr, by omega, by have := hn2.out; omega, by have h := hr2.out.le; have := hn2.out; omega⟩
            have HSPL := Lib.hid hspl
            have HDD := Lib.hid hdd
            have HRR := Lib.hid hrr
            have HRD' := Lib.hid hrd'
            have HOK2 := Lib.hid hyk2
            have HI1 := Lib.hid (hI1.keep hbw.out)
            have HR3 := Lib.hid (hr3.below hbw.out)
            have HD3 := Lib.hid hd3
            have HJ2 := Lib.hid hjK
            have HR2 := Lib.hid hr2.out
            have HBW := Lib.hid hbw.out
            have HPB : Hid (b2 < wr.heap.size) := Nat.lt_of_lt_of_le hb2 hbw.out.size
            have hj3 : (j2 : Int) < (K : Int) := by omega
            have hj0 : (0 : Int) ≤ (j2 : Int) := by omega
            have ej2 : IntKind.i64.wrap ((j2 : Int) + 1) = (j2 : Int) + 1 := IntWalk.i64_in _ (by have := HK.out; omega)
            obtain ⟨n3, hn3⟩ : ∃ n, n = bsy.length := ⟨_, rfl⟩
            rw [← hn3] at C3 p1 HI1
            have HN3 := Lib.hid hn3
            have HP0 := Lib.hid p0
            have HP1 := Lib.hid p1
            clear hyj hb2 hys2 hdrop hI1 hr3 hd3 hfst hy hrr hfl hfp hyd hdd hll hspl hF hR hnr hrd' hn2 hr2 hbw hyk2 hjK hn3 hj2'
            go_wp2_with fail
            (with_reducible refine C3.out.mono ?_)
            rintro e w3 ⟨hb3, hcase⟩
            rcases hcase with ⟨-, v8, rfl, hac8⟩ | ⟨hk, rfl⟩
            rotate_left
            · exact absurd hk (by rw [HOK2.out]; decide)
            obtain ⟨A8, c8, rfl⟩ := hac8.form
            have hbx3 := hb3
            rw [← HFR.out.1]
            have HR23 := Lib.hid (HR2.out.below hb3)
            have HBW3 := Lib.hid (HBW.out.trans (hb3.mono HBW.out.size))
            have HB33 := Lib.hid hb3
            have HAC := Lib.hid (acc_empty w3)
            have HBE : Hid (Below w3.heap.size w3 (w3.alloc (.cells #[] 5))) := (Below.refl _ _).alloc (Nat.le_refl _) _
            have HSE : Hid ((w3.alloc (.cells #[] 5)).heap.size = w3.heap.size + 1) := by show _ = _; simp
            have HNW := Lib.hid (HR23.out.alloc (.cells #[] 5)).news
            have hnb : n2 ≤ 2454000 := HFR.out.2.2.2.2.1
            clear hac8 hb3 hbx3 C3 p0 p1 p2
            go_wp2_with (at_builtin; refine wpList_append_own _ rfl (.tmp 102) (.tmp 103) 22 rfl w3.heap.size 5 i0 (.int .u8 0) 1 1 Try.underlying22 hi hz0 hz1 hz2 rfl (by decide) (.slice (some ⟨w3.heap.size, 0, none⟩) 0 0) 0 [] rfl HAC.out ⟨bA, oA, none⟩ n2 k2 (bv (form y ++ rr)) rfl (by rw [bv_length, List.length_append]; have := HFR.out; omega) HNW.out (bv_one _) (by unfold maxLen; omega) (by omega) (by rw [HSE.out]; omega) ?_)
            intro v' w4 hown hg _
            have hacc : Acc w4 w3.heap.size v' (form y ++ rr) := by
              unfold Acc
              have e : (form y ++ rr).length = n2 := by rw [List.length_append]; have := HFR.out; omega
              rw [e]
              exact hown
            have hb4 : Below w3.heap.size w3 w4 := HBE.out.grown hg (by rw [HSE.out]; omega) (fun k hk => by simp [Value.ownBlock] at hk; omega)
            obtain ⟨A5, c5, rfl⟩ := hacc.form
            have sq : Calls Try.prog 21 #[.slice A5 (form y ++ rr).length c5] w4 (fun e w' => Below w4.heap.size w4 w' ∧ ∃ vu vr, e = .returned (.tuple #[.bool ly, vu, vr, .int .i64 0]) ∧ Byt w' vu (if ly = true then formL zsy else bsy) ∧ Byt w' vr rr) := by
              have h := split_q w4 hacc.rd HDD.out (by rw [List.length_append]; have := HFR.out; omega)
              unfold SplitQ at h
              rw [HSPL.out] at h
              exact h
            have SQ := Lib.hid sq
            have HBW4 := Lib.hid (HBW3.out.trans (hb4.mono HBW3.out.size))
            have HB34 := Lib.hid (HB33.out.trans (hb4.mono HB33.out.size))
            obtain ⟨S, hS⟩ : ∃ S, S = (form y ++ rr).length := ⟨_, rfl⟩
            rw [← hS] at SQ ⊢
            clear hown hg hacc hb4 sq hS HAC HBE HSE HNW HBW3 HB33 HR23
            go_wp2_with fail
            (with_reducible refine SQ.out.mono ?_)
            rintro e w5 ⟨hb5, vu, vr, rfl, hu5, ⟨A12, c12, rfl, hr12, hd12⟩⟩
            have HBW5 := Lib.hid (HBW4.out.trans (hb5.mono HBW4.out.size))
            have hb35 := HB34.out.trans (hb5.mono HB34.out.size)
            have q0 := (hb35.cell (p := ⟨b2, off2 + j2 * 3, none⟩) HPB.out).trans HP0.out
            have q1 := (hb35.cell (p := ⟨b2, off2 + j2 * 3 + 1, none⟩) HPB.out).trans HP1.out
            have hrd5 := HRD'.out.below hb35
            have HR35 := Lib.hid (HR3.out.below hb35)
            have HRD5 := Lib.hid hrd5
            have hRn : n2 - F = R := by have := HFR.out; omega
            rw [← HFR.out.2.1]
            have hf1 : (F : Int) ≤ (n2 : Int) := by have := HFR.out; omega
            have hf2 : (n2 : Int) ≤ (k2 : Int) := by have := HFR.out; omega
            have HB35 := Lib.hid hb35
            have HR12 := Lib.hid hr12
            have HDR := Lib.hid hd12
            have HU5 := Lib.hid hu5
            clear hb5 hu5 hr12 hd12 hb35 hrd5 HBW4 HB34 HRD' HR3 SQ
            have HPB5 : Hid (b2 < w5.heap.size) := Nat.lt_of_lt_of_le HPB.out HB35.out.size
            have Q0 := Lib.hid q0
            have Q1 := Lib.hid q1
            have HRL : Hid (R = rr.length) := HFR.out.2.1
            have HRN : Hid (n2 - F = R) := hRn
            have HF1 : Hid (F ≤ n2) := by show _ ≤ _; have := HFR.out; omega
            have HF2 : Hid (n2 ≤ k2) := HFR.out.2.2.2.2.2
            clear q0 q1 hRn hf1 hf2
            have hcf : ∃ oF : Nat, oF = (if k2 = F then oA else oA + F) := ⟨_, rfl⟩
            obtain ⟨oF, hoF⟩ := hcf
            have HOF := Lib.hid hoF
            have HRF : Hid (Rd .u8 w5 (some ⟨bA, oF, none⟩) (k2 - F) rr) := by
              show Rd _ _ _ _ _
              by_cases hc : k2 = F
              · have h0 : rr.length = 0 := by have := HFR.out; omega
                rw [List.eq_nil_of_length_eq_zero h0]
                exact ⟨by simp, (fun e => by cases e), fun h => by simp at h⟩
              · rw [if_neg hc] at hoF
                rw [hoF]; exact HRD5.out
            clear hoF
            go_upto_region 22 with (fail)
            cases ly with
            | true =>
              refine wp_region_see 40 [110, 111, 112, 113, 114, 115, 116, 117, 118, 119, 120, 121, 122, 123, 124, 125, 126, 127, 128, 129, 130, 131, 132, 133, 134, 135, 136, 137, 138, 139, 140, 141, 142, 143, 144, 145, 146, 147, 148, 149] [(110, .is (.int .i64 0)), (111, .is (.bool false)), (112, .is (.bool false)), (113, .is (.bool true)), (114, .is (.slice (some ⟨b2, off2, none⟩) K c9)), (115, .is (.int .i64 (j2 : Nat))), (116, .is (.pointer (some ⟨b2, off2 + j2 * 3, none⟩))), (117, .is (.pointer (some ⟨b2, off2 + j2 * 3, none⟩))), (118, .is (.bool true)), (119, .is (.bool false)), (120, .is (.bool false)), (121, .is (.bool false)), (122, .is (.slice A12 R c12)), (123, .is (.string (sOf rr))), (124, .is (.slice (some ⟨bA, oA, none⟩) n2 k2)), (125, .is (.slice A8 F c8)), (126, .is (.int .i64 (F : Nat))), (127, .is (.slice (some ⟨bA, oF, none⟩) (n2 - F) (k2 - F))), (128, .is (.string (sOf rr))), (129, .is (.bool false)), (130, .is (.bool false)), (131, .is (.bool false)), (132, .is (.slice (some ⟨b2, off2, none⟩) K c9)), (133, .is (.int .i64 (j2 : Nat))), (134, .is (.pointer (some ⟨b2, off2 + j2 * 3, none⟩))), (135, .is (.pointer (some ⟨b2, off2 + j2 * 3, none⟩))), (136, .is (.bool true)), (137, .is (.bool false)), (138, .is (.bool false)), (148, .is (.bool false)), (149, .is (.bool false))] (by kernel_rfl) (by kernel_rfl) (by rfl) ?_ ?_
              · refine seeOps_cons ?_ (seeOps_cons ?_ (seeOps_cons ?_ (seeOps_cons ?_ (seeOps_cons ?_ (seeOps_cons ?_ (seeOps_cons ?_ (seeOps_cons ?_ (seeOps_cons ?_ (seeOps_cons ?_ (seeOps_cons ?_ (seeOps_cons ?_ (seeOps_cons ?_ (seeOps_cons ?_ (seeOps_cons ?_ (seeOps_cons ?_ (seeOps_cons ?_ (seeOps_cons ?_ (seeOps_cons ?_ (seeOps_cons ?_ (seeOps_cons ?_ (seeOps_cons ?_ (seeOps_cons ?_ (seeOps_cons ?_ (seeOps_cons ?_ (seeOps_cons ?_ (seeOps_cons ?_ (seeOps_cons ?_ (seeOps_cons ?_ (seeOps_cons ?_ (seeOps_cons ?_ (seeOps_cons ?_ (seeOps_cons ?_ (seeOps_cons ?_ (seeOps_cons ?_ (seeOps_cons ?_ (seeOps_cons ?_ (seeOps_cons ?_ (seeOps_cons ?_ (seeOps_cons ?_ (seeOps_nil))))))))))))))))))))))))))))))))))))))))
                · intro w6 hb6 fr hout hin
                  have h22 : fr.tmps.getD 22 undef = .int .i64 0 := hout 22 (by decide)
                  clear hout hin
                  exact relStep_move (.tmp 22) rfl (wanted_none rfl) (by show fr.tmps.getD 22 undef = _; rw [h22])
                · intro w6 hb6 fr hout hin
                  have h110 : fr.tmps.getD 110 undef = .int .i64 0 := hin 110 (by decide) (by decide)
                  clear hout hin
                  exact op_neE (.tmp 110) (.const (.int .i64 0)) _ rfl h110 rfl (wanted_none rfl) rfl
                · intro w6 hb6 fr hout hin
                  have h111 : fr.tmps.getD 111 undef = .bool false := hin 111 (by decide) (by decide)
                  clear hout hin
                  exact relStep_move (.tmp 111) rfl (wanted_none rfl) (by show fr.tmps.getD 111 undef = _; rw [h111])
                · intro w6 hb6 fr hout hin
                  have h19 : fr.tmps.getD 19 undef = .bool true := hout 19 (by decide)
                  have h112 : fr.tmps.getD 112 undef = .bool false := hin 112 (by decide) (by decide)
                  clear hout hin
                  exact relStep_move (.tmp 19) rfl (wanted_some (g := 2) (t := 112) (b := false) rfl rfl h112) (by show fr.tmps.getD 19 undef = _; rw [h19])
                · intro w6 hb6 fr hout hin
                  have h4 : fr.tmps.getD 4 undef = .slice (some ⟨b2, off2, none⟩) K c9 := hout 4 (by decide)
                  have h112 : fr.tmps.getD 112 undef = .bool false := hin 112 (by decide) (by decide)
                  clear hout hin
                  exact relStep_move (.tmp 4) rfl (wanted_some (g := 2) (t := 112) (b := false) rfl rfl h112) (by show fr.tmps.getD 4 undef = _; rw [h4])
                · intro w6 hb6 fr hout hin
                  have h16 : fr.tmps.getD 16 undef = .int .i64 (j2 : Nat) := hout 16 (by decide)
                  have h112 : fr.tmps.getD 112 undef = .bool false := hin 112 (by decide) (by decide)
                  clear hout hin
                  exact relStep_move (.tmp 16) rfl (wanted_some (g := 2) (t := 112) (b := false) rfl rfl h112) (by show fr.tmps.getD 16 undef = _; rw [h16])
                · intro w6 hb6 fr hout hin
                  have h114 : fr.tmps.getD 114 undef = .slice (some ⟨b2, off2, none⟩) K c9 := hin 114 (by decide) (by decide)
                  have h115 : fr.tmps.getD 115 undef = .int .i64 (j2 : Nat) := hin 115 (by decide) (by decide)
                  have h112 : fr.tmps.getD 112 undef = .bool false := hin 112 (by decide) (by decide)
                  clear hout hin
                  exact op_indexI (.tmp 114) (.tmp 115) rfl HJ2.out h114 h115 (wanted_some (g := 2) (t := 112) (b := false) rfl rfl h112) rfl
                · intro w6 hb6 fr hout hin
                  have h116 : fr.tmps.getD 116 undef = .pointer (some ⟨b2, off2 + j2 * 3, none⟩) := hin 116 (by decide) (by decide)
                  have h112 : fr.tmps.getD 112 undef = .bool false := hin 112 (by decide) (by decide)
                  clear hout hin
                  exact op_field0 (.tmp 116) rfl h116 (wanted_some (g := 2) (t := 112) (b := false) rfl rfl h112) rfl
                · intro w6 hb6 fr hout hin
                  have h117 : fr.tmps.getD 117 undef = .pointer (some ⟨b2, off2 + j2 * 3, none⟩) := hin 117 (by decide) (by decide)
                  have h112 : fr.tmps.getD 112 undef = .bool false := hin 112 (by decide) (by decide)
                  clear hout hin
                  exact op_loadB (.tmp 117) rfl h117 ((hb6.cell (p := ⟨b2, off2 + j2 * 3, none⟩) HPB5.out).trans Q0.out) (wanted_some (g := 2) (t := 112) (b := false) rfl rfl h112) rfl
                · intro w6 hb6 fr hout hin
                  have h113 : fr.tmps.getD 113 undef = .bool true := hin 113 (by decide) (by decide)
                  have h118 : fr.tmps.getD 118 undef = .bool true := hin 118 (by decide) (by decide)
                  have h112 : fr.tmps.getD 112 undef = .bool false := hin 112 (by decide) (by decide)
                  clear hout hin
                  exact op_neB (.tmp 113) (.tmp 118) _ rfl h113 h118 (wanted_some (g := 2) (t := 112) (b := false) rfl rfl h112) rfl
                · intro w6 hb6 fr hout hin
                  have h112 : fr.tmps.getD 112 undef = .bool false := hin 112 (by decide) (by decide)
                  have h119 : fr.tmps.getD 119 undef = .bool false := hin 119 (by decide) (by decide)
                  clear hout hin
                  exact relStep_pickF (.tmp 112) (.const (.bool true)) (.tmp 119) rfl h112 (wanted_none rfl) (by show fr.tmps.getD 119 undef = _; rw [h119])
                · intro w6 hb6 fr hout hin
                  have h120 : fr.tmps.getD 120 undef = .bool false := hin 120 (by decide) (by decide)
                  clear hout hin
                  exact relStep_move (.tmp 120) rfl (wanted_none rfl) (by show fr.tmps.getD 120 undef = _; rw [h120])
                · intro w6 hb6 fr hout hin
                  have h21 : fr.tmps.getD 21 undef = .slice A12 R c12 := hout 21 (by decide)
                  have h121 : fr.tmps.getD 121 undef = .bool false := hin 121 (by decide) (by decide)
                  clear hout hin
                  exact relStep_move (.tmp 21) rfl (wanted_some (g := 11) (t := 121) (b := false) rfl rfl h121) (by show fr.tmps.getD 21 undef = _; rw [h21])
                · intro w6 hb6 fr hout hin
                  have h122 : fr.tmps.getD 122 undef = .slice A12 R c12 := hin 122 (by decide) (by decide)
                  have h121 : fr.tmps.getD 121 undef = .bool false := hin 121 (by decide) (by decide)
                  clear hout hin
                  exact op_str (bs := rr) (.tmp 122) rfl (by rw [show fr.eval (.tmp 122) = _ from h122]; exact ⟨_, _, by rw [← HRL.out], HR12.out.below hb6, HDR.out⟩) (wanted_some (g := 11) (t := 121) (b := false) rfl rfl h121) rfl
                · intro w6 hb6 fr hout hin
                  have h3 : fr.tmps.getD 3 undef = .slice (some ⟨bA, oA, none⟩) n2 k2 := hout 3 (by decide)
                  have h121 : fr.tmps.getD 121 undef = .bool false := hin 121 (by decide) (by decide)
                  clear hout hin
                  exact relStep_move (.tmp 3) rfl (wanted_some (g := 11) (t := 121) (b := false) rfl rfl h121) (by show fr.tmps.getD 3 undef = _; rw [h3])
                · intro w6 hb6 fr hout hin
                  have h17 : fr.tmps.getD 17 undef = .slice A8 F c8 := hout 17 (by decide)
                  have h121 : fr.tmps.getD 121 undef = .bool false := hin 121 (by decide) (by decide)
                  clear hout hin
                  exact relStep_move (.tmp 17) rfl (wanted_some (g := 11) (t := 121) (b := false) rfl rfl h121) (by show fr.tmps.getD 17 undef = _; rw [h17])
                · intro w6 hb6 fr hout hin
                  have h125 : fr.tmps.getD 125 undef = .slice A8 F c8 := hin 125 (by decide) (by decide)
                  have h121 : fr.tmps.getD 121 undef = .bool false := hin 121 (by decide) (by decide)
                  clear hout hin
                  exact op_lenB (.tmp 125) rfl h125 (wanted_some (g := 11) (t := 121) (b := false) rfl rfl h121) rfl
                · intro w6 hb6 fr hout hin
                  have h124 : fr.tmps.getD 124 undef = .slice (some ⟨bA, oA, none⟩) n2 k2 := hin 124 (by decide) (by decide)
                  have h126 : fr.tmps.getD 126 undef = .int .i64 (F : Nat) := hin 126 (by decide) (by decide)
                  have h121 : fr.tmps.getD 121 undef = .bool false := hin 121 (by decide) (by decide)
                  clear hout hin
                  exact op_from (.tmp 124) (.tmp 126) rfl HF1.out HF2.out HOF.out h124 h126 (wanted_some (g := 11) (t := 121) (b := false) rfl rfl h121) rfl
                · intro w6 hb6 fr hout hin
                  have h127 : fr.tmps.getD 127 undef = .slice (some ⟨bA, oF, none⟩) (n2 - F) (k2 - F) := hin 127 (by decide) (by decide)
                  have h121 : fr.tmps.getD 121 undef = .bool false := hin 121 (by decide) (by decide)
                  clear hout hin
                  exact op_str (bs := rr) (.tmp 127) rfl (by rw [show fr.eval (.tmp 127) = _ from h127]; exact ⟨_, _, by rw [HRN.out, ← HRL.out], HRF.out.below hb6, HDR.out⟩) (wanted_some (g := 11) (t := 121) (b := false) rfl rfl h121) rfl
                · intro w6 hb6 fr hout hin
                  have h123 : fr.tmps.getD 123 undef = .string (sOf rr) := hin 123 (by decide) (by decide)
                  have h128 : fr.tmps.getD 128 undef = .string (sOf rr) := hin 128 (by decide) (by decide)
                  have h121 : fr.tmps.getD 121 undef = .bool false := hin 121 (by decide) (by decide)
                  clear hout hin
                  exact op_neS (.tmp 123) (.tmp 128) _ rfl h123 h128 (wanted_some (g := 11) (t := 121) (b := false) rfl rfl h121) rfl
                · intro w6 hb6 fr hout hin
                  have h121 : fr.tmps.getD 121 undef = .bool false := hin 121 (by decide) (by decide)
                  have h129 : fr.tmps.getD 129 undef = .bool false := hin 129 (by decide) (by decide)
                  clear hout hin
                  exact relStep_pickF (.tmp 121) (.const (.bool true)) (.tmp 129) rfl h121 (wanted_none rfl) (by show fr.tmps.getD 129 undef = _; rw [h129])
                · intro w6 hb6 fr hout hin
                  have h130 : fr.tmps.getD 130 undef = .bool false := hin 130 (by decide) (by decide)
                  clear hout hin
                  exact relStep_move (.tmp 130) rfl (wanted_none rfl) (by show fr.tmps.getD 130 undef = _; rw [h130])
                · intro w6 hb6 fr hout hin
                  have h4 : fr.tmps.getD 4 undef = .slice (some ⟨b2, off2, none⟩) K c9 := hout 4 (by decide)
                  have h131 : fr.tmps.getD 131 undef = .bool false := hin 131 (by decide) (by decide)
                  clear hout hin
                  exact relStep_move (.tmp 4) rfl (wanted_some (g := 21) (t := 131) (b := false) rfl rfl h131) (by show fr.tmps.getD 4 undef = _; rw [h4])
                · intro w6 hb6 fr hout hin
                  have h16 : fr.tmps.getD 16 undef = .int .i64 (j2 : Nat) := hout 16 (by decide)
                  have h131 : fr.tmps.getD 131 undef = .bool false := hin 131 (by decide) (by decide)
                  clear hout hin
                  exact relStep_move (.tmp 16) rfl (wanted_some (g := 21) (t := 131) (b := false) rfl rfl h131) (by show fr.tmps.getD 16 undef = _; rw [h16])
                · intro w6 hb6 fr hout hin
                  have h132 : fr.tmps.getD 132 undef = .slice (some ⟨b2, off2, none⟩) K c9 := hin 132 (by decide) (by decide)
                  have h133 : fr.tmps.getD 133 undef = .int .i64 (j2 : Nat) := hin 133 (by decide) (by decide)
                  have h131 : fr.tmps.getD 131 undef = .bool false := hin 131 (by decide) (by decide)
                  clear hout hin
                  exact op_indexI (.tmp 132) (.tmp 133) rfl HJ2.out h132 h133 (wanted_some (g := 21) (t := 131) (b := false) rfl rfl h131) rfl
                · intro w6 hb6 fr hout hin
                  have h134 : fr.tmps.getD 134 undef = .pointer (some ⟨b2, off2 + j2 * 3, none⟩) := hin 134 (by decide) (by decide)
                  have h131 : fr.tmps.getD 131 undef = .bool false := hin 131 (by decide) (by decide)
                  clear hout hin
                  exact op_field0 (.tmp 134) rfl h134 (wanted_some (g := 21) (t := 131) (b := false) rfl rfl h131) rfl
                · intro w6 hb6 fr hout hin
                  have h135 : fr.tmps.getD 135 undef = .pointer (some ⟨b2, off2 + j2 * 3, none⟩) := hin 135 (by decide) (by decide)
                  have h131 : fr.tmps.getD 131 undef = .bool false := hin 131 (by decide) (by decide)
                  clear hout hin
                  exact op_loadB (.tmp 135) rfl h135 ((hb6.cell (p := ⟨b2, off2 + j2 * 3, none⟩) HPB5.out).trans Q0.out) (wanted_some (g := 21) (t := 131) (b := false) rfl rfl h131) rfl
                · intro w6 hb6 fr hout hin
                  have h136 : fr.tmps.getD 136 undef = .bool true := hin 136 (by decide) (by decide)
                  have h131 : fr.tmps.getD 131 undef = .bool false := hin 131 (by decide) (by decide)
                  clear hout hin
                  exact op_notP (b := true) (.tmp 136) _ rfl h136 (wanted_some (g := 21) (t := 131) (b := false) rfl rfl h131) rfl
                · intro w6 hb6 fr hout hin
                  have h137 : fr.tmps.getD 137 undef = .bool false := hin 137 (by decide) (by decide)
                  have h131 : fr.tmps.getD 131 undef = .bool false := hin 131 (by decide) (by decide)
                  clear hout hin
                  exact relStep_move (.tmp 137) rfl (wanted_some (g := 21) (t := 131) (b := false) rfl rfl h131) (by show fr.tmps.getD 137 undef = _; rw [h137])
                · intro w6 hb6 fr hout hin
                  have h138 : fr.tmps.getD 138 undef = .bool false := hin 138 (by decide) (by decide)
                  clear hout hin
                  exact relStep_skip (wanted_not (g := 28) (t := 138) (b := true) (c := false) rfl rfl h138 (by decide)) trivial
                · intro w6 hb6 fr hout hin
                  have h138 : fr.tmps.getD 138 undef = .bool false := hin 138 (by decide) (by decide)
                  clear hout hin
                  exact relStep_skip (wanted_not (g := 28) (t := 138) (b := true) (c := false) rfl rfl h138 (by decide)) trivial
                · intro w6 hb6 fr hout hin
                  have h138 : fr.tmps.getD 138 undef = .bool false := hin 138 (by decide) (by decide)
                  clear hout hin
                  exact relStep_skip (wanted_not (g := 28) (t := 138) (b := true) (c := false) rfl rfl h138 (by decide)) trivial
                · intro w6 hb6 fr hout hin
                  have h138 : fr.tmps.getD 138 undef = .bool false := hin 138 (by decide) (by decide)
                  clear hout hin
                  exact relStep_skip (wanted_not (g := 28) (t := 138) (b := true) (c := false) rfl rfl h138 (by decide)) trivial
                · intro w6 hb6 fr hout hin
                  have h138 : fr.tmps.getD 138 undef = .bool false := hin 138 (by decide) (by decide)
                  clear hout hin
                  exact relStep_skip (wanted_not (g := 28) (t := 138) (b := true) (c := false) rfl rfl h138 (by decide)) trivial
                · intro w6 hb6 fr hout hin
                  have h138 : fr.tmps.getD 138 undef = .bool false := hin 138 (by decide) (by decide)
                  clear hout hin
                  exact relStep_skip (wanted_not (g := 28) (t := 138) (b := true) (c := false) rfl rfl h138 (by decide)) trivial
                · intro w6 hb6 fr hout hin
                  have h138 : fr.tmps.getD 138 undef = .bool false := hin 138 (by decide) (by decide)
                  clear hout hin
                  exact relStep_skip (wanted_not (g := 28) (t := 138) (b := true) (c := false) rfl rfl h138 (by decide)) trivial
                · intro w6 hb6 fr hout hin
                  have h138 : fr.tmps.getD 138 undef = .bool false := hin 138 (by decide) (by decide)
                  clear hout hin
                  exact relStep_skip (wanted_not (g := 28) (t := 138) (b := true) (c := false) rfl rfl h138 (by decide)) trivial
                · intro w6 hb6 fr hout hin
                  have h138 : fr.tmps.getD 138 undef = .bool false := hin 138 (by decide) (by decide)
                  clear hout hin
                  exact relStep_skip (wanted_not (g := 28) (t := 138) (b := true) (c := false) rfl rfl h138 (by decide)) trivial
                · intro w6 hb6 fr hout hin
                  have h138 : fr.tmps.getD 138 undef = .bool false := hin 138 (by decide) (by decide)
                  have h131 : fr.tmps.getD 131 undef = .bool false := hin 131 (by decide) (by decide)
                  clear hout hin
                  exact relStep_pickF (.tmp 138) (.tmp 147) (.const (.bool false)) rfl h138 (wanted_some (g := 21) (t := 131) (b := false) rfl rfl h131) rfl
                · intro w6 hb6 fr hout hin
                  have h131 : fr.tmps.getD 131 undef = .bool false := hin 131 (by decide) (by decide)
                  have h148 : fr.tmps.getD 148 undef = .bool false := hin 148 (by decide) (by decide)
                  clear hout hin
                  exact relStep_pickF (.tmp 131) (.const (.bool true)) (.tmp 148) rfl h131 (wanted_none rfl) (by show fr.tmps.getD 148 undef = _; rw [h148])
              intro w6 hb6
              refine relAsk_in (by rfl) ?_
              intro v110 h110
              obtain rfl : v110 = .int .i64 0 := h110
              refine relAsk_in (by rfl) ?_
              intro v111 h111
              obtain rfl : v111 = .bool false := h111
              refine relAsk_in (by rfl) ?_
              intro v112 h112
              obtain rfl : v112 = .bool false := h112
              refine relAsk_in (by rfl) ?_
              intro v113 h113
              obtain rfl : v113 = .bool true := h113
              refine relAsk_in (by rfl) ?_
              intro v114 h114
              obtain rfl : v114 = .slice (some ⟨b2, off2, none⟩) K c9 := h114
              refine relAsk_in (by rfl) ?_
              intro v115 h115
              obtain rfl : v115 = .int .i64 (j2 : Nat) := h115
              refine relAsk_in (by rfl) ?_
              intro v116 h116
              obtain rfl : v116 = .pointer (some ⟨b2, off2 + j2 * 3, none⟩) := h116
              refine relAsk_in (by rfl) ?_
              intro v117 h117
              obtain rfl : v117 = .pointer (some ⟨b2, off2 + j2 * 3, none⟩) := h117
              refine relAsk_in (by rfl) ?_
              intro v118 h118
              obtain rfl : v118 = .bool true := h118
              refine relAsk_in (by rfl) ?_
              intro v119 h119
              obtain rfl : v119 = .bool false := h119
              refine relAsk_in (by rfl) ?_
              intro v120 h120
              obtain rfl : v120 = .bool false := h120
              refine relAsk_in (by rfl) ?_
              intro v121 h121
              obtain rfl : v121 = .bool false := h121
              refine relAsk_in (by rfl) ?_
              intro v122 h122
              obtain rfl : v122 = .slice A12 R c12 := h122
              refine relAsk_in (by rfl) ?_
              intro v123 h123
              obtain rfl : v123 = .string (sOf rr) := h123
              refine relAsk_in (by rfl) ?_
              intro v124 h124
              obtain rfl : v124 = .slice (some ⟨bA, oA, none⟩) n2 k2 := h124
              refine relAsk_in (by rfl) ?_
              intro v125 h125
              obtain rfl : v125 = .slice A8 F c8 := h125
              refine relAsk_in (by rfl) ?_
              intro v126 h126
              obtain rfl : v126 = .int .i64 (F : Nat) := h126
              refine relAsk_in (by rfl) ?_
              intro v127 h127
              obtain rfl : v127 = .slice (some ⟨bA, oF, none⟩) (n2 - F) (k2 - F) := h127
              refine relAsk_in (by rfl) ?_
              intro v128 h128
              obtain rfl : v128 = .string (sOf rr) := h128
              refine relAsk_in (by rfl) ?_
              intro v129 h129
              obtain rfl : v129 = .bool false := h129
              refine relAsk_in (by rfl) ?_
              intro v130 h130
              obtain rfl : v130 = .bool false := h130
              refine relAsk_in (by rfl) ?_
              intro v131 h131
              obtain rfl : v131 = .bool false := h131
              refine relAsk_in (by rfl) ?_
              intro v132 h132
              obtain rfl : v132 = .slice (some ⟨b2, off2, none⟩) K c9 := h132
              refine relAsk_in (by rfl) ?_
              intro v133 h133
              obtain rfl : v133 = .int .i64 (j2 : Nat) := h133
              refine relAsk_in (by rfl) ?_
              intro v134 h134
              obtain rfl : v134 = .pointer (some ⟨b2, off2 + j2 * 3, none⟩) := h134
              refine relAsk_in (by rfl) ?_
              intro v135 h135
              obtain rfl : v135 = .pointer (some ⟨b2, off2 + j2 * 3, none⟩) := h135
              refine relAsk_in (by rfl) ?_
              intro v136 h136
              obtain rfl : v136 = .bool true := h136
              refine relAsk_in (by rfl) ?_
              intro v137 h137
              obtain rfl : v137 = .bool false := h137
              refine relAsk_in (by rfl) ?_
              intro v138 h138
              obtain rfl : v138 = .bool false := h138
              refine relAsk_in (by rfl) ?_
              intro v139 h139
              clear h139
              refine relAsk_in (by rfl) ?_
              intro v140 h140
              clear h140
              refine relAsk_in (by rfl) ?_
              intro v141 h141
              clear h141
              refine relAsk_in (by rfl) ?_
              intro v142 h142
              clear h142
              refine relAsk_in (by rfl) ?_
              intro v143 h143
              clear h143
              refine relAsk_in (by rfl) ?_
              intro v144 h144
              clear h144
              refine relAsk_in (by rfl) ?_
              intro v145 h145
              clear h145
              refine relAsk_in (by rfl) ?_
              intro v146 h146
              clear h146
              refine relAsk_in (by rfl) ?_
              intro v147 h147
              clear h147
              refine relAsk_in (by rfl) ?_
              intro v148 h148
              obtain rfl : v148 = .bool false := h148
              refine relAsk_in (by rfl) ?_
              intro v149 h149
              obtain rfl : v149 = .bool false := h149
              refine relAsk_nil ?_
              refine wpList_nil ?_
              have HB6 := Lib.hid (HBW5.out.trans (hb6.mono HBW5.out.size))
              have HR6 := Lib.hid (HRF.out.below hb6)
              clear hb6 HBW5 HRF
              go_simp
              have hf1 : (F : Int) ≤ (n2 : Int) := by have := HFR.out; omega
              have hf2 : (n2 : Int) ≤ (k2 : Int) := by have := HFR.out; omega
              have hf3 : (F : Int) ≤ (k2 : Int) := by have := HFR.out; omega
              by_cases hc : k2 = F
              · have hoF : oF = oA := by have h := HOF.out; rwa [if_pos hc] at h
                subst hoF
                go_wp2_with fail
                exact ⟨⟨j2 + 1, _, _, _, HJ2.out, by simp, rfl, (by show _ = _; rw [← HRR.out, HRN.out, HRL.out]), (by have h := HR6.out; rw [HRR.out, show k2 - F = 0 by omega] at h; exact h), HB6.out⟩, by simp [intOf]; have := HJ2.out; omega⟩
              · have hoF : oF = oA + F := by have h := HOF.out; rwa [if_neg hc] at h
                subst hoF
                go_wp2_with fail
                exact ⟨⟨j2 + 1, _, _, _, HJ2.out, by simp, rfl, (by show _ = _; rw [← HRR.out, HRN.out, HRL.out]), (by have h := HR6.out; rw [HRR.out] at h; exact h), HB6.out⟩, by simp [intOf]; have := HJ2.out; omega⟩
            | false =>
              refine wp_region_see 40 [110, 111, 112, 113, 114, 115, 116, 117, 118, 119, 120, 121, 122, 123, 124, 125, 126, 127, 128, 129, 130, 131, 132, 133, 134, 135, 136, 137, 138, 139, 140, 141, 142, 143, 144, 145, 146, 147, 148, 149] [(110, .is (.int .i64 0)), (111, .is (.bool false)), (112, .is (.bool false)), (113, .is (.bool false)), (114, .is (.slice (some ⟨b2, off2, none⟩) K c9)), (115, .is (.int .i64 (j2 : Nat))), (116, .is (.pointer (some ⟨b2, off2 + j2 * 3, none⟩))), (117, .is (.pointer (some ⟨b2, off2 + j2 * 3, none⟩))), (118, .is (.bool false)), (119, .is (.bool false)), (120, .is (.bool false)), (121, .is (.bool false)), (122, .is (.slice A12 R c12)), (123, .is (.string (sOf rr))), (124, .is (.slice (some ⟨bA, oA, none⟩) n2 k2)), (125, .is (.slice A8 F c8)), (126, .is (.int .i64 (F : Nat))), (127, .is (.slice (some ⟨bA, oF, none⟩) (n2 - F) (k2 - F))), (128, .is (.string (sOf rr))), (129, .is (.bool false)), (130, .is (.bool false)), (131, .is (.bool false)), (132, .is (.slice (some ⟨b2, off2, none⟩) K c9)), (133, .is (.int .i64 (j2 : Nat))), (134, .is (.pointer (some ⟨b2, off2 + j2 * 3, none⟩))), (135, .is (.pointer (some ⟨b2, off2 + j2 * 3, none⟩))), (136, .is (.bool false)), (137, .is (.bool true)), (138, .is (.bool true)), (139, .is vu), (140, .is (.string (sOf bsy))), (141, .is (.slice (some ⟨b2, off2, none⟩) K c9)), (142, .is (.int .i64 (j2 : Nat))), (143, .is (.pointer (some ⟨b2, off2 + j2 * 3, none⟩))), (144, .is (.pointer (some ⟨b2, off2 + j2 * 3 + 1, none⟩))), (145, .is (.slice a3 n3 c3)), (146, .is (.string (sOf bsy))), (147, .is (.bool false)), (148, .is (.bool false)), (149, .is (.bool false))] (by kernel_rfl) (by kernel_rfl) (by rfl) ?_ ?_
              · refine seeOps_cons ?_ (seeOps_cons ?_ (seeOps_cons ?_ (seeOps_cons ?_ (seeOps_cons ?_ (seeOps_cons ?_ (seeOps_cons ?_ (seeOps_cons ?_ (seeOps_cons ?_ (seeOps_cons ?_ (seeOps_cons ?_ (seeOps_cons ?_ (seeOps_cons ?_ (seeOps_cons ?_ (seeOps_cons ?_ (seeOps_cons ?_ (seeOps_cons ?_ (seeOps_cons ?_ (seeOps_cons ?_ (seeOps_cons ?_ (seeOps_cons ?_ (seeOps_cons ?_ (seeOps_cons ?_ (seeOps_cons ?_ (seeOps_cons ?_ (seeOps_cons ?_ (seeOps_cons ?_ (seeOps_cons ?_ (seeOps_cons ?_ (seeOps_cons ?_ (seeOps_cons ?_ (seeOps_cons ?_ (seeOps_cons ?_ (seeOps_cons ?_ (seeOps_cons ?_ (seeOps_cons ?_ (seeOps_cons ?_ (seeOps_cons ?_ (seeOps_cons ?_ (seeOps_cons ?_ (seeOps_nil))))))))))))))))))))))))))))))))))))))))
                · intro w6 hb6 fr hout hin
                  have h22 : fr.tmps.getD 22 undef = .int .i64 0 := hout 22 (by decide)
                  clear hout hin
                  exact relStep_move (.tmp 22) rfl (wanted_none rfl) (by show fr.tmps.getD 22 undef = _; rw [h22])
                · intro w6 hb6 fr hout hin
                  have h110 : fr.tmps.getD 110 undef = .int .i64 0 := hin 110 (by decide) (by decide)
                  clear hout hin
                  exact op_neE (.tmp 110) (.const (.int .i64 0)) _ rfl h110 rfl (wanted_none rfl) rfl
                · intro w6 hb6 fr hout hin
                  have h111 : fr.tmps.getD 111 undef = .bool false := hin 111 (by decide) (by decide)
                  clear hout hin
                  exact relStep_move (.tmp 111) rfl (wanted_none rfl) (by show fr.tmps.getD 111 undef = _; rw [h111])
                · intro w6 hb6 fr hout hin
                  have h19 : fr.tmps.getD 19 undef = .bool false := hout 19 (by decide)
                  have h112 : fr.tmps.getD 112 undef = .bool false := hin 112 (by decide) (by decide)
                  clear hout hin
                  exact relStep_move (.tmp 19) rfl (wanted_some (g := 2) (t := 112) (b := false) rfl rfl h112) (by show fr.tmps.getD 19 undef = _; rw [h19])
                · intro w6 hb6 fr hout hin
                  have h4 : fr.tmps.getD 4 undef = .slice (some ⟨b2, off2, none⟩) K c9 := hout 4 (by decide)
                  have h112 : fr.tmps.getD 112 undef = .bool false := hin 112 (by decide) (by decide)
                  clear hout hin
                  exact relStep_move (.tmp 4) rfl (wanted_some (g := 2) (t := 112) (b := false) rfl rfl h112) (by show fr.tmps.getD 4 undef = _; rw [h4])
                · intro w6 hb6 fr hout hin
                  have h16 : fr.tmps.getD 16 undef = .int .i64 (j2 : Nat) := hout 16 (by decide)
                  have h112 : fr.tmps.getD 112 undef = .bool false := hin 112 (by decide) (by decide)
                  clear hout hin
                  exact relStep_move (.tmp 16) rfl (wanted_some (g := 2) (t := 112) (b := false) rfl rfl h112) (by show fr.tmps.getD 16 undef = _; rw [h16])
                · intro w6 hb6 fr hout hin
                  have h114 : fr.tmps.getD 114 undef = .slice (some ⟨b2, off2, none⟩) K c9 := hin 114 (by decide) (by decide)
                  have h115 : fr.tmps.getD 115 undef = .int .i64 (j2 : Nat) := hin 115 (by decide) (by decide)
                  have h112 : fr.tmps.getD 112 undef = .bool false := hin 112 (by decide) (by decide)
                  clear hout hin
                  exact op_indexI (.tmp 114) (.tmp 115) rfl HJ2.out h114 h115 (wanted_some (g := 2) (t := 112) (b := false) rfl rfl h112) rfl
                · intro w6 hb6 fr hout hin
                  have h116 : fr.tmps.getD 116 undef = .pointer (some ⟨b2, off2 + j2 * 3, none⟩) := hin 116 (by decide) (by decide)
                  have h112 : fr.tmps.getD 112 undef = .bool false := hin 112 (by decide) (by decide)
                  clear hout hin
                  exact op_field0 (.tmp 116) rfl h116 (wanted_some (g := 2) (t := 112) (b := false) rfl rfl h112) rfl
                · intro w6 hb6 fr hout hin
                  have h117 : fr.tmps.getD 117 undef = .pointer (some ⟨b2, off2 + j2 * 3, none⟩) := hin 117 (by decide) (by decide)
                  have h112 : fr.tmps.getD 112 undef = .bool false := hin 112 (by decide) (by decide)
                  clear hout hin
                  exact op_loadB (.tmp 117) rfl h117 ((hb6.cell (p := ⟨b2, off2 + j2 * 3, none⟩) HPB5.out).trans Q0.out) (wanted_some (g := 2) (t := 112) (b := false) rfl rfl h112) rfl
                · intro w6 hb6 fr hout hin
                  have h113 : fr.tmps.getD 113 undef = .bool false := hin 113 (by decide) (by decide)
                  have h118 : fr.tmps.getD 118 undef = .bool false := hin 118 (by decide) (by decide)
                  have h112 : fr.tmps.getD 112 undef = .bool false := hin 112 (by decide) (by decide)
                  clear hout hin
                  exact op_neB (.tmp 113) (.tmp 118) _ rfl h113 h118 (wanted_some (g := 2) (t := 112) (b := false) rfl rfl h112) rfl
                · intro w6 hb6 fr hout hin
                  have h112 : fr.tmps.getD 112 undef = .bool false := hin 112 (by decide) (by decide)
                  have h119 : fr.tmps.getD 119 undef = .bool false := hin 119 (by decide) (by decide)
                  clear hout hin
                  exact relStep_pickF (.tmp 112) (.const (.bool true)) (.tmp 119) rfl h112 (wanted_none rfl) (by show fr.tmps.getD 119 undef = _; rw [h119])
                · intro w6 hb6 fr hout hin
                  have h120 : fr.tmps.getD 120 undef = .bool false := hin 120 (by decide) (by decide)
                  clear hout hin
                  exact relStep_move (.tmp 120) rfl (wanted_none rfl) (by show fr.tmps.getD 120 undef = _; rw [h120])
                · intro w6 hb6 fr hout hin
                  have h21 : fr.tmps.getD 21 undef = .slice A12 R c12 := hout 21 (by decide)
                  have h121 : fr.tmps.getD 121 undef = .bool false := hin 121 (by decide) (by decide)
                  clear hout hin
                  exact relStep_move (.tmp 21) rfl (wanted_some (g := 11) (t := 121) (b := false) rfl rfl h121) (by show fr.tmps.getD 21 undef = _; rw [h21])
                · intro w6 hb6 fr hout hin
                  have h122 : fr.tmps.getD 122 undef = .slice A12 R c12 := hin 122 (by decide) (by decide)
                  have h121 : fr.tmps.getD 121 undef = .bool false := hin 121 (by decide) (by decide)
                  clear hout hin
                  exact op_str (bs := rr) (.tmp 122) rfl (by rw [show fr.eval (.tmp 122) = _ from h122]; exact ⟨_, _, by rw [← HRL.out], HR12.out.below hb6, HDR.out⟩) (wanted_some (g := 11) (t := 121) (b := false) rfl rfl h121) rfl
                · intro w6 hb6 fr hout hin
                  have h3 : fr.tmps.getD 3 undef = .slice (some ⟨bA, oA, none⟩) n2 k2 := hout 3 (by decide)
                  have h121 : fr.tmps.getD 121 undef = .bool false := hin 121 (by decide) (by decide)
                  clear hout hin
                  exact relStep_move (.tmp 3) rfl (wanted_some (g := 11) (t := 121) (b := false) rfl rfl h121) (by show fr.tmps.getD 3 undef = _; rw [h3])
                · intro w6 hb6 fr hout hin
                  have h17 : fr.tmps.getD 17 undef = .slice A8 F c8 := hout 17 (by decide)
                  have h121 : fr.tmps.getD 121 undef = .bool false := hin 121 (by decide) (by decide)
                  clear hout hin
                  exact relStep_move (.tmp 17) rfl (wanted_some (g := 11) (t := 121) (b := false) rfl rfl h121) (by show fr.tmps.getD 17 undef = _; rw [h17])
                · intro w6 hb6 fr hout hin
                  have h125 : fr.tmps.getD 125 undef = .slice A8 F c8 := hin 125 (by decide) (by decide)
                  have h121 : fr.tmps.getD 121 undef = .bool false := hin 121 (by decide) (by decide)
                  clear hout hin
                  exact op_lenB (.tmp 125) rfl h125 (wanted_some (g := 11) (t := 121) (b := false) rfl rfl h121) rfl
                · intro w6 hb6 fr hout hin
                  have h124 : fr.tmps.getD 124 undef = .slice (some ⟨bA, oA, none⟩) n2 k2 := hin 124 (by decide) (by decide)
                  have h126 : fr.tmps.getD 126 undef = .int .i64 (F : Nat) := hin 126 (by decide) (by decide)
                  have h121 : fr.tmps.getD 121 undef = .bool false := hin 121 (by decide) (by decide)
                  clear hout hin
                  exact op_from (.tmp 124) (.tmp 126) rfl HF1.out HF2.out HOF.out h124 h126 (wanted_some (g := 11) (t := 121) (b := false) rfl rfl h121) rfl
                · intro w6 hb6 fr hout hin
                  have h127 : fr.tmps.getD 127 undef = .slice (some ⟨bA, oF, none⟩) (n2 - F) (k2 - F) := hin 127 (by decide) (by decide)
                  have h121 : fr.tmps.getD 121 undef = .bool false := hin 121 (by decide) (by decide)
                  clear hout hin
                  exact op_str (bs := rr) (.tmp 127) rfl (by rw [show fr.eval (.tmp 127) = _ from h127]; exact ⟨_, _, by rw [HRN.out, ← HRL.out], HRF.out.below hb6, HDR.out⟩) (wanted_some (g := 11) (t := 121) (b := false) rfl rfl h121) rfl
                · intro w6 hb6 fr hout hin
                  have h123 : fr.tmps.getD 123 undef = .string (sOf rr) := hin 123 (by decide) (by decide)
                  have h128 : fr.tmps.getD 128 undef = .string (sOf rr) := hin 128 (by decide) (by decide)
                  have h121 : fr.tmps.getD 121 undef = .bool false := hin 121 (by decide) (by decide)
                  clear hout hin
                  exact op_neS (.tmp 123) (.tmp 128) _ rfl h123 h128 (wanted_some (g := 11) (t := 121) (b := false) rfl rfl h121) rfl
                · intro w6 hb6 fr hout hin
                  have h121 : fr.tmps.getD 121 undef = .bool false := hin 121 (by decide) (by decide)
                  have h129 : fr.tmps.getD 129 undef = .bool false := hin 129 (by decide) (by decide)
                  clear hout hin
                  exact relStep_pickF (.tmp 121) (.const (.bool true)) (.tmp 129) rfl h121 (wanted_none rfl) (by show fr.tmps.getD 129 undef = _; rw [h129])
                · intro w6 hb6 fr hout hin
                  have h130 : fr.tmps.getD 130 undef = .bool false := hin 130 (by decide) (by decide)
                  clear hout hin
                  exact relStep_move (.tmp 130) rfl (wanted_none rfl) (by show fr.tmps.getD 130 undef = _; rw [h130])
                · intro w6 hb6 fr hout hin
                  have h4 : fr.tmps.getD 4 undef = .slice (some ⟨b2, off2, none⟩) K c9 := hout 4 (by decide)
                  have h131 : fr.tmps.getD 131 undef = .bool false := hin 131 (by decide) (by decide)
                  clear hout hin
                  exact relStep_move (.tmp 4) rfl (wanted_some (g := 21) (t := 131) (b := false) rfl rfl h131) (by show fr.tmps.getD 4 undef = _; rw [h4])
                · intro w6 hb6 fr hout hin
                  have h16 : fr.tmps.getD 16 undef = .int .i64 (j2 : Nat) := hout 16 (by decide)
                  have h131 : fr.tmps.getD 131 undef = .bool false := hin 131 (by decide) (by decide)
                  clear hout hin
                  exact relStep_move (.tmp 16) rfl (wanted_some (g := 21) (t := 131) (b := false) rfl rfl h131) (by show fr.tmps.getD 16 undef = _; rw [h16])
                · intro w6 hb6 fr hout hin
                  have h132 : fr.tmps.getD 132 undef = .slice (some ⟨b2, off2, none⟩) K c9 := hin 132 (by decide) (by decide)
                  have h133 : fr.tmps.getD 133 undef = .int .i64 (j2 : Nat) := hin 133 (by decide) (by decide)
                  have h131 : fr.tmps.getD 131 undef = .bool false := hin 131 (by decide) (by decide)
                  clear hout hin
                  exact op_indexI (.tmp 132) (.tmp 133) rfl HJ2.out h132 h133 (wanted_some (g := 21) (t := 131) (b := false) rfl rfl h131) rfl
                · intro w6 hb6 fr hout hin
                  have h134 : fr.tmps.getD 134 undef = .pointer (some ⟨b2, off2 + j2 * 3, none⟩) := hin 134 (by decide) (by decide)
                  have h131 : fr.tmps.getD 131 undef = .bool false := hin 131 (by decide) (by decide)
                  clear hout hin
                  exact op_field0 (.tmp 134) rfl h134 (wanted_some (g := 21) (t := 131) (b := false) rfl rfl h131) rfl
                · intro w6 hb6 fr hout hin
                  have h135 : fr.tmps.getD 135 undef = .pointer (some ⟨b2, off2 + j2 * 3, none⟩) := hin 135 (by decide) (by decide)
                  have h131 : fr.tmps.getD 131 undef = .bool false := hin 131 (by decide) (by decide)
                  clear hout hin
                  exact op_loadB (.tmp 135) rfl h135 ((hb6.cell (p := ⟨b2, off2 + j2 * 3, none⟩) HPB5.out).trans Q0.out) (wanted_some (g := 21) (t := 131) (b := false) rfl rfl h131) rfl
                · intro w6 hb6 fr hout hin
                  have h136 : fr.tmps.getD 136 undef = .bool false := hin 136 (by decide) (by decide)
                  have h131 : fr.tmps.getD 131 undef = .bool false := hin 131 (by decide) (by decide)
                  clear hout hin
                  exact op_notP (b := false) (.tmp 136) _ rfl h136 (wanted_some (g := 21) (t := 131) (b := false) rfl rfl h131) rfl
                · intro w6 hb6 fr hout hin
                  have h137 : fr.tmps.getD 137 undef = .bool true := hin 137 (by decide) (by decide)
                  have h131 : fr.tmps.getD 131 undef = .bool false := hin 131 (by decide) (by decide)
                  clear hout hin
                  exact relStep_move (.tmp 137) rfl (wanted_some (g := 21) (t := 131) (b := false) rfl rfl h131) (by show fr.tmps.getD 137 undef = _; rw [h137])
                · intro w6 hb6 fr hout hin
                  have h20 : fr.tmps.getD 20 undef = vu := hout 20 (by decide)
                  have h138 : fr.tmps.getD 138 undef = .bool true := hin 138 (by decide) (by decide)
                  clear hout hin
                  exact relStep_move (.tmp 20) rfl (wanted_some (g := 28) (t := 138) (b := true) rfl rfl h138) (by show fr.tmps.getD 20 undef = _; rw [h20])
                · intro w6 hb6 fr hout hin
                  have h139 : fr.tmps.getD 139 undef = vu := hin 139 (by decide) (by decide)
                  have h138 : fr.tmps.getD 138 undef = .bool true := hin 138 (by decide) (by decide)
                  clear hout hin
                  exact op_str (bs := bsy) (.tmp 139) rfl (by rw [show fr.eval (.tmp 139) = _ from h139]; exact HU5.out.below hb6) (wanted_some (g := 28) (t := 138) (b := true) rfl rfl h138) rfl
                · intro w6 hb6 fr hout hin
                  have h4 : fr.tmps.getD 4 undef = .slice (some ⟨b2, off2, none⟩) K c9 := hout 4 (by decide)
                  have h138 : fr.tmps.getD 138 undef = .bool true := hin 138 (by decide) (by decide)
                  clear hout hin
                  exact relStep_move (.tmp 4) rfl (wanted_some (g := 28) (t := 138) (b := true) rfl rfl h138) (by show fr.tmps.getD 4 undef = _; rw [h4])
                · intro w6 hb6 fr hout hin
                  have h16 : fr.tmps.getD 16 undef = .int .i64 (j2 : Nat) := hout 16 (by decide)
                  have h138 : fr.tmps.getD 138 undef = .bool true := hin 138 (by decide) (by decide)
                  clear hout hin
                  exact relStep_move (.tmp 16) rfl (wanted_some (g := 28) (t := 138) (b := true) rfl rfl h138) (by show fr.tmps.getD 16 undef = _; rw [h16])
                · intro w6 hb6 fr hout hin
                  have h141 : fr.tmps.getD 141 undef = .slice (some ⟨b2, off2, none⟩) K c9 := hin 141 (by decide) (by decide)
                  have h142 : fr.tmps.getD 142 undef = .int .i64 (j2 : Nat) := hin 142 (by decide) (by decide)
                  have h138 : fr.tmps.getD 138 undef = .bool true := hin 138 (by decide) (by decide)
                  clear hout hin
                  exact op_indexI (.tmp 141) (.tmp 142) rfl HJ2.out h141 h142 (wanted_some (g := 28) (t := 138) (b := true) rfl rfl h138) rfl
                · intro w6 hb6 fr hout hin
                  have h143 : fr.tmps.getD 143 undef = .pointer (some ⟨b2, off2 + j2 * 3, none⟩) := hin 143 (by decide) (by decide)
                  have h138 : fr.tmps.getD 138 undef = .bool true := hin 138 (by decide) (by decide)
                  clear hout hin
                  exact op_field1 (.tmp 143) rfl h143 (wanted_some (g := 28) (t := 138) (b := true) rfl rfl h138) rfl
                · intro w6 hb6 fr hout hin
                  have h144 : fr.tmps.getD 144 undef = .pointer (some ⟨b2, off2 + j2 * 3 + 1, none⟩) := hin 144 (by decide) (by decide)
                  have h138 : fr.tmps.getD 138 undef = .bool true := hin 138 (by decide) (by decide)
                  clear hout hin
                  exact op_loadSB (.tmp 144) rfl h144 ((hb6.cell (p := ⟨b2, off2 + j2 * 3 + 1, none⟩) HPB5.out).trans Q1.out) (wanted_some (g := 28) (t := 138) (b := true) rfl rfl h138) rfl
                · intro w6 hb6 fr hout hin
                  have h145 : fr.tmps.getD 145 undef = .slice a3 n3 c3 := hin 145 (by decide) (by decide)
                  have h138 : fr.tmps.getD 138 undef = .bool true := hin 138 (by decide) (by decide)
                  clear hout hin
                  exact op_str (bs := bsy) (.tmp 145) rfl (by rw [show fr.eval (.tmp 145) = _ from h145]; exact ⟨_, _, by rw [← HN3.out], HR35.out.below hb6, HD3.out⟩) (wanted_some (g := 28) (t := 138) (b := true) rfl rfl h138) rfl
                · intro w6 hb6 fr hout hin
                  have h140 : fr.tmps.getD 140 undef = .string (sOf bsy) := hin 140 (by decide) (by decide)
                  have h146 : fr.tmps.getD 146 undef = .string (sOf bsy) := hin 146 (by decide) (by decide)
                  have h138 : fr.tmps.getD 138 undef = .bool true := hin 138 (by decide) (by decide)
                  clear hout hin
                  exact op_neS (.tmp 140) (.tmp 146) _ rfl h140 h146 (wanted_some (g := 28) (t := 138) (b := true) rfl rfl h138) rfl
                · intro w6 hb6 fr hout hin
                  have h138 : fr.tmps.getD 138 undef = .bool true := hin 138 (by decide) (by decide)
                  have h147 : fr.tmps.getD 147 undef = .bool false := hin 147 (by decide) (by decide)
                  have h131 : fr.tmps.getD 131 undef = .bool false := hin 131 (by decide) (by decide)
                  clear hout hin
                  exact relStep_pick (.tmp 138) (.tmp 147) (.const (.bool false)) rfl h138 (wanted_some (g := 21) (t := 131) (b := false) rfl rfl h131) (by show fr.tmps.getD 147 undef = _; rw [h147])
                · intro w6 hb6 fr hout hin
                  have h131 : fr.tmps.getD 131 undef = .bool false := hin 131 (by decide) (by decide)
                  have h148 : fr.tmps.getD 148 undef = .bool false := hin 148 (by decide) (by decide)
                  clear hout hin
                  exact relStep_pickF (.tmp 131) (.const (.bool true)) (.tmp 148) rfl h131 (wanted_none rfl) (by show fr.tmps.getD 148 undef = _; rw [h148])
              intro w6 hb6
              refine relAsk_in (by rfl) ?_
              intro v110 h110
              obtain rfl : v110 = .int .i64 0 := h110
              refine relAsk_in (by rfl) ?_
              intro v111 h111
              obtain rfl : v111 = .bool false := h111
              refine relAsk_in (by rfl) ?_
              intro v112 h112
              obtain rfl : v112 = .bool false := h112
              refine relAsk_in (by rfl) ?_
              intro v113 h113
              obtain rfl : v113 = .bool false := h113
              refine relAsk_in (by rfl) ?_
              intro v114 h114
              obtain rfl : v114 = .slice (some ⟨b2, off2, none⟩) K c9 := h114
              refine relAsk_in (by rfl) ?_
              intro v115 h115
              obtain rfl : v115 = .int .i64 (j2 : Nat) := h115
              refine relAsk_in (by rfl) ?_
              intro v116 h116
              obtain rfl : v116 = .pointer (some ⟨b2, off2 + j2 * 3, none⟩) := h116
              refine relAsk_in (by rfl) ?_
              intro v117 h117
              obtain rfl : v117 = .pointer (some ⟨b2, off2 + j2 * 3, none⟩) := h117
              refine relAsk_in (by rfl) ?_
              intro v118 h118
              obtain rfl : v118 = .bool false := h118
              refine relAsk_in (by rfl) ?_
              intro v119 h119
              obtain rfl : v119 = .bool false := h119
              refine relAsk_in (by rfl) ?_
              intro v120 h120
              obtain rfl : v120 = .bool false := h120
              refine relAsk_in (by rfl) ?_
              intro v121 h121
              obtain rfl : v121 = .bool false := h121
              refine relAsk_in (by rfl) ?_
              intro v122 h122
              obtain rfl : v122 = .slice A12 R c12 := h122
              refine relAsk_in (by rfl) ?_
              intro v123 h123
              obtain rfl : v123 = .string (sOf rr) := h123
              refine relAsk_in (by rfl) ?_
              intro v124 h124
              obtain rfl : v124 = .slice (some ⟨bA, oA, none⟩) n2 k2 := h124
              refine relAsk_in (by rfl) ?_
              intro v125 h125
              obtain rfl : v125 = .slice A8 F c8 := h125
              refine relAsk_in (by rfl) ?_
              intro v126 h126
              obtain rfl : v126 = .int .i64 (F : Nat) := h126
              refine relAsk_in (by rfl) ?_
              intro v127 h127
              obtain rfl : v127 = .slice (some ⟨bA, oF, none⟩) (n2 - F) (k2 - F) := h127
              refine relAsk_in (by rfl) ?_
              intro v128 h128
              obtain rfl : v128 = .string (sOf rr) := h128
              refine relAsk_in (by rfl) ?_
              intro v129 h129
              obtain rfl : v129 = .bool false := h129
              refine relAsk_in (by rfl) ?_
              intro v130 h130
              obtain rfl : v130 = .bool false := h130
              refine relAsk_in (by rfl) ?_
              intro v131 h131
              obtain rfl : v131 = .bool false := h131
              refine relAsk_in (by rfl) ?_
              intro v132 h132
              obtain rfl : v132 = .slice (some ⟨b2, off2, none⟩) K c9 := h132
              refine relAsk_in (by rfl) ?_
              intro v133 h133
              obtain rfl : v133 = .int .i64 (j2 : Nat) := h133
              refine relAsk_in (by rfl) ?_
              intro v134 h134
              obtain rfl : v134 = .pointer (some ⟨b2, off2 + j2 * 3, none⟩) := h134
              refine relAsk_in (by rfl) ?_
              intro v135 h135
              obtain rfl : v135 = .pointer (some ⟨b2, off2 + j2 * 3, none⟩) := h135
              refine relAsk_in (by rfl) ?_
              intro v136 h136
              obtain rfl : v136 = .bool false := h136
              refine relAsk_in (by rfl) ?_
              intro v137 h137
              obtain rfl : v137 = .bool true := h137
              refine relAsk_in (by rfl) ?_
              intro v138 h138
              obtain rfl : v138 = .bool true := h138
              refine relAsk_in (by rfl) ?_
              intro v139 h139
              obtain rfl : v139 = vu := h139
              refine relAsk_in (by rfl) ?_
              intro v140 h140
              obtain rfl : v140 = .string (sOf bsy) := h140
              refine relAsk_in (by rfl) ?_
              intro v141 h141
              obtain rfl : v141 = .slice (some ⟨b2, off2, none⟩) K c9 := h141
              refine relAsk_in (by rfl) ?_
              intro v142 h142
              obtain rfl : v142 = .int .i64 (j2 : Nat) := h142
              refine relAsk_in (by rfl) ?_
              intro v143 h143
              obtain rfl : v143 = .pointer (some ⟨b2, off2 + j2 * 3, none⟩) := h143
              refine relAsk_in (by rfl) ?_
              intro v144 h144
              obtain rfl : v144 = .pointer (some ⟨b2, off2 + j2 * 3 + 1, none⟩) := h144
              refine relAsk_in (by rfl) ?_
              intro v145 h145
              obtain rfl : v145 = .slice a3 n3 c3 := h145
              refine relAsk_in (by rfl) ?_
              intro v146 h146
              obtain rfl : v146 = .string (sOf bsy) := h146
              refine relAsk_in (by rfl) ?_
              intro v147 h147
              obtain rfl : v147 = .bool false := h147
              refine relAsk_in (by rfl) ?_
              intro v148 h148
              obtain rfl : v148 = .bool false := h148
              refine relAsk_in (by rfl) ?_
              intro v149 h149
              obtain rfl : v149 = .bool false := h149
              refine relAsk_nil ?_
              refine wpList_nil ?_
              have HB6 := Lib.hid (HBW5.out.trans (hb6.mono HBW5.out.size))
              have HR6 := Lib.hid (HRF.out.below hb6)
              clear hb6 HBW5 HRF
              go_simp
              have hf1 : (F : Int) ≤ (n2 : Int) := by have := HFR.out; omega
              have hf2 : (n2 : Int) ≤ (k2 : Int) := by have := HFR.out; omega
              have hf3 : (F : Int) ≤ (k2 : Int) := by have := HFR.out; omega
              by_cases hc : k2 = F
              · have hoF : oF = oA := by have h := HOF.out; rwa [if_pos hc] at h
                subst hoF
                go_wp2_with fail
                exact ⟨⟨j2 + 1, _, _, _, HJ2.out, by simp, rfl, (by show _ = _; rw [← HRR.out, HRN.out, HRL.out]), (by have h := HR6.out; rw [HRR.out, show k2 - F = 0 by omega] at h; exact h), HB6.out⟩, by simp [intOf]; have := HJ2.out; omega⟩
              · have hoF : oF = oA + F := by have h := HOF.out; rwa [if_neg hc] at h
                subst hoF
                go_wp2_with fail
                exact ⟨⟨j2 + 1, _, _, _, HJ2.out, by simp, rfl, (by show _ = _; rw [← HRR.out, HRN.out, HRL.out]), (by have h := HR6.out; rw [HRR.out] at h; exact h), HB6.out⟩, by simp [intOf]; have := HJ2.out; omega⟩
          · have hj3 : ¬ (j2 : Int) < (K : Int) := by omega
            have e0 : ys.drop j2 = [] := List.drop_eq_nil_of_le (by have := HK.out; omega)
            have hn0 : n2 = 0 := by have h := hn2.out; rw [e0, formL] at h; exact h
            subst hn0
            have HB6 := Lib.hid (HB2.out.trans (hbw.out.mono HB2.out.size))
            clear hbw hr2 hn2 e0 hjK hj2'
            go_wp2_with fail
            (with_reducible refine (rwakes_c _).mono ?_)
            rintro e w6 ⟨rfl, hb6⟩
            have HB7 := Lib.hid (HB6.out.trans (hb6.mono HB6.out.size))
            clear hb6 HB6
            go_wp2_with fail
            go_ret
            exact ⟨rfl, HB7.out⟩
end Go.Proofs.Ytchhnalalplggaa
