/- The contracts of the reference's digit, Runes and fault: layer 4. -/
import Derived.Test.YtgmpoefgcimaiaaHDigits
import Derived.Test.YtgmpoefgcimaiaaRTrim
namespace Go.Proofs.Ytgmpoefgcimaiaa
open Go.RowKit

/-- Numbers of one kind as values; a slice that owns them, in a block from base on. -/
def gv (k : IntKind) (xs : List Nat) : List Value := xs.map fun n : Nat => Value.int k (n : Int)
theorem gv_length (k : IntKind) (xs : List Nat) : (gv k xs).length = xs.length := by simp [gv]
theorem gv_append (k : IntKind) (xs ys : List Nat) : gv k (xs ++ ys) = gv k xs ++ gv k ys := by simp [gv]
theorem gv_get (k : IntKind) (xs : List Nat) (j : Nat) (h : j < xs.length) : (gv k xs)[j]? = some (.int k (xs.getD j 0 : Nat)) := by simp [gv, List.getElem?_eq_getElem h]
def AccG (k : IntKind) (t : TypeId) (w : World) (base : Nat) (v : Value) (xs : List Nat) : Prop := w.ownsRow base t 1 v xs.length (gv k xs)
section
variable {k : IntKind} {t : TypeId} {w w' : World} {base n c : Nat} {A : Option Addr} {v : Value} {xs : List Nat}
theorem AccG.nil (w : World) (base : Nat) : AccG k t w base (.slice none 0 0) [] := World.ownsRow_nil _ _ _ _
theorem AccG.form (h : AccG k t w base v xs) : ∃ A c, v = .slice A xs.length c := by
  rcases h.2 with ⟨e, h0⟩ | ⟨g, cap, cur, e, _⟩
  · exact ⟨none, 0, by rw [e, h0]⟩
  · exact ⟨_, _, e⟩
theorem AccG.rd (h : AccG k t w base (.slice A n c) xs) : Rd k w A c xs := by
  rcases h.2 with ⟨e, h0⟩ | ⟨g, cap, cur, e, hb, hh, hc, _, hs, ht⟩
  · injection e with e1 e2 e3
    have : xs = [] := List.eq_nil_of_length_eq_zero h0
    subst e1 e3 this
    exact Rd.nil _
  · injection e with e1 e2 e3
    subst e1 e3
    refine ⟨hc, (fun h => by cases h), fun _ => ⟨g, 0, rfl, ?_, fun j hj => ?_⟩⟩
    · rcases Nat.lt_or_ge g w.heap.size with hlt | hge
      · exact hlt
      · rw [Array.getElem?_eq_none hge] at hh; cases hh
    · have := World.ownsRow.cells h (g := g) rfl j _ (gv_get k xs j hj)
      rw [Nat.zero_add]
      have e : (⟨g, 0, none⟩ : Addr).add j = ⟨g, j, none⟩ := by unfold Addr.add; by_cases h : j = 0 <;> simp [h]
      rwa [e] at this
theorem AccG.own (h : AccG k t w base v xs) : ∀ b, v.ownBlock = some b → base ≤ b := fun b hk => by
  rcases h.2 with ⟨e, h0⟩ | ⟨g, cap, cur, e, hb, _⟩
  · rw [e] at hk; simp [Value.ownBlock] at hk
  · rw [e] at hk; simp [Value.ownBlock] at hk; omega
end
/-- The new cell of an append of one number. -/
theorem one_cellG {w : World} {k : IntKind} {t : TypeId} {c : Nat} : ∀ j u, ([Value.int k (c : Int)] : List Value)[j]? = some u → (w.alloc (.cells #[.int k (c : Int)] t)).cell? ((⟨w.heap.size, 0, none⟩ : Addr).add j) = some u := by
  intro j u hj
  match j, hj with
  | 0, hj =>
    simp at hj
    subst hj
    have h := cell_of_row (w.alloc (.cells #[.int k (c : Int)] t)) w.heap.size 0 #[.int k (c : Int)] t (0, 0) (heap_alloc_new w _)
    exact h
theorem infoR : (Try.prog.info? 21).map (fun i => (i.zero, i.size, i.bytes)) = some (some (.int .i32 0), 1, 4) := by kernel_rfl
theorem infoI : (Try.prog.info? 3).map (fun i => (i.zero, i.size, i.bytes)) = some (some (.int .i64 0), 1, 8) := by kernel_rfl
theorem infoG {t : TypeId} {z : Value} {s b : Nat} (h : (Try.prog.info? t).map (fun i => (i.zero, i.size, i.bytes)) = some (some z, s, b)) : ∃ i, Try.prog.info? t = some i ∧ i.zero = some z ∧ i.size = s ∧ i.bytes = b := by
  obtain ⟨i, hi, he⟩ := Option.map_eq_some_iff.1 h
  injection he with h1 h2
  injection h2 with h2 h3
  exact ⟨i, hi, h1, h2, h3⟩

/-- What the reference's digit tells. -/
def rdig (r : Int) : Int := if digOk r = true then (digN r : Int) else -1
set_option maxRecDepth 100000 in
set_option maxHeartbeats 1600000 in
theorem rdigit_c (r : Int) (h0 : 0 ≤ r) (h1 : r ≤ 2147483647) (w : World) : Calls Try.prog 51 #[.int .i32 r] w fun e w' => e = .returned (.int .i64 (rdig r)) ∧ w' = w := by
  have fin : ∀ (v : Int), v = (rdig r) → Ending.returned (.int .i64 v) = .returned (.int .i64 (rdig r)) := fun v h => by rw [h]
  have FIN := Lib.hid fin
  clear fin
  by_cases a1 : 48 ≤ r ∧ r ≤ 57
  · obtain ⟨a1, a2⟩ := a1
    have e1 : IntKind.i32.wrap (r - 48) = r - 48 := by rw [IntWalk.i32_in _ (by omega)]
    have e2 : IntKind.i64.wrap (r - 48) = r - 48 := by rw [IntWalk.i64_in _ (by omega)]
    have E := Lib.hid (show r - 48 = (rdig r) by
      have : digOk r = true := by simp [digOk, a1, a2]
      unfold rdig; rw [if_pos this]; unfold digN; rw [if_pos ⟨a1, a2⟩]; omega)
    go_enter Try.func51, Try.ntmps51
    go_wp2_with fail
    go_ret
    exact ⟨FIN.out _ E.out, rfl⟩
  · by_cases a2 : 97 ≤ r ∧ r ≤ 102
    · obtain ⟨a2, a3⟩ := a2
      have a4 : ¬ r ≤ 57 := by omega
      have e1 : IntKind.i32.wrap (r - 97) = r - 97 := by rw [IntWalk.i32_in _ (by omega)]
      have e2 : IntKind.i64.wrap (r - 97) = r - 97 := by rw [IntWalk.i64_in _ (by omega)]
      have e3 : IntKind.i64.wrap (r - 97 + 10) = r - 97 + 10 := by rw [IntWalk.i64_in _ (by omega)]
      have E := Lib.hid (show r - 97 + 10 = (rdig r) by
        have : digOk r = true := by simp [digOk, a2, a3]
        unfold rdig; rw [if_pos this]; unfold digN; rw [if_neg a1, if_pos ⟨a2, a3⟩]; omega)
      clear a1
      go_enter Try.func51, Try.ntmps51
      go_wp2_with fail
      go_ret
      exact ⟨FIN.out _ E.out, rfl⟩
    · by_cases a3 : 65 ≤ r ∧ r ≤ 70
      · obtain ⟨a3, a4⟩ := a3
        have a5 : ¬ r ≤ 57 := by omega
        have a6 : ¬ 97 ≤ r := by omega
        have e1 : IntKind.i32.wrap (r - 65) = r - 65 := by rw [IntWalk.i32_in _ (by omega)]
        have e2 : IntKind.i64.wrap (r - 65) = r - 65 := by rw [IntWalk.i64_in _ (by omega)]
        have e3 : IntKind.i64.wrap (r - 65 + 10) = r - 65 + 10 := by rw [IntWalk.i64_in _ (by omega)]
        have E := Lib.hid (show r - 65 + 10 = (rdig r) by
          have : digOk r = true := by simp [digOk, a3, a4]
          unfold rdig; rw [if_pos this]; unfold digN; rw [if_neg a1, if_neg a2, if_pos ⟨a3, a4⟩]; omega)
        clear a1 a2
        go_enter Try.func51, Try.ntmps51
        go_wp2_with fail
        go_ret
        exact ⟨FIN.out _ E.out, rfl⟩
      · have E := Lib.hid (show (-1 : Int) = (rdig r) by
          have c1 : (decide (48 ≤ r ∧ r ≤ 57)) = false := by simpa using a1
          have c2 : (decide (97 ≤ r ∧ r ≤ 102)) = false := by simpa using a2
          have c3 : (decide (65 ≤ r ∧ r ≤ 70)) = false := by simpa using a3
          have : ¬ digOk r = true := by unfold digOk; rw [c1, c2, c3]; decide
          unfold rdig; rw [if_neg this])
        rcases (show r < 48 ∨ (57 < r ∧ r < 65) ∨ (70 < r ∧ r < 97) ∨ 102 < r by omega) with h | ⟨h, k⟩ | ⟨h, k⟩ | h
        all_goals
          clear a1 a2 a3
          go_enter Try.func51, Try.ntmps51
          go_wp2_with fail
          go_ret
          exact ⟨FIN.out _ E.out, rfl⟩

set_option maxRecDepth 100000 in
theorem rfault_c (y a : Int) (w : World) : Calls Try.prog 28 #[.int .i64 y, .int .i64 a] w fun e w' => e = .returned (.agg #[.int .i64 y, .int .i64 a]) ∧ Below w.heap.size w w' := by
  go_enter Try.func28, Try.ntmps28
  go_wp2_with fail
  exact bodyPost_ret (v := .agg #[.int .i64 y, .int .i64 a]) (by simp [results, Try.results28, go_sem]) rfl ⟨rfl, (Below.refl _ _).alloc (Nat.le_refl _) _⟩

theorem runesAt_len (s : ByteArray) (pos : Nat) : (runesAt s pos).length ≤ s.size - pos := by
  have : ∀ f pos, (runesF s f pos).length ≤ f := by
    intro f
    induction f with
    | zero => intro _; exact Nat.le_refl _
    | succ f ih =>
      intro pos
      unfold runesF
      split
      · have := ih (pos + (Utf8.decode s pos).2); simp only [List.length_cons]; omega
      · simp
  exact this _ _

set_option maxRecDepth 100000 in
set_option maxHeartbeats 6400000 in
theorem runes_c (s : ByteArray) (w : World) (hs : s.size ≤ 1073741824) : Calls Try.prog 50 #[.string s] w fun e w' =>
    ∃ v, e = .returned v ∧ AccG .i32 21 w' w.heap.size v (runesAt s 0) ∧ Below w.heap.size w w' := by
  obtain ⟨i0, hi, hz0, hz1, hz2⟩ := infoG infoR
  have h1 : (w.alloc (.stringIter s 0)).heap[w.heap.size]? = some (.stringIter s 0) := by simpa using heap_alloc_new w (.stringIter s 0)
  have H1 := Lib.hid h1
  have HB := Lib.hid ((Below.refl w.heap.size w).alloc (Nat.le_refl _) (.stringIter s 0))
  clear h1
  have HA0 := Lib.hid (AccG.nil (k := .i32) (t := 21) (w.alloc (.stringIter s 0)) w.heap.size)
  obtain ⟨R, hR⟩ : ∃ R, R = runesAt s 0 := ⟨_, rfl⟩
  rw [← hR]
  have HRR := Lib.hid hR
  clear hR
  go_enter Try.func50, Try.ntmps50
  go_wp2_with fail
  go_loopw [3] (fun v wr => ∃ (n c : Nat) (A : Option Addr) (pos : Nat) (xs : List Nat), v = .slice A n c ∧ Hid (n = xs.length) ∧ Hid (n ≤ pos) ∧ n ≤ s.size ∧ Hid (R = xs ++ runesAt s pos) ∧ Hid (wr.heap[w.heap.size]? = some (.stringIter s pos)) ∧ Hid (AccG .i32 21 wr (w.heap.size + 1) v xs) ∧ Hid (Below w.heap.size w wr))
    (fun v _ => match v with | .slice _ n _ => s.size - n | _ => 0)
  case atStart => exact ⟨0, 0, none, 0, [], rfl, rfl, Nat.le_refl _, Nat.zero_le _, HRR.out, H1.out, AccG.nil _ _, HB.out⟩
  case round =>
    clear H1 HB HA0 HRR
    obtain ⟨n, c, A, pos, xs, rfl, hnl, hnp, hns, hR, hit, hacc, hbel⟩ := hrel
    by_cases hp : pos < s.size
    · have hnx : ∀ ty, (Instr.next (.pointer (some ⟨w.heap.size, 0, none⟩)) true ty).run Try.prog wr = _ := fun ty => Lib.run_next_any_at wr w.heap.size s pos ty hit.out hp
      have hit2 := Lib.hid (Lib.iterAt_heap wr w.heap.size s pos (pos + (Utf8.decode s pos).2) hit.out)
      have hbel2 := Lib.hid (Lib.below_iterAt hbel.out (k := w.heap.size) (Nat.le_refl _) s (pos + (Utf8.decode s pos).2))
      have hwd := decode_wide s pos hp
      have hd1 := decode_le s pos
      have hR2 : Hid (R = (xs ++ [(Utf8.decode s pos).1]) ++ runesAt s (pos + (Utf8.decode s pos).2)) := by
        show R = _
        rw [hR.out, runesAt_cons s pos hp, List.append_assoc]; rfl
      have hnp2 : Hid (n + 1 ≤ pos + (Utf8.decode s pos).2) := by show _ ≤ _; have := hnp.out; omega
      have hns2 : n + 1 ≤ s.size := by have := hnp.out; omega
      have hacc2 : AccG .i32 21 (wr.iterAt w.heap.size s (pos + (Utf8.decode s pos).2)) (w.heap.size + 1) (.slice A n c) xs := by
        rcases hacc.out.2 with ⟨e, h0⟩ | ⟨g, cap, cur, e, hb, hg, rest⟩
        · exact ⟨hacc.out.1, .inl ⟨e, h0⟩⟩
        · exact ⟨hacc.out.1, .inr ⟨g, cap, cur, e, hb, by rw [Lib.iterAt_other _ _ _ _ _ (by omega)]; exact hg, rest⟩⟩
      have hsz : w.heap.size + 1 ≤ wr.heap.size := by
        rcases Nat.lt_or_ge w.heap.size wr.heap.size with h | h
        · exact h
        · have := hit.out; rw [Array.getElem?_eq_none h] at this; cases this
      have hszW : wr.heap.size = (wr.iterAt w.heap.size s (pos + (Utf8.decode s pos).2)).heap.size := (Lib.iterAt_size _ _ _ _).symm
      rw [hszW] at hsz
      obtain ⟨W, hW⟩ : ∃ W, W = wr.iterAt w.heap.size s (pos + (Utf8.decode s pos).2) := ⟨_, rfl⟩
      obtain ⟨r, hr⟩ : ∃ r, r = (Utf8.decode s pos).1 := ⟨_, rfl⟩
      rw [← hW] at hit2 hbel2 hacc2 hsz
      rw [← hr] at hR2 hd1
      rw [← hW, ← hr] at hnx
      have HACC := Lib.hid hacc2
      have HNL := Lib.hid hnl.out
      clear hW hr hit hbel hacc hacc2 hnp hR hnl hszW
      go_wp2_with (at_builtin; refine wpList_append_own _ rfl (.tmp 11) (.tmp 13) 93 rfl (w.heap.size + 1) 21 i0 (.int .i32 0) 1 4 Try.underlying93 hi hz0 hz1 hz2 rfl (by decide) _ _ _ rfl (World.ownsRow.alloc HACC.out _) ⟨W.heap.size, 0, none⟩ 1 1 [.int .i32 (r : Int)] rfl rfl one_cellG (by intro u hu; simp at hu; subst hu; rfl) (by have := HNL.out; unfold maxLen; omega) (by have := HNL.out; omega) (by simp; omega) ?_)
      intro v' w1 hown hg _
      have hacc1 : AccG .i32 21 w1 (w.heap.size + 1) v' (xs ++ [r]) := by
        unfold AccG; rw [gv_append, List.length_append]
        exact hown
      have hbel1 : Below w.heap.size w w1 := (hbel2.out.alloc (by omega) _).grown hg (by simp; omega) (fun k hk => by have := AccG.own HACC.out k hk; omega)
      have hit1 : w1.heap[w.heap.size]? = some (.stringIter s (pos + (Utf8.decode s pos).2)) := by
        rw [hg.block w.heap.size (by simp; omega) (fun e => by have := AccG.own HACC.out _ e.symm; omega), Below.heap_alloc _ _ _ (by omega)]
        exact hit2.out
      obtain ⟨A1, c1, rfl⟩ := hacc1.form
      have hn1 : (xs ++ [r]).length = n + 1 := by have := HNL.out; rw [List.length_append]; simp; omega
      rw [hn1] at hacc1
      rw [hn1]
      have HA1 := Lib.hid hacc1
      have HB1 := Lib.hid hbel1
      have HI1 := Lib.hid hit1
      have HN1 := Lib.hid hn1
      clear hown hg hacc1 hbel1 hit1 HACC hbel2 hit2 hn1
      go_wp2_with fail
      go_roundw
      case rel => exact ⟨n + 1, c1, A1, _, xs ++ [r], rfl, HN1.out.symm, hnp2.out, hns2, hR2.out, HI1.out, HA1.out, HB1.out⟩
      case measure => show _ < _; simp; omega
    · have hnx : ∀ ty, (Instr.next (.pointer (some ⟨w.heap.size, 0, none⟩)) true ty).run Try.prog wr = _ := fun ty => Lib.run_next_end_at wr w.heap.size s pos ty hit.out hp
      have hR2 : R = xs := by rw [hR.out, runesAt_nil s pos hp, List.append_nil]
      have HA := hacc.out
      rw [← hR2] at HA
      have HAH := Lib.hid HA
      clear HA hR2
      go_wp2_with fail
      go_ret
      refine ⟨_, rfl, ?_, hbel.out⟩
      rcases HAH.out.2 with ⟨e, h0⟩ | ⟨g, cap, cur, e, hb, rest⟩
      · exact ⟨HAH.out.1, .inl ⟨e, h0⟩⟩
      · exact ⟨HAH.out.1, .inr ⟨g, cap, cur, e, by omega, rest⟩⟩
end Go.Proofs.Ytgmpoefgcimaiaa
