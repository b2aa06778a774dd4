/- The pieces of a line: package hexa's Fields and the reference's. -/
import Derived.Test.YtopeahjdglkheaaDoorHRef1
import Derived.Test.YtopeahjdglkheaaDoorHShelf
namespace Go.Proofs.YtopeahjdglkheaaDoor
open Go.RowKit

def wh (r : Nat) : Bool := decide ((9 ≤ r ∧ r ≤ 13) ∨ r = 32 ∨ r = 133 ∨ r = 160)
set_option maxRecDepth 100000 in
set_option maxHeartbeats 3200000 in
theorem white_c (r : Nat) (_hr : r ≤ 2147483647) (w : World) : Calls Tryd.prog 52 #[.int .i32 (r : Nat)] w fun e w' => e = .returned (.bool (wh r)) ∧ w' = w := by
  rcases (show r = 9 ∨ r = 10 ∨ r = 11 ∨ r = 12 ∨ r = 13 ∨ r = 32 ∨ r = 133 ∨ r = 160 ∨ (r ≠ 9 ∧ r ≠ 10 ∧ r ≠ 11 ∧ r ≠ 12 ∧ r ≠ 13 ∧ r ≠ 32 ∧ r ≠ 133 ∧ r ≠ 160) by omega) with rfl | rfl | rfl | rfl | rfl | rfl | rfl | rfl | ⟨h1, h2, h3, h4, h5, h6, h7, h8⟩
  iterate 8
    · go_enter Tryd.func52, Tryd.ntmps52
      go_wp2_with fail
      go_ret
      exact ⟨rfl, rfl⟩
  · have e : wh r = false := by unfold wh; simp; omega
    rw [e]
    have k1 : ((r : Int) == 9) = false := by simpa using (by omega : ¬ (r : Int) = 9)
    have k2 : ((r : Int) == 10) = false := by simpa using (by omega : ¬ (r : Int) = 10)
    have k3 : ((r : Int) == 11) = false := by simpa using (by omega : ¬ (r : Int) = 11)
    have k4 : ((r : Int) == 12) = false := by simpa using (by omega : ¬ (r : Int) = 12)
    have k5 : ((r : Int) == 13) = false := by simpa using (by omega : ¬ (r : Int) = 13)
    have k6 : ((r : Int) == 32) = false := by simpa using (by omega : ¬ (r : Int) = 32)
    have k7 : ((r : Int) == 133) = false := by simpa using (by omega : ¬ (r : Int) = 133)
    have k8 : ((r : Int) == 160) = false := by simpa using (by omega : ¬ (r : Int) = 160)
    clear h1 h2 h3 h4 h5 h6 h7 h8 e
    go_enter Tryd.func52, Tryd.ntmps52
    go_wp2_with fail
    go_ret
    exact ⟨rfl, rfl⟩
set_option maxRecDepth 100000 in
set_option maxHeartbeats 3200000 in
theorem clone_c (s : ByteArray) (hs : s.size ≤ 1073741824) (w : World) : Calls Tryd.prog 53 #[.string s] w fun e w' => e = .returned (.string s) ∧ Below w.heap.size w w' := by
  have C := Lib.hid (hstringslite_Clone s w (by omega))
  clear hs
  go_enter Tryd.func53, Tryd.ntmps53
  go_wp2_with fail
  (with_reducible refine C.out.mono ?_)
  rintro e w1 ⟨rfl, hb⟩
  have HB := Lib.hid hb
  clear hb C
  go_wp2_with fail
  go_ret
  exact ⟨rfl, HB.out⟩

/-- The pieces of a text from a place on, where a piece has begun there or not. -/
def flF (s : ByteArray) : Nat → Nat → Option Nat → List ByteArray
  | 0, _, none => []
  | 0, _, some a => [s.extract a s.size]
  | f + 1, pos, b => if pos < s.size then
      (match wh (Utf8.decode s pos).1, b with
      | true, some a => s.extract a pos :: flF s f (pos + (Utf8.decode s pos).2) none
      | true, none => flF s f (pos + (Utf8.decode s pos).2) none
      | false, some a => flF s f (pos + (Utf8.decode s pos).2) (some a)
      | false, none => flF s f (pos + (Utf8.decode s pos).2) (some pos))
    else (match b with | some a => [s.extract a s.size] | none => [])
theorem flF_end (s : ByteArray) (f pos : Nat) (b : Option Nat) (h : ¬ pos < s.size) : flF s f pos b = (match b with | some a => [s.extract a s.size] | none => []) := by
  cases f with
  | zero => cases b <;> rfl
  | succ f => rw [flF.eq_def]; simp only [if_neg h]
theorem flF_more (s : ByteArray) : ∀ (f g pos : Nat) (b : Option Nat), s.size - pos ≤ f → s.size - pos ≤ g → flF s f pos b = flF s g pos b
  | 0, g, pos, b, h1, h2 => by rw [flF_end s 0 pos b (by omega), flF_end s g pos b (by omega)]
  | f + 1, 0, pos, b, h1, h2 => by rw [flF_end s 0 pos b (by omega), flF_end s (f + 1) pos b (by omega)]
  | f + 1, g + 1, pos, b, h1, h2 => by
    by_cases hp : pos < s.size
    · have hw := decode_wide s pos hp
      have ih := fun b => flF_more s f g (pos + (Utf8.decode s pos).2) b (by omega) (by omega)
      simp only [flF, if_pos hp, ih]
    · rw [flF_end s _ pos b hp, flF_end s _ pos b hp]
def flds (s : ByteArray) (pos : Nat) (b : Option Nat) : List ByteArray := flF s (s.size - pos) pos b
theorem flds_end (s : ByteArray) (pos : Nat) (b : Option Nat) (h : ¬ pos < s.size) : flds s pos b = (match b with | some a => [s.extract a s.size] | none => []) := flF_end s _ pos b h
theorem flds_cons (s : ByteArray) (pos : Nat) (b : Option Nat) (h : pos < s.size) : flds s pos b =
      (match wh (Utf8.decode s pos).1, b with
      | true, some a => s.extract a pos :: flds s (pos + (Utf8.decode s pos).2) none
      | true, none => flds s (pos + (Utf8.decode s pos).2) none
      | false, some a => flds s (pos + (Utf8.decode s pos).2) (some a)
      | false, none => flds s (pos + (Utf8.decode s pos).2) (some pos)) := by
  have hw := decode_wide s pos h
  unfold flds
  obtain ⟨f, hf⟩ : ∃ f, s.size - pos = f + 1 := ⟨s.size - pos - 1, by omega⟩
  rw [hf]
  have ih := fun b => flF_more s f (s.size - (pos + (Utf8.decode s pos).2)) (pos + (Utf8.decode s pos).2) b (by omega) (by omega)
  rw [flF.eq_def]
  simp only [if_pos h, ih]
def fint : Option Nat → Int
  | none => -1
  | some a => (a : Int)
/-- Strings in a slice that a call owns. -/
def AccS (w : World) (base : Nat) (v : Value) (xs : List ByteArray) : Prop := w.ownsRow base 9 1 v xs.length (xs.map Value.string)
theorem infoStr : (Tryd.prog.info? 9).map (fun i => (i.zero, i.size, i.bytes)) = some (some (.string .empty), 1, 16) := by kernel_rfl
theorem info_str : ∃ i, Tryd.prog.info? 9 = some i ∧ i.zero = some (.string .empty) ∧ i.size = 1 ∧ i.bytes = 16 := by
  obtain ⟨i, hi, he⟩ := Option.map_eq_some_iff.1 infoStr
  injection he with h1 h2
  injection h2 with h2 h3
  exact ⟨i, hi, h1, h2, h3⟩
theorem AccS.form {w : World} {base : Nat} {v : Value} {xs : List ByteArray} (h : AccS w base v xs) : ∃ A c, v = .slice A xs.length c := by
  rcases h.2 with ⟨e, h0⟩ | ⟨g, cap, cur, e, _⟩
  · exact ⟨none, 0, by rw [e, h0]⟩
  · exact ⟨_, _, e⟩
theorem one_str {w : World} {z : Value} {t : TypeId} : ∀ j u, ([z] : List Value)[j]? = some u → (w.alloc (.cells #[z] t)).cell? ((⟨w.heap.size, 0, none⟩ : Addr).add j) = some u := by
  intro j u hj
  have e : (⟨w.heap.size, 0, none⟩ : Addr).add j = ⟨w.heap.size, j, none⟩ := by unfold Addr.add; by_cases h : j = 0 <;> simp [h]
  rw [e, cell_of_row (w.alloc (.cells #[z] t)) w.heap.size j #[z] t (0, 0) (heap_alloc_new w _)]
  simpa using hj
/-- The frame of a loop over a text: its iterator, the pieces. -/
structure FlI (s : ByteArray) (w wr : World) (v : Value) (xs : List ByteArray) (pos : Nat) (b : Option Nat) (R : List ByteArray) : Prop where
  res : R = xs ++ flds s pos b
  len : xs.length ≤ pos ∧ xs.length ≤ s.size
  le : ∀ a, b = some a → a < pos ∧ a ≤ s.size
  it : wr.heap[w.heap.size]? = some (.stringIter s pos)
  acc : AccS wr (w.heap.size + 1) v xs
  bel : Below w.heap.size w wr

theorem AccS.iter {w : World} {base g : Nat} {v : Value} {xs : List ByteArray} (h : AccS w base v xs) (hg : g < base) (s : ByteArray) (pos : Nat) : AccS (w.iterAt g s pos) base v xs := by
  rcases h.2 with ⟨e, h0⟩ | ⟨g', cap, cur, e, hb, hg', rest⟩
  · exact ⟨h.1, .inl ⟨e, h0⟩⟩
  · exact ⟨h.1, .inr ⟨g', cap, cur, e, hb, by rw [Lib.iterAt_other _ _ _ _ _ (by omega)]; exact hg', rest⟩⟩
theorem AccS.below {w w' : World} {base : Nat} {v : Value} {xs : List ByteArray} (h : AccS w base v xs) (hb : Below w.heap.size w w') : AccS w' base v xs := by
  refine ⟨h.1, ?_⟩
  rcases h.2 with h1 | ⟨g, cap, cur, e, hg, hh, r1, r2, r3, r4⟩
  · exact .inl h1
  · exact .inr ⟨g, cap, cur, e, hg, (hb.block g (Array.getElem?_eq_some_iff.1 hh).1).trans hh, r1, r2, r3, r4⟩
/-- How much of a text is left to its iterator. -/
def itLeft (g : Nat) (w : World) : Nat := match w.heap[g]? with
  | some (.stringIter s pos) => s.size - pos
  | _ => 0
theorem itLeft_at {g pos : Nat} {w : World} {s : ByteArray} (h : w.heap[g]? = some (.stringIter s pos)) : itLeft g w = s.size - pos := by unfold itLeft; rw [h]

set_option maxRecDepth 100000 in
set_option maxHeartbeats 6400000 in
theorem fields_c (s : ByteArray) (w : World) (hs : s.size ≤ 1073741824) : Calls Tryd.prog 41 #[.string s] w fun e w' =>
    ∃ v, e = .returned v ∧ AccS w' w.heap.size v (flds s 0 none) ∧ Below w.heap.size w w' := by
  obtain ⟨i0, hi, hz0, hz1, hz2⟩ := info_str
  have h1 : (w.alloc (.stringIter s 0)).heap[w.heap.size]? = some (.stringIter s 0) := by simpa using heap_alloc_new w (.stringIter s 0)
  obtain ⟨R, hR⟩ : ∃ R, R = flds s 0 none := ⟨_, rfl⟩
  have HI : Hid (FlI s w (w.alloc (.stringIter s 0)) (.slice none 0 0) [] 0 none R) :=
    ⟨hR, ⟨Nat.le_refl _, Nat.zero_le _⟩, (fun a h => by cases h), h1, World.ownsRow_nil _ _ _ _, (Below.refl w.heap.size w).alloc (Nat.le_refl _) (.stringIter s 0)⟩
  rw [← hR]
  have HS := Lib.hid hs
  clear h1 hR hs
  go_enter Tryd.func41, Tryd.ntmps41
  go_wp2_with fail
  go_loopw [3, 4] (fun v st wr => ∃ (n c : Nat) (A : Option Addr) (pos : Nat) (b : Option Nat) (xs : List ByteArray), v = .slice A n c ∧ st = .int .i64 (fint b) ∧ Hid (n = xs.length) ∧ Hid (FlI s w wr v xs pos b R))
    (fun _ _ wr => itLeft w.heap.size wr)
  case atStart => exact ⟨0, 0, none, 0, none, [], rfl, rfl, rfl, HI.out⟩
  case round =>
    obtain ⟨n, c, A, pos, b, xs, rfl, rfl, hn, hI⟩ := hrel
    by_cases hp : pos < s.size
    · have hnx : ∀ ty, (Instr.next (.pointer (some ⟨w.heap.size, 0, none⟩)) true ty).run Tryd.prog wr = _ := fun ty => Lib.run_next_any_at wr w.heap.size s pos ty hI.out.it hp
      have hit2 := Lib.iterAt_heap wr w.heap.size s pos (pos + (Utf8.decode s pos).2) hI.out.it
      have hbel2 := Lib.below_iterAt hI.out.bel (k := w.heap.size) (Nat.le_refl _) s (pos + (Utf8.decode s pos).2)
      have hwd := decode_wide s pos hp
      have hd1 := decode_le s pos
      have hcons := flds_cons s pos b hp
      have hm := itLeft_at hI.out.it
      have hsz : w.heap.size < wr.heap.size := (Array.getElem?_eq_some_iff.1 hI.out.it).1
      have hacc2 := hI.out.acc.iter (Nat.lt_succ_self _) s (pos + (Utf8.decode s pos).2)
      have hszW := Lib.iterAt_size wr w.heap.size s (pos + (Utf8.decode s pos).2)
      have hres := hI.out.res
      have hlen := hI.out.len
      have hle := hI.out.le
      obtain ⟨d, hd⟩ : ∃ d, d = (Utf8.decode s pos).2 := ⟨_, rfl⟩
      obtain ⟨r, hr⟩ : ∃ r, r = (Utf8.decode s pos).1 := ⟨_, rfl⟩
      obtain ⟨W, hW⟩ : ∃ W, W = wr.iterAt w.heap.size s (pos + (Utf8.decode s pos).2) := ⟨_, rfl⟩
      rw [← hW] at hit2 hbel2 hacc2 hszW
      rw [← hW, ← hr] at hnx
      rw [← hd] at hit2 hwd
      rw [← hd, ← hr] at hcons
      rw [← hr] at hd1
      have CW := Lib.hid (fun w => white_c r hd1 w)
      have HIT := Lib.hid hit2
      have HBL := Lib.hid hbel2
      have HAC := Lib.hid hacc2
      have HSZ : Hid (w.heap.size + 1 ≤ W.heap.size) := by show _ ≤ _; rw [hszW]; exact hsz
      have HM := Lib.hid hm
      have HP : Hid (pos < s.size ∧ 1 ≤ d) := ⟨hp, hwd⟩
      have hp1 : (pos : Int) < (s.size : Int) := by omega
      have HLEN : Hid (xs.length ≤ pos ∧ xs.length ≤ s.size) := hlen
      have HN := Lib.hid hn.out
      have fin : ∀ (W' : World) (v : Value) (xs' : List ByteArray) (b' : Option Nat), W'.heap[w.heap.size]? = some (.stringIter s (pos + d)) → Below w.heap.size w W' → AccS W' (w.heap.size + 1) v xs' → R = xs' ++ flds s (pos + d) b' → xs'.length ≤ pos + d ∧ xs'.length ≤ s.size → (∀ a, b' = some a → a < pos + d ∧ a ≤ s.size) → FlI s w W' v xs' (pos + d) b' R ∧ itLeft w.heap.size W' < itLeft w.heap.size wr := fun W' v xs' b' h1 h2 h3 h4 h5 h6 =>
        ⟨⟨h4, h5, h6, h1, h3, h2⟩, by rw [itLeft_at h1, HM.out]; have := HP.out; omega⟩
      have FIN := Lib.hid fin
      clear hit2 hbel2 hacc2 hd hr hW hsz hszW hwd hd1 hI hm hp hlen fin hn
      cases hwh : wh r with
      | false =>
        rw [hwh] at hcons CW
        cases b with
        | none =>
          have HC := Lib.hid hcons
          have HRS := Lib.hid hres
          clear hcons hres hwh hle
          unfold fint
          go_wp2_with fail
          (with_reducible refine (CW.out W).mono ?_)
          rintro e w1 ⟨rfl, rfl⟩
          go_wp2_with fail
          obtain ⟨f1, f2⟩ := FIN.out w1 (.slice A n c) xs (some pos) HIT.out HBL.out HAC.out (by rw [HRS.out, HC.out]) (⟨by have := HLEN.out; omega, HLEN.out.2⟩) (fun a h => by injection h with h; have := HP.out; omega)
          exact ⟨⟨n, c, A, _, some pos, xs, rfl, rfl, HN.out, f1⟩, f2⟩
        | some a =>
          have HLE := Lib.hid (hle a rfl)
          have ha1 : ¬ (a : Int) < 0 := by omega
          have HC := Lib.hid hcons
          have HRS := Lib.hid hres
          clear hcons hres hwh hle
          unfold fint
          go_wp2_with fail
          (with_reducible refine (CW.out W).mono ?_)
          rintro e w1 ⟨rfl, rfl⟩
          go_wp2_with fail
          (with_reducible refine (CW.out w1).mono ?_)
          rintro e w2 ⟨rfl, rfl⟩
          go_wp2_with fail
          obtain ⟨f1, f2⟩ := FIN.out w2 (.slice A n c) xs (some a) HIT.out HBL.out HAC.out (by rw [HRS.out, HC.out]) (⟨by have := HLEN.out; omega, HLEN.out.2⟩) (fun a' h => by injection h with h; have := HLE.out; omega)
          exact ⟨⟨n, c, A, _, some a, xs, rfl, rfl, HN.out, f1⟩, f2⟩
      | true =>
        rw [hwh] at hcons CW
        cases b with
        | none =>
          have HC := Lib.hid hcons
          have HRS := Lib.hid hres
          clear hcons hres hwh hle
          unfold fint
          go_wp2_with fail
          (with_reducible refine (CW.out W).mono ?_)
          rintro e w1 ⟨rfl, rfl⟩
          go_wp2_with fail
          (with_reducible refine (CW.out w1).mono ?_)
          rintro e w2 ⟨rfl, rfl⟩
          go_wp2_with fail
          obtain ⟨f1, f2⟩ := FIN.out w2 (.slice A n c) xs none HIT.out HBL.out HAC.out (by rw [HRS.out, HC.out]) (⟨by have := HLEN.out; omega, HLEN.out.2⟩) (fun a' h => by cases h)
          exact ⟨⟨n, c, A, _, none, xs, rfl, rfl, HN.out, f1⟩, f2⟩
        | some a =>
          have HLE := Lib.hid (hle a rfl)
          have ha1 : (0 : Int) ≤ (a : Int) := by omega
          have ha2 : ¬ (a : Int) < 0 := by omega
          have ha3 : (a : Int) ≤ (pos : Int) := by have := HLE.out; omega
          have ha4 : (pos : Int) ≤ (s.size : Int) := by omega
          have HC := Lib.hid hcons
          have HRS := Lib.hid hres
          have CC := Lib.hid (fun w => clone_c (s.extract a pos) (by have h := HS.out; simp; omega) w)
          clear hcons hres hwh hle
          unfold fint
          go_wp2_with fail
          (with_reducible refine (CW.out W).mono ?_)
          rintro e w1 ⟨rfl, rfl⟩
          go_wp2_with fail
          (with_reducible refine (CW.out w1).mono ?_)
          rintro e w2 ⟨rfl, rfl⟩
          go_wp2_with fail
          (with_reducible refine (CC.out w2).mono ?_)
          rintro e WW ⟨rfl, hb3⟩
          have HACW := Lib.hid (HAC.out.below hb3)
          have HITW : Hid (WW.heap[w.heap.size]? = some (.stringIter s (pos + d))) := (hb3.block _ (by have := HSZ.out; omega)).trans HIT.out
          have HBW := Lib.hid (HBL.out.trans (hb3.mono (by have := HSZ.out; omega)))
          have HSW : Hid (w.heap.size + 1 ≤ WW.heap.size) := by show _ ≤ _; have := hb3.size; have := HSZ.out; omega
          clear hb3 HAC HIT HBL
          have HAC3 := Lib.hid (show AccS (WW.alloc (.cells #[.string (s.extract a pos)] 9)) (w.heap.size + 1) (.slice A n c) xs from World.ownsRow.alloc HACW.out (.cells #[.string (s.extract a pos)] 9))
          have HNB : Hid (n ≤ 1073741824) := by show _ ≤ _; have := HN.out; have := HLEN.out; have := HP.out; have := HS.out; omega
          have HOWN : Hid ((WW.alloc (.cells #[.string (s.extract a pos)] 9)).ownsRow (w.heap.size + 1) 9 1 (.slice A n c) n (xs.map Value.string)) := by
            have h := HAC3.out
            unfold AccS at h
            rw [← HN.out] at h
            exact h
          have hnb := HNB.out
          clear HAC3 HACW
          go_wp2_with (at_builtin; refine wpList_append_own _ rfl (.tmp 29) (.tmp 35) 39 rfl (w.heap.size + 1) 9 i0 (.string .empty) 1 16 Tryd.underlying39 hi hz0 hz1 hz2 rfl (by decide) (.slice A n c) n _ rfl HOWN.out ⟨WW.heap.size, 0, none⟩ 1 1 [.string (s.extract a pos)] rfl rfl one_str (by intro u hu; simp at hu; subst hu; rfl) (by unfold maxLen; omega) (by omega) (by have := HSW.out; simp; omega) ?_)
          intro v' w5 hown hg _
          have hacc : AccS w5 (w.heap.size + 1) v' (xs ++ [s.extract a pos]) := by
            unfold AccS
            rw [List.length_append, List.map_append, ← HN.out]
            exact hown
          have hbl5 : Below w.heap.size w w5 := ((HBW.out).alloc (by have := HSW.out; omega) (.cells #[.string (s.extract a pos)] 9)).grown hg (by simp; have := HSW.out; omega) (fun k hk => by have := (World.ownsRow.lt HOWN.out k hk).1; omega)
          have hit5 : w5.heap[w.heap.size]? = some (.stringIter s (pos + d)) := by
            rw [hg.block w.heap.size (by simp; have := HSW.out; omega) (fun e => by have := (World.ownsRow.lt HOWN.out _ e.symm).1; omega), Below.heap_alloc _ _ _ (by have := HSW.out; omega)]
            exact HITW.out
          obtain ⟨A5, c5, rfl⟩ := hacc.form
          obtain ⟨f1, f2⟩ := FIN.out w5 _ (xs ++ [s.extract a pos]) none hit5 hbl5 hacc (by rw [HRS.out, HC.out, List.append_assoc]; rfl) (by rw [List.length_append]; have := HLEN.out; have := HP.out; simp; omega) (fun a' h => by cases h)
          have F1 := Lib.hid f1
          have F2 := Lib.hid f2
          obtain ⟨m, hm⟩ : ∃ m, m = (xs ++ [s.extract a pos]).length := ⟨_, rfl⟩
          rw [← hm] at F1 ⊢
          have HMM := Lib.hid hm
          clear hown hg hacc hbl5 hit5 f1 f2 hm HOWN HNB hnb
          go_wp2_with fail
          exact ⟨⟨m, c5, A5, _, none, xs ++ [s.extract a pos], rfl, rfl, HMM.out, F1.out⟩, F2.out⟩
    · have hnx : ∀ ty, (Instr.next (.pointer (some ⟨w.heap.size, 0, none⟩)) true ty).run Tryd.prog wr = _ := fun ty => Lib.run_next_end_at wr w.heap.size s pos ty hI.out.it hp
      have hend := flds_end s pos b hp
      have hres := hI.out.res
      have hle := hI.out.le
      have hsz : w.heap.size < wr.heap.size := (Array.getElem?_eq_some_iff.1 hI.out.it).1
      have HACW := Lib.hid hI.out.acc
      have HBW := Lib.hid hI.out.bel
      have HN := Lib.hid hn.out
      have HLEN : Hid (xs.length ≤ s.size) := hI.out.len.2
      clear hI hp hn
      cases b with
      | none =>
        have HQ : Hid (R = xs) := by show R = xs; rw [hres, hend, List.append_nil]
        have HAF := HACW.out
        clear hend hres hle
        unfold fint
        go_wp2_with fail
        go_ret
        refine ⟨_, rfl, ?_, HBW.out⟩
        rw [HQ.out]
        exact ⟨HAF.1, HAF.2.imp id fun ⟨g, cap, cur, e, hb, r⟩ => ⟨g, cap, cur, e, by omega, r⟩⟩
      | some a =>
        have HLE := Lib.hid (hle a rfl)
        have ha1 : (0 : Int) ≤ (a : Int) := by omega
        have ha3 : (a : Int) ≤ (s.size : Int) := by have := HLE.out; omega
        have HRS : Hid (R = xs ++ [s.extract a s.size]) := by show R = _; rw [hres, hend]
        have CC := Lib.hid (fun w => clone_c (s.extract a s.size) (by have h := HS.out; simp; omega) w)
        have HSZ : Hid (w.heap.size + 1 ≤ wr.heap.size) := hsz
        clear hend hres hle hsz
        unfold fint
        go_wp2_with fail
        (with_reducible refine (CC.out wr).mono ?_)
        rintro e WW ⟨rfl, hb3⟩
        have HACQ := Lib.hid (HACW.out.below hb3)
        have HBQ := Lib.hid (HBW.out.trans (hb3.mono (by have := HSZ.out; omega)))
        have HSW : Hid (w.heap.size + 1 ≤ WW.heap.size) := by show _ ≤ _; have := hb3.size; have := HSZ.out; omega
        have HAC3 := Lib.hid (show AccS (WW.alloc (.cells #[.string (s.extract a s.size)] 9)) (w.heap.size + 1) (.slice A n c) xs from World.ownsRow.alloc HACQ.out (.cells #[.string (s.extract a s.size)] 9))
        have HNB : Hid (n ≤ 1073741824) := by show _ ≤ _; have := HN.out; have := HLEN.out; have := HS.out; omega
        have HOWN : Hid ((WW.alloc (.cells #[.string (s.extract a s.size)] 9)).ownsRow (w.heap.size + 1) 9 1 (.slice A n c) n (xs.map Value.string)) := by
          have h := HAC3.out
          unfold AccS at h
          rw [← HN.out] at h
          exact h
        have hnb := HNB.out
        clear HAC3 HACW HACQ hb3 HBW
        go_wp2_with (at_builtin; refine wpList_append_own _ rfl (.tmp 39) (.tmp 44) 39 rfl (w.heap.size + 1) 9 i0 (.string .empty) 1 16 Tryd.underlying39 hi hz0 hz1 hz2 rfl (by decide) (.slice A n c) n _ rfl HOWN.out ⟨WW.heap.size, 0, none⟩ 1 1 [.string (s.extract a s.size)] rfl rfl one_str (by intro u hu; simp at hu; subst hu; rfl) (by unfold maxLen; omega) (by omega) (by have := HSW.out; simp; omega) ?_)
        intro v' w5 hown hg _
        have hacc : AccS w5 (w.heap.size + 1) v' (xs ++ [s.extract a s.size]) := by
          unfold AccS
          rw [List.length_append, List.map_append, ← HN.out]
          exact hown
        have HBL5 : Hid (Below w.heap.size w w5) := ((HBQ.out).alloc (by have := HSW.out; omega) (.cells #[.string (s.extract a s.size)] 9)).grown hg (by simp; have := HSW.out; omega) (fun k hk => by have := (World.ownsRow.lt HOWN.out k hk).1; omega)
        have HACF := Lib.hid hacc
        clear hown hg hacc HOWN HNB hnb HBQ
        go_wp2_with fail
        go_ret
        refine ⟨_, rfl, ?_, HBL5.out⟩
        rw [HRS.out]
        exact ⟨HACF.out.1, HACF.out.2.imp id fun ⟨g, cap, cur, e, hb, r⟩ => ⟨g, cap, cur, e, by omega, r⟩⟩
end Go.Proofs.YtopeahjdglkheaaDoor
