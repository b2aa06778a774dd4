/- The reference's Fields. -/
import Derived.Test.YtbpdmodlnkfdiaaHFields
namespace Go.Proofs.Ytbpdmodlnkfdiaa
open Go.RowKit

set_option maxRecDepth 100000 in
set_option maxHeartbeats 6400000 in
theorem rfields_c (s : ByteArray) (w : World) (hs : s.size ≤ 1073741824) : Calls Try.prog 19 #[.string s] w fun e w' =>
    ∃ v, e = .returned v ∧ AccS w' w.heap.size v (flds s 0 none) ∧ Below w.heap.size w w' := by
  obtain ⟨i0, hi, hz0, hz1, hz2⟩ := info_str
  have h1 : (w.alloc (.stringIter s 0)).heap[w.heap.size]? = some (.stringIter s 0) := by simpa using heap_alloc_new w (.stringIter s 0)
  obtain ⟨R, hR⟩ : ∃ R, R = flds s 0 none := ⟨_, rfl⟩
  have HI : Hid (FlI s w (w.alloc (.stringIter s 0)) (.slice none 0 0) [] 0 none R) :=
    ⟨hR, ⟨Nat.le_refl _, Nat.zero_le _⟩, (fun a h => by cases h), h1, World.ownsRow_nil _ _ _ _, (Below.refl w.heap.size w).alloc (Nat.le_refl _) (.stringIter s 0)⟩
  rw [← hR]
  have HS := Lib.hid hs
  clear h1 hR hs
  go_enter Try.func19, Try.ntmps19
  go_wp2_with fail
  go_loopw [3, 4] (fun v st wr => ∃ (n c : Nat) (A : Option Addr) (pos : Nat) (b : Option Nat) (xs : List ByteArray), v = .slice A n c ∧ st = .int .i64 (fint b) ∧ Hid (n = xs.length) ∧ Hid (FlI s w wr v xs pos b R))
    (fun _ _ wr => itLeft w.heap.size wr)
  case atStart => exact ⟨0, 0, none, 0, none, [], rfl, rfl, rfl, HI.out⟩
  case round =>
    obtain ⟨n, c, A, pos, b, xs, rfl, rfl, hn, hI⟩ := hrel
    by_cases hp : pos < s.size
    · have hnx : ∀ ty, (Instr.next (.pointer (some ⟨w.heap.size, 0, none⟩)) true ty).run Try.prog wr = _ := fun ty => Lib.run_next_any_at wr w.heap.size s pos ty hI.out.it hp
      have hit2 := Lib.iterAt_heap wr w.heap.size s pos (pos + (Utf8.decode s pos).2) hI.out.it
      have hbel2 := Lib.below_iterAt hI.out.bel (k := w.heap.size) (Nat.le_refl _) s (pos + (Utf8.decode s pos).2)
      have hwd := decode_wide s pos hp
      have hd1 := decode_le s pos
      have hcons := flds_cons s pos b hp
      have hm := itLeft_at hI.out.it
      have hsz : w.heap.size < wr.heap.size := (Array.getElem?_eq_some_iff.1 hI.out.it).1
      have hacc2 := hI.out.acc.iter (Nat.lt_succ_self _) s (pos + (Utf8.decode s pos).2)
      have hszW := Lib.iterAt_size wr w.heap.size s (pos + (Utf8.decode s pos).2)
      have hres := hI.out.res
      have hlen := hI.out.len
      have hle := hI.out.le
      obtain ⟨d, hd⟩ : ∃ d, d = (Utf8.decode s pos).2 := ⟨_, rfl⟩
      obtain ⟨r, hr⟩ : ∃ r, r = (Utf8.decode s pos).1 := ⟨_, rfl⟩
      obtain ⟨W, hW⟩ : ∃ W, W = wr.iterAt w.heap.size s (pos + (Utf8.decode s pos).2) := ⟨_, rfl⟩
      rw [← hW] at hit2 hbel2 hacc2 hszW
      rw [← hW, ← hr] at hnx
      rw [← hd] at hit2 hwd
      rw [← hd, ← hr] at hcons
      rw [← hr] at hd1
      have CW := Lib.hid (fun w => blank_c r hd1 w)
      have HIT := Lib.hid hit2
      have HBL := Lib.hid hbel2
      have HAC := Lib.hid hacc2
      have HSZ : Hid (w.heap.size + 1 ≤ W.heap.size) := by show _ ≤ _; rw [hszW]; exact hsz
      have HM := Lib.hid hm
      have HP : Hid (pos < s.size ∧ 1 ≤ d) := ⟨hp, hwd⟩
      have hp1 : (pos : Int) < (s.size : Int) := by omega
      have HLEN : Hid (xs.length ≤ pos ∧ xs.length ≤ s.size) := hlen
      have HN := Lib.hid hn.out
      have fin : ∀ (W' : World) (v : Value) (xs' : List ByteArray) (b' : Option Nat), W'.heap[w.heap.size]? = some (.stringIter s (pos + d)) → Below w.heap.size w W' → AccS W' (w.heap.size + 1) v xs' → R = xs' ++ flds s (pos + d) b' → xs'.length ≤ pos + d ∧ xs'.length ≤ s.size → (∀ a, b' = some a → a < pos + d ∧ a ≤ s.size) → FlI s w W' v xs' (pos + d) b' R ∧ itLeft w.heap.size W' < itLeft w.heap.size wr := fun W' v xs' b' h1 h2 h3 h4 h5 h6 =>
        ⟨⟨h4, h5, h6, h1, h3, h2⟩, by rw [itLeft_at h1, HM.out]; have := HP.out; omega⟩
      have FIN := Lib.hid fin
      clear hit2 hbel2 hacc2 hd hr hW hsz hszW hwd hd1 hI hm hp hlen fin hn
      cases hwh : wh r with
      | false =>
        rw [hwh] at hcons CW
        cases b with
        | none =>
          have HC := Lib.hid hcons
          have HRS := Lib.hid hres
          clear hcons hres hwh hle
          unfold fint
          go_wp2_with fail
          (with_reducible refine (CW.out W).mono ?_)
          rintro e w1 ⟨rfl, rfl⟩
          go_wp2_with fail
          obtain ⟨f1, f2⟩ := FIN.out w1 (.slice A n c) xs (some pos) HIT.out HBL.out HAC.out (by rw [HRS.out, HC.out]) (⟨by have := HLEN.out; omega, HLEN.out.2⟩) (fun a h => by injection h with h; have := HP.out; omega)
          exact ⟨⟨n, c, A, _, some pos, xs, rfl, rfl, HN.out, f1⟩, f2⟩
        | some a =>
          have HLE := Lib.hid (hle a rfl)
          have ha1 : ¬ (a : Int) < 0 := by omega
          have HC := Lib.hid hcons
          have HRS := Lib.hid hres
          clear hcons hres hwh hle
          unfold fint
          go_wp2_with fail
          (with_reducible refine (CW.out W).mono ?_)
          rintro e w1 ⟨rfl, rfl⟩
          go_wp2_with fail
          obtain ⟨f1, f2⟩ := FIN.out w1 (.slice A n c) xs (some a) HIT.out HBL.out HAC.out (by rw [HRS.out, HC.out]) (⟨by have := HLEN.out; omega, HLEN.out.2⟩) (fun a' h => by injection h with h; have := HLE.out; omega)
          exact ⟨⟨n, c, A, _, some a, xs, rfl, rfl, HN.out, f1⟩, f2⟩
      | true =>
        rw [hwh] at hcons CW
        cases b with
        | none =>
          have HC := Lib.hid hcons
          have HRS := Lib.hid hres
          clear hcons hres hwh hle
          unfold fint
          go_wp2_with fail
          (with_reducible refine (CW.out W).mono ?_)
          rintro e w1 ⟨rfl, rfl⟩
          go_wp2_with fail
          obtain ⟨f1, f2⟩ := FIN.out w1 (.slice A n c) xs none HIT.out HBL.out HAC.out (by rw [HRS.out, HC.out]) (⟨by have := HLEN.out; omega, HLEN.out.2⟩) (fun a' h => by cases h)
          exact ⟨⟨n, c, A, _, none, xs, rfl, rfl, HN.out, f1⟩, f2⟩
        | some a =>
          have HLE := Lib.hid (hle a rfl)
          have ha1 : (0 : Int) ≤ (a : Int) := by omega
          have ha2 : ¬ (a : Int) < 0 := by omega
          have ha3 : (a : Int) ≤ (pos : Int) := by have := HLE.out; omega
          have ha4 : (pos : Int) ≤ (s.size : Int) := by omega
          have HC := Lib.hid hcons
          have HRS := Lib.hid hres
          clear hcons hres hwh hle
          unfold fint
          go_wp2_with fail
          (with_reducible refine (CW.out W).mono ?_)
          rintro e w1 ⟨rfl, rfl⟩
          obtain ⟨WW, hWW⟩ : ∃ V, V = w1 := ⟨_, rfl⟩
          subst hWW
          have HACW := Lib.hid HAC.out
          have HITW := Lib.hid HIT.out
          have HBW := Lib.hid HBL.out
          have HSW := Lib.hid HSZ.out
          clear HAC HIT HBL
          have HAC3 := Lib.hid (show AccS (WW.alloc (.cells #[.string (s.extract a pos)] 9)) (w.heap.size + 1) (.slice A n c) xs from World.ownsRow.alloc HACW.out (.cells #[.string (s.extract a pos)] 9))
          have HNB : Hid (n ≤ 1073741824) := by show _ ≤ _; have := HN.out; have := HLEN.out; have := HP.out; have := HS.out; omega
          have HOWN : Hid ((WW.alloc (.cells #[.string (s.extract a pos)] 9)).ownsRow (w.heap.size + 1) 9 1 (.slice A n c) n (xs.map Value.string)) := by
            have h := HAC3.out
            unfold AccS at h
            rw [← HN.out] at h
            exact h
          have hnb := HNB.out
          clear HAC3 HACW
          go_wp2_with (at_builtin; refine wpList_append_own _ rfl (.tmp 17) (.tmp 22) 48 rfl (w.heap.size + 1) 9 i0 (.string .empty) 1 16 Try.underlying48 hi hz0 hz1 hz2 rfl (by decide) (.slice A n c) n _ rfl HOWN.out ⟨WW.heap.size, 0, none⟩ 1 1 [.string (s.extract a pos)] rfl rfl one_str (by intro u hu; simp at hu; subst hu; rfl) (by unfold maxLen; omega) (by omega) (by have := HSW.out; simp; omega) ?_)
          intro v' w5 hown hg _
          have hacc : AccS w5 (w.heap.size + 1) v' (xs ++ [s.extract a pos]) := by
            unfold AccS
            rw [List.length_append, List.map_append, ← HN.out]
            exact hown
          have hbl5 : Below w.heap.size w w5 := ((HBW.out).alloc (by have := HSW.out; omega) (.cells #[.string (s.extract a pos)] 9)).grown hg (by simp; have := HSW.out; omega) (fun k hk => by have := (World.ownsRow.lt HOWN.out k hk).1; omega)
          have hit5 : w5.heap[w.heap.size]? = some (.stringIter s (pos + d)) := by
            rw [hg.block w.heap.size (by simp; have := HSW.out; omega) (fun e => by have := (World.ownsRow.lt HOWN.out _ e.symm).1; omega), Below.heap_alloc _ _ _ (by have := HSW.out; omega)]
            exact HITW.out
          obtain ⟨A5, c5, rfl⟩ := hacc.form
          obtain ⟨f1, f2⟩ := FIN.out w5 _ (xs ++ [s.extract a pos]) none hit5 hbl5 hacc (by rw [HRS.out, HC.out, List.append_assoc]; rfl) (by rw [List.length_append]; have := HLEN.out; have := HP.out; simp; omega) (fun a' h => by cases h)
          have F1 := Lib.hid f1
          have F2 := Lib.hid f2
          obtain ⟨m, hm⟩ : ∃ m, m = (xs ++ [s.extract a pos]).length := ⟨_, rfl⟩
          rw [← hm] at F1 ⊢
          have HMM := Lib.hid hm
          clear hown hg hacc hbl5 hit5 f1 f2 hm HOWN HNB hnb
          go_wp2_with fail
          exact ⟨⟨m, c5, A5, _, none, xs ++ [s.extract a pos], rfl, rfl, HMM.out, F1.out⟩, F2.out⟩
    · have hnx : ∀ ty, (Instr.next (.pointer (some ⟨w.heap.size, 0, none⟩)) true ty).run Try.prog wr = _ := fun ty => Lib.run_next_end_at wr w.heap.size s pos ty hI.out.it hp
      have hend := flds_end s pos b hp
      have hres := hI.out.res
      have hle := hI.out.le
      have hsz : w.heap.size < wr.heap.size := (Array.getElem?_eq_some_iff.1 hI.out.it).1
      have HACW := Lib.hid hI.out.acc
      have HBW := Lib.hid hI.out.bel
      have HN := Lib.hid hn.out
      have HLEN : Hid (xs.length ≤ s.size) := hI.out.len.2
      clear hI hp hn
      cases b with
      | none =>
        have HQ : Hid (R = xs) := by show R = xs; rw [hres, hend, List.append_nil]
        have HAF := HACW.out
        clear hend hres hle
        unfold fint
        go_wp2_with fail
        go_ret
        refine ⟨_, rfl, ?_, HBW.out⟩
        rw [HQ.out]
        exact ⟨HAF.1, HAF.2.imp id fun ⟨g, cap, cur, e, hb, r⟩ => ⟨g, cap, cur, e, by omega, r⟩⟩
      | some a =>
        have HLE := Lib.hid (hle a rfl)
        have ha1 : (0 : Int) ≤ (a : Int) := by omega
        have ha3 : (a : Int) ≤ (s.size : Int) := by have := HLE.out; omega
        have HRS : Hid (R = xs ++ [s.extract a s.size]) := by show R = _; rw [hres, hend]
        have HSZ : Hid (w.heap.size + 1 ≤ wr.heap.size) := hsz
        clear hend hres hle hsz
        unfold fint
        obtain ⟨WW, hWW⟩ : ∃ V, V = wr := ⟨_, rfl⟩
        subst hWW
        have HACQ := Lib.hid HACW.out
        have HBQ := Lib.hid HBW.out
        have HSW := Lib.hid HSZ.out
        have HAC3 := Lib.hid (show AccS (WW.alloc (.cells #[.string (s.extract a s.size)] 9)) (w.heap.size + 1) (.slice A n c) xs from World.ownsRow.alloc HACQ.out (.cells #[.string (s.extract a s.size)] 9))
        have HNB : Hid (n ≤ 1073741824) := by show _ ≤ _; have := HN.out; have := HLEN.out; have := HS.out; omega
        have HOWN : Hid ((WW.alloc (.cells #[.string (s.extract a s.size)] 9)).ownsRow (w.heap.size + 1) 9 1 (.slice A n c) n (xs.map Value.string)) := by
          have h := HAC3.out
          unfold AccS at h
          rw [← HN.out] at h
          exact h
        have hnb := HNB.out
        clear HAC3 HACW HACQ HBW
        go_wp2_with (at_builtin; refine wpList_append_own _ rfl (.tmp 29) (.tmp 33) 48 rfl (w.heap.size + 1) 9 i0 (.string .empty) 1 16 Try.underlying48 hi hz0 hz1 hz2 rfl (by decide) (.slice A n c) n _ rfl HOWN.out ⟨WW.heap.size, 0, none⟩ 1 1 [.string (s.extract a s.size)] rfl rfl one_str (by intro u hu; simp at hu; subst hu; rfl) (by unfold maxLen; omega) (by omega) (by have := HSW.out; simp; omega) ?_)
        intro v' w5 hown hg _
        have hacc : AccS w5 (w.heap.size + 1) v' (xs ++ [s.extract a s.size]) := by
          unfold AccS
          rw [List.length_append, List.map_append, ← HN.out]
          exact hown
        have HBL5 : Hid (Below w.heap.size w w5) := ((HBQ.out).alloc (by have := HSW.out; omega) (.cells #[.string (s.extract a s.size)] 9)).grown hg (by simp; have := HSW.out; omega) (fun k hk => by have := (World.ownsRow.lt HOWN.out k hk).1; omega)
        have HACF := Lib.hid hacc
        clear hown hg hacc HOWN HNB hnb HBQ
        go_wp2_with fail
        go_ret
        refine ⟨_, rfl, ?_, HBL5.out⟩
        rw [HRS.out]
        exact ⟨HACF.out.1, HACF.out.2.imp id fun ⟨g, cap, cur, e, hb, r⟩ => ⟨g, cap, cur, e, by omega, r⟩⟩
end Go.Proofs.Ytbpdmodlnkfdiaa
