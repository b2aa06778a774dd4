/- The contract of the reference's digits: layer 4. -/
import Derived.Test.YtpeebcgeefjpbaaHRef1
namespace Go.Proofs.Ytpeebcgeefjpbaa
open Go.RowKit

/-- What the reference's digits tells of runes: the digits ahead of the first wrong rune, and its place. -/
def rscan : List Nat → Nat → List Nat → List Nat × Int
  | [], k, out => if k < 2 then ([], (k : Int)) else (out, -1)
  | r :: rs, k, out => if badAt k r = true then (out, (k : Int)) else if k < 2 then rscan rs (k + 1) out else rscan rs (k + 1) (out ++ [digN r])
theorem runesF_ds (s : ByteArray) : ∀ f pos, Ds 2147483648 (runesF s f pos)
  | 0, _ => fun x hx => by simp [runesF] at hx
  | f + 1, pos => fun x hx => by
    unfold runesF at hx
    split at hx
    · rcases List.mem_cons.1 hx with rfl | hx
      · have := decode_le s pos; omega
      · exact runesF_ds s f _ x hx
    · cases hx
theorem rscan_at {R : List Nat} {m : Nat} {xs : List Nat} (h : m < R.length) : rscan (R.drop m) m xs = if badAt m (R.getD m 0) = true then (xs, (m : Int)) else if m < 2 then rscan (R.drop (m + 1)) (m + 1) xs else rscan (R.drop (m + 1)) (m + 1) (xs ++ [digN (R.getD m 0)]) := by
  rw [List.drop_eq_getElem_cons h]
  have e : R[m] = R.getD m 0 := by simp [List.getD_eq_getElem?_getD, h]
  rw [e]
  rfl
theorem AccG.mono {k : IntKind} {t : TypeId} {w : World} {base base' : Nat} {v : Value} {xs : List Nat} (h : AccG k t w base v xs) (hb : base' ≤ base) : AccG k t w base' v xs := by
  rcases h.2 with ⟨e, h0⟩ | ⟨g, cap, cur, e, hg, rest⟩
  · exact ⟨h.1, .inl ⟨e, h0⟩⟩
  · exact ⟨h.1, .inr ⟨g, cap, cur, e, by omega, rest⟩⟩
theorem AccG.below {k : IntKind} {t : TypeId} {w w' : World} {B base : Nat} {v : Value} {xs : List Nat} (h : AccG k t w base v xs) (hb : Below B w w') (ho : ∀ g, v.ownBlock = some g → g < B) : AccG k t w' base v xs := by
  rcases h.2 with ⟨e, h0⟩ | ⟨g, cap, cur, e, hbg, hg, rest⟩
  · exact ⟨h.1, .inl ⟨e, h0⟩⟩
  · exact ⟨h.1, .inr ⟨g, cap, cur, e, hbg, (hb.block g (ho g (by rw [e]; rfl))).trans hg, rest⟩⟩

set_option maxRecDepth 100000 in
set_option maxHeartbeats 6400000 in
theorem rdigits_c (s : ByteArray) (w : World) (hs : s.size ≤ 1073741824) : Calls Try.prog 27 #[.string s] w fun e w' =>
    ∃ v, e = .returned (.tuple #[v, .int .i64 (rscan (runesAt s 0) 0 []).2]) ∧ AccG .i64 3 w' w.heap.size v (rscan (runesAt s 0) 0 []).1 ∧ Below w.heap.size w w' := by
  obtain ⟨i0, hi, hz0, hz1, hz2⟩ := infoG infoI
  obtain ⟨R, hR⟩ : ∃ R, R = runesAt s 0 := ⟨_, rfl⟩
  have hRL : R.length ≤ 1073741824 := by rw [hR]; have := runesAt_len s 0; omega
  have hRD : Ds 2147483648 R := by rw [hR]; exact runesF_ds s _ _
  have C1 := Lib.hid (runes_c s w hs)
  rw [← hR] at C1 ⊢
  obtain ⟨q, hq⟩ : ∃ q, q = rscan R 0 [] := ⟨_, rfl⟩
  rw [← hq]
  have HQ := Lib.hid hq
  have HRD := Lib.hid hRD
  clear hR hq hRD
  go_enter Try.func27, Try.ntmps27
  go_wp2_with fail
  (with_reducible refine C1.out.mono ?_)
  rintro e w1 ⟨v, rfl, hacc, hb1⟩
  obtain ⟨A, c, rfl⟩ := hacc.form
  have HR := Lib.hid hacc.rd
  obtain ⟨L, hL⟩ : ∃ L, L = R.length := ⟨_, rfl⟩
  rw [← hL] at hRL ⊢
  have HL := Lib.hid hL
  have HB1 := Lib.hid hb1
  clear C1 hacc hb1 hL
  go_wp2_with fail
  go_loopw [5, 6] (fun o i wr => ∃ (n cc m : Nat) (B : Option Addr) (xs : List Nat), o = .slice B n cc ∧ i = .int .i64 (m : Int) ∧ m ≤ L ∧ n ≤ m ∧ Hid (n = xs.length) ∧ Hid (q = rscan (R.drop m) m xs) ∧ Hid (AccG .i64 3 wr w1.heap.size o xs) ∧ Hid (Below w1.heap.size w1 wr))
    (fun _ i _ => L - (intOf i).toNat)
  case atStart => exact ⟨0, 0, 0, none, [], rfl, rfl, Nat.zero_le _, Nat.le_refl _, rfl, HQ.out, AccG.nil _ _, Below.refl _ _⟩
  case round =>
    clear HQ
    obtain ⟨n, cc, m, B, xs, rfl, rfl, hm, hnm, hnl, hq, hacc, hbel⟩ := hrel
    by_cases hlt : (m : Int) < (L : Int)
    · obtain ⟨b, o, rfl, hbb, hcell⟩ := HR.out.at_ (by have := HL.out; omega)
      have cx := (hbel.out.cell (p := ⟨b, o + m, none⟩) hbb).trans (hcell m (by have := HL.out; omega))
      have hq2 := hq.out.trans (rscan_at (by have := HL.out; omega))
      obtain ⟨x, ex⟩ : ∃ x, x = R.getD m 0 := ⟨_, rfl⟩
      rw [← ex] at cx hq2
      have hx31 : x < 2147483648 := by rw [ex]; exact HRD.out.get (by omega) m
      clear ex hq hbb
      rcases (show m = 0 ∨ m = 1 ∨ 2 ≤ m by omega) with h | h | h
      · subst h
        by_cases hb : x = 48
        · have hq3 := hq2
          rw [if_neg (by rw [hb]; decide), if_pos (by decide)] at hq3
          have HQ3 := Lib.hid hq3
          have hne : ((x : Int) != 48) = false := by rw [hb]; rfl
          clear hb hq2 hq3 hcell
          (try simp only [Nat.add_zero] at cx)
          go_wp2_with fail
          go_roundw
          case rel => exact ⟨n, cc, 1, B, xs, rfl, rfl, by omega, by omega, hnl.out, HQ3.out, hacc.out, hbel.out⟩
          case measure => simp [intOf]; omega
        · have hq3 := hq2
          rw [if_pos (by unfold badAt; simp; omega)] at hq3
          have HQ3 := Lib.hid hq3
          have hne : ((x : Int) != 48) = true := by simp; omega
          clear hb hq2 hq3 hcell
          (try simp only [Nat.add_zero] at cx)
          go_wp2_with fail
          refine bodyPost_ret (v := .tuple #[.slice B n cc, .int .i64 0]) (by simp [results, Try.results27, go_sem]) rfl ⟨.slice B n cc, ?_, ?_, ?_⟩
          · rw [HQ3.out]; rfl
          · rw [HQ3.out]; exact hacc.out.mono HB1.out.size
          · exact HB1.out.trans (hbel.out.mono HB1.out.size)
      · subst h
        by_cases hb : x = 120
        · have hq3 := hq2
          rw [if_neg (by rw [hb]; decide), if_pos (by decide)] at hq3
          have HQ3 := Lib.hid hq3
          have hne : ((x : Int) != 120) = false := by rw [hb]; rfl
          clear hb hq2 hq3 hcell
          (try simp only [Nat.add_zero] at cx)
          go_wp2_with fail
          go_roundw
          case rel => exact ⟨n, cc, 2, B, xs, rfl, rfl, by omega, by omega, hnl.out, HQ3.out, hacc.out, hbel.out⟩
          case measure => simp [intOf]; omega
        · have hq3 := hq2
          rw [if_pos (by unfold badAt; simp; omega)] at hq3
          have HQ3 := Lib.hid hq3
          have hne : ((x : Int) != 120) = true := by simp; omega
          clear hb hq2 hq3 hcell
          (try simp only [Nat.add_zero] at cx)
          go_wp2_with fail
          refine bodyPost_ret (v := .tuple #[.slice B n cc, .int .i64 1]) (by simp [results, Try.results27, go_sem]) rfl ⟨.slice B n cc, ?_, ?_, ?_⟩
          · rw [HQ3.out]; rfl
          · rw [HQ3.out]; exact hacc.out.mono HB1.out.size
          · exact HB1.out.trans (hbel.out.mono HB1.out.size)
      · have m0 : ((m : Int) == 0) = false := beq_eq_false_iff_ne.2 (by omega)
        have m1 : ((m : Int) == 1) = false := beq_eq_false_iff_ne.2 (by omega)
        have m2 : ¬ (m : Int) < 2 := by omega
        have m3 : (2 : Int) ≤ (m : Int) := by omega
        have hbad : badAt m x = !(digOk x) := by unfold badAt; rw [if_neg (by omega), if_neg (by omega)]
        have c1 : ∀ w, Calls Try.prog 51 #[.int .i32 (x : Int)] w fun e w' => e = .returned (.int .i64 (rdig x)) ∧ w' = w := fun w => rdigit_c (x : Int) (by omega) (by omega) w
        by_cases hd : digOk x = true
        · have hr : rdig x = ((digN x : Nat) : Int) := by unfold rdig; rw [if_pos hd]
          rw [hbad, hd, if_neg (by decide), if_neg (by omega)] at hq2
          have hd16 := digN_lt x
          obtain ⟨d, hdd⟩ : ∃ d, d = digN x := ⟨_, rfl⟩
          rw [← hdd] at hr hq2 hd16
          have c2 := c1
          rw [hr] at c2
          have C2 := Lib.hid c2
          have HQ2 := Lib.hid hq2
          have hd0 : ¬ (d : Int) < 0 := by omega
          have HACC := Lib.hid hacc.out
          have HNL := Lib.hid hnl.out
          have hsz := hbel.out.size
          clear c1 c2 hq2 hbad hd hr hdd hcell hacc hnl
          go_wp2_with fail
          (with_reducible refine (C2.out _).mono ?_)
          rintro e w3 ⟨rfl, hw3⟩
          rw [hw3]
          clear hw3
          go_wp2_with fail
          (with_reducible refine (C2.out _).mono ?_)
          rintro e w3 ⟨rfl, hw3⟩
          rw [hw3]
          clear hw3 C2
          go_wp2_with (at_builtin; refine wpList_append_own _ rfl (.tmp 51) (.tmp 57) 65 rfl w1.heap.size 3 i0 (.int .i64 0) 1 8 Try.underlying65 hi hz0 hz1 hz2 rfl (by decide) _ _ _ rfl (World.ownsRow.alloc HACC.out _) ⟨wr.heap.size, 0, none⟩ 1 1 [.int .i64 (d : Int)] rfl rfl one_cellG (by intro u hu; simp at hu; subst hu; rfl) (by have := HNL.out; unfold maxLen; omega) (by have := HNL.out; omega) (by simp; omega) ?_)
          intro v' w2 hown hg _
          have hacc1 : AccG .i64 3 w2 w1.heap.size v' (xs ++ [d]) := by
            unfold AccG; rw [gv_append, List.length_append]
            exact hown
          have hbel1 : Below w1.heap.size w1 w2 := (hbel.out.alloc hsz _).grown hg (by simp; omega) (fun k hk => AccG.own HACC.out k hk)
          obtain ⟨A1, c1, rfl⟩ := hacc1.form
          have hn1 : (xs ++ [d]).length = n + 1 := by have := HNL.out; rw [List.length_append]; simp; omega
          rw [hn1] at hacc1
          rw [hn1]
          have HA1 := Lib.hid hacc1
          have HB2 := Lib.hid hbel1
          have HN1 := Lib.hid hn1
          clear hown hg hacc1 hbel1 HACC hbel hn1 hsz
          go_wp2_with fail
          go_roundw
          case rel => exact ⟨n + 1, c1, m + 1, A1, xs ++ [d], rfl, by go_num, by omega, by omega, HN1.out.symm, HQ2.out, HA1.out, HB2.out⟩
          case measure => simp [intOf]; omega
        · have hd : digOk x = false := by simpa using hd
          have hr : rdig x = -1 := by unfold rdig; rw [if_neg (by rw [hd]; decide)]
          rw [hbad, hd, if_pos (by rfl)] at hq2
          rw [hr] at c1
          have C2 := Lib.hid c1
          have HQ2 := Lib.hid hq2
          clear c1 hq2 hbad hd hr hcell
          go_wp2_with fail
          (with_reducible refine (C2.out _).mono ?_)
          rintro e w3 ⟨rfl, hw3⟩
          rw [hw3]
          clear hw3
          go_wp2_with fail
          refine bodyPost_ret (v := .tuple #[.slice B n cc, .int .i64 (m : Nat)]) (by simp [results, Try.results27, go_sem]) rfl ⟨.slice B n cc, ?_, ?_, ?_⟩
          · rw [HQ2.out]
          · rw [HQ2.out]; exact hacc.out.mono HB1.out.size
          · exact HB1.out.trans (hbel.out.mono HB1.out.size)
    · obtain rfl : m = L := by omega
      have hq2 := hq.out
      rw [List.drop_of_length_le (by have := HL.out; omega)] at hq2
      unfold rscan at hq2
      by_cases h2 : (m : Int) < 2
      · rw [if_pos (by omega)] at hq2
        have HQ2 := Lib.hid hq2
        clear hq2 hq
        go_wp2_with fail
        refine bodyPost_ret (v := .tuple #[.slice none 0 0, .int .i64 (m : Nat)]) (by simp [results, Try.results27, go_sem]) rfl ⟨.slice none 0 0, ?_, ?_, ?_⟩
        · rw [HQ2.out]
        · rw [HQ2.out]; exact AccG.nil _ _
        · exact HB1.out.trans (hbel.out.mono HB1.out.size)
      · rw [if_neg (by omega)] at hq2
        have HQ2 := Lib.hid hq2
        clear hq2 hq
        go_wp2_with fail
        refine bodyPost_ret (v := .tuple #[.slice B n cc, .int .i64 (-1)]) (by simp [results, Try.results27, go_sem]) rfl ⟨.slice B n cc, ?_, ?_, ?_⟩
        · rw [HQ2.out]
        · rw [HQ2.out]; exact hacc.out.mono HB1.out.size
        · exact HB1.out.trans (hbel.out.mono HB1.out.size)
end Go.Proofs.Ytpeebcgeefjpbaa
