/- The contract of the reference's Bytes: layer 4. -/
import Derived.Test.YtpeebcgeefjpbaaHRef2
import Derived.Test.YtpeebcgeefjpbaaHBytes
import Derived.Test.YtpeebcgeefjpbaaFacts
import Derived.RegionTactic
import Derived.BigRegion
import Derived.Deep.RegionLaw
namespace Go.Proofs.Ytpeebcgeefjpbaa
open Go.RowKit

theorem rscan_ds : ∀ (R : List Nat) (k : Nat) (out : List Nat), Ds 16 out → Ds 16 (rscan R k out).1
  | [], k, out, h => by
    unfold rscan
    split
    · exact fun x hx => by cases hx
    · exact h
  | r :: rs, k, out, h => by
    unfold rscan
    split
    · exact h
    · split
      · exact rscan_ds rs _ _ h
      · refine rscan_ds rs _ _ fun x hx => ?_
        rcases List.mem_append.1 hx with hx | hx
        · exact h x hx
        · simp at hx; rw [hx]; exact digN_lt _
theorem rscan_len : ∀ (R : List Nat) (k : Nat) (out : List Nat), (rscan R k out).1.length ≤ out.length + R.length ∧ (rscan R k out).2 ≤ ((k + R.length : Nat) : Int) ∧ -1 ≤ (rscan R k out).2
  | [], k, out => by unfold rscan; split <;> (refine ⟨?_, ?_, ?_⟩ <;> simp <;> omega)
  | r :: rs, k, out => by
    unfold rscan
    split
    · refine ⟨by simp, by simp; omega, by omega⟩
    · split
      · have := rscan_len rs (k + 1) out; simp only [List.length_cons]; omega
      · have := rscan_len rs (k + 1) (out ++ [digN r]); simp only [List.length_cons, List.length_append, List.length_nil] at *; omega
theorem pb_two : ∀ (xs : List Nat) (a b : Nat), xs.length % 2 = 0 → pb (xs ++ [a, b]) = pb xs ++ [16 * a + b]
  | [], a, b, _ => rfl
  | [x], a, b, h => by simp at h
  | x :: y :: t, a, b, h => by
    simp only [List.cons_append, pb]
    rw [pb_two t a b (by simp only [List.length_cons] at h; omega)]
theorem pb_take {ds : List Nat} {m : Nat} (h : m + 1 < ds.length) (he : m % 2 = 0) : pb (ds.take (m + 2)) = pb (ds.take m) ++ [16 * ds.getD m 0 + ds.getD (m + 1) 0] := by
  rw [List.take_succ_eq_append_getElem (by omega), List.take_succ_eq_append_getElem (by omega), List.append_assoc]
  have e1 : ds[m] = ds.getD m 0 := by rw [List.getD_eq_getElem?_getD, List.getElem?_eq_getElem (by omega)]; rfl
  have e2 : ds[m + 1] = ds.getD (m + 1) 0 := by rw [List.getD_eq_getElem?_getD, List.getElem?_eq_getElem (by omega)]; rfl
  rw [e1, e2]
  exact pb_two _ _ _ (by rw [List.length_take]; omega)
/-- The bytes of a text, and what is wrong with it, by the reference. -/
def rresQ (q : List Nat × Int) : List Nat × Int × Int := if 0 ≤ q.2 then ([], 2, q.2) else if q.1.length % 2 = 1 then ([], 2, ((q.1.length + 2 : Nat) : Int)) else (pb q.1, 0, 0)
def rres (s : ByteArray) : List Nat × Int × Int := rresQ (rscan (runesAt s 0) 0 [])

/-- append to a slice that a call owns, as one step of a region that draws. -/
theorem step_append_own {P : Program} {ops : Array Oper} {o : Oper} {a : Act} {w : World} {K : Act → World → Prop} {Q : Exit → Act → World → Prop} {E : Prop} (hgd : o.guard = none) (s x : Operand) (t : TypeId)
    (ho : o.op = .call { callee := .builtin .append, args := #[s, x], argTypes := #[t, t] })
    (base : Nat) (e : TypeId) (i : TypeInfo) (z : Value) (size bytes : Nat) (ht : P.underlying t = some (.slice e)) (hi : P.info? e = some i) (hz : i.zero = some z)
    (hsize : i.size = size) (hby : i.bytes = bytes) (hzs : z.cells.size = size) (hsz : 0 < size)
    (v : Value) (n : Nat) (xs : List Value) (hs : a.eval s = v) (hown : w.ownsRow base e size v n xs)
    (ad : Addr) (m c : Nat) (news : List Value) (hx : a.eval x = .slice (some ad) m c) (hl : news.length = m * size) (hnews : ∀ j u, news[j]? = some u → w.cell? (ad.add j) = some u) (h1 : ∀ u ∈ news, u.oneCell' = true)
    (h63 : n + m ≤ maxLen) (hbytes : (n + m) * bytes ≤ 140737488355328) (hbase : base ≤ w.heap.size)
    (h : ∀ v' w', w'.ownsRow base e size v' (n + m) (xs ++ news) → w.grownBy w' v.ownBlock → (v' = .slice none 0 0 ↔ v = .slice none 0 0 ∧ m = 0) → K (a.put o.dst v') w') :
    if Region.wanted o (yielded ops a.tmps) = true then o.wp P a w K Q else E := by
  have hw : Region.wanted o (yielded ops a.tmps) = true := by simp [Region.wanted, hgd]
  rw [if_pos hw]
  exact wp_append_own w s x t ho base e i z size bytes ht hi hz hsize hby hzs hsz v n xs hs hown ad m c news hx hl hnews h1 h63 hbytes hbase h

set_option maxRecDepth 100000 in
set_option maxHeartbeats 6400000 in
theorem rbytes4_c (s : ByteArray) (w : World) (hs : s.size ≤ 1073741824) : Calls Try.prog 8 #[.string s] w fun e w' =>
    ∃ v, e = .returned (.tuple #[v, .agg #[.int .i64 (rres s).2.1, .int .i64 (rres s).2.2]]) ∧ Acc w' w.heap.size v (rres s).1 ∧ Below w.heap.size w w' := by
  obtain ⟨i0, hi, hz0, hz1, hz2⟩ := info_parts info8
  obtain ⟨q, hq⟩ : ∃ q, q = rscan (runesAt s 0) 0 [] := ⟨_, rfl⟩
  have hbr : rres s = rresQ q := by unfold rres; rw [← hq]
  rw [hbr]
  have hds : Ds 16 q.1 := by rw [hq]; exact rscan_ds _ _ _ fun x hx => by cases hx
  have hln : q.1.length ≤ 1073741824 ∧ q.2 ≤ 1073741824 ∧ -1 ≤ q.2 := by
    rw [hq]
    have h1 := rscan_len (runesAt s 0) 0 []
    have h2 := runesAt_len s 0
    simp only [List.length_nil] at h1
    omega
  have hw0 := heap_alloc_new w (.cells #[.int .i64 0, .int .i64 0] 25)
  have hX : (w.alloc (.cells #[.int .i64 0, .int .i64 0] 25)).heap.size = w.heap.size + 1 := by simp
  have C1 := rdigits_c s (w.alloc (.cells #[.int .i64 0, .int .i64 0] 25)) hs
  rw [← hq] at C1
  have C1 := Lib.hid C1
  have HB0 := Lib.hid ((Below.refl w.heap.size w).alloc (Nat.le_refl _) (.cells #[.int .i64 0, .int .i64 0] 25))
  have HW0 := Lib.hid hw0
  have HX := Lib.hid hX
  have HDS := Lib.hid hds
  clear hq hbr hds hw0 hX
  go_enter Try.func8, Try.ntmps8
  go_wp2_with fail
  (with_reducible refine C1.out.mono ?_)
  rintro e w1 ⟨v, rfl, hacc, hb1⟩
  have hf1 := (hb1.block w.heap.size (by have := HX.out; omega)).trans HW0.out
  have HB1 := Lib.hid (HB0.out.trans (hb1.mono (by have := HX.out; omega)))
  have hs1 : w.heap.size + 1 ≤ w1.heap.size := by have := hb1.size; have := HX.out; omega
  obtain ⟨A, c, rfl⟩ := hacc.form
  have HR := Lib.hid hacc.rd
  have HF1 := Lib.hid hf1
  clear C1 HB0 HW0 HX hacc hb1 hf1
  by_cases hat : 0 ≤ q.2
  · have hbr : rresQ q = ([], 2, q.2) := by unfold rresQ; rw [if_pos hat]
    have HBR := Lib.hid hbr
    obtain ⟨h1, h2, h3⟩ := hln
    generalize q.2 = at_ at *
    have C2 := Lib.hid (rfault_c 2 at_ w1)
    clear hbr HDS HR
    go_wp2_with fail
    (with_reducible refine C2.out.mono ?_)
    rintro e w2 ⟨rfl, hb2⟩
    have hf2 := (hb2.block w.heap.size (by omega)).trans HF1.out
    obtain ⟨c0, c1, f0, f1⟩ := two_cells hf2
    have HB2 := Lib.hid (HB1.out.trans (hb2.mono (by omega)))
    clear C2 hf2 hb2
    go_wp2_with fail
    refine bodyPost_ret (v := .tuple #[.slice none 0 0, .agg #[.int .i64 2, .int .i64 at_]]) (by simp [results, Try.results8, go_sem, c0, c1]) rfl ⟨.slice none 0 0, ?_, ?_, ?_⟩
    · rw [HBR.out]
    · rw [HBR.out]; exact Acc.nil _ _
    · exact (HB2.out.setCell (p := ⟨w.heap.size, 0, none⟩) (Nat.le_refl _) _).setCell (p := ⟨w.heap.size, 1, none⟩) (Nat.le_refl _) _
  · obtain ⟨ds, at_⟩ := q
    obtain ⟨h1, h2, h3⟩ := hln
    obtain rfl : at_ = -1 := by simp at hat h3; omega
    dsimp only at *
    obtain ⟨L, hL⟩ : ∃ L, L = ds.length := ⟨_, rfl⟩
    rw [← hL] at h1 ⊢
    by_cases hodd : L % 2 = 1
    · have hbr : rresQ (ds, -1) = ([], 2, ((L + 2 : Nat) : Int)) := by unfold rresQ; rw [if_neg (show ¬ (0 : Int) ≤ -1 by decide), if_pos (by rw [← hL]; exact hodd), hL]
      have HBR := Lib.hid hbr
      have n1 : (L : Int) % 2 = 1 := by omega
      have n2 : (L : Int).tmod 2 = 1 := by rw [Int.tmod_eq_emod_of_nonneg (by omega)]; omega
      have C2 := Lib.hid (rfault_c 2 ((L : Int) + 2) w1)
      clear hbr HDS HR hL hodd
      go_wp2_with fail
      (with_reducible refine C2.out.mono ?_)
      rintro e w2 ⟨rfl, hb2⟩
      have hf2 := (hb2.block w.heap.size (by omega)).trans HF1.out
      obtain ⟨c0, c1, f0, f1⟩ := two_cells hf2
      have HB2 := Lib.hid (HB1.out.trans (hb2.mono (by omega)))
      clear C2 hf2 hb2
      go_wp2_with fail
      refine bodyPost_ret (v := .tuple #[.slice none 0 0, .agg #[.int .i64 2, .int .i64 ((L : Int) + 2)]]) (by simp [results, Try.results8, go_sem, c0, c1]) rfl ⟨.slice none 0 0, ?_, ?_, ?_⟩
      · rw [HBR.out]; rfl
      · rw [HBR.out]; exact Acc.nil _ _
      · exact (HB2.out.setCell (p := ⟨w.heap.size, 0, none⟩) (Nat.le_refl _) _).setCell (p := ⟨w.heap.size, 1, none⟩) (Nat.le_refl _) _
    · have hbr : rresQ (ds, -1) = (pb ds, 0, 0) := by unfold rresQ; rw [if_neg (show ¬ (0 : Int) ≤ -1 by decide), if_neg (by rw [← hL]; exact hodd)]
      have HBR := Lib.hid hbr
      have n1 : (L : Int) % 2 = 0 := by omega
      have n2 : (L : Int).tmod 2 = 0 := by rw [Int.tmod_eq_emod_of_nonneg (by omega)]; omega
      have HL := Lib.hid hL
      have HO := Lib.hid hodd
      clear hbr hL hodd
      go_wp2_with fail
      go_loopw [6, 7] (fun u i wr => ∃ (n cc m : Nat) (B : Option Addr) (bs : List Nat), u = .slice B n cc ∧ i = .int .i64 (m : Int) ∧ m ≤ L ∧ Hid (m % 2 = 0) ∧ Hid (n = bs.length ∧ n ≤ m) ∧ Hid (bs = pb (ds.take m)) ∧ Hid (Acc wr w1.heap.size u bs) ∧ Hid (Below w1.heap.size w1 wr))
        (fun _ i _ => L - (intOf i).toNat)
      case atStart => exact ⟨0, 0, 0, none, [], rfl, rfl, Nat.zero_le _, rfl, ⟨rfl, Nat.le_refl _⟩, rfl, Acc.nil _ _, Below.refl _ _⟩
      case round =>
        obtain ⟨n, cc, m, B, bs, rfl, rfl, hm, hme, hnl, hbs, hacc, hbel⟩ := hrel
        by_cases hlt : (m : Int) < (L : Int)
        · have hme2 := hme.out
          have hO2 := HO.out
          have hlt2 : m + 1 < L := by omega
          have hlt3 : ((m + 1 : Nat) : Int) < (L : Int) := by omega
          have hlt4 : (m : Int) + 1 < (L : Int) := by omega
          have hpos : 0 ≤ (m : Int) + 1 := by omega
          obtain ⟨b, o, rfl, hbb, hcell⟩ := HR.out.at_ (by have := HL.out; omega)
          have cx := (hbel.out.cell (p := ⟨b, o + m, none⟩) hbb).trans (hcell m (by have := HL.out; omega))
          have cy := (hbel.out.cell (p := ⟨b, o + (m + 1), none⟩) hbb).trans (hcell (m + 1) (by have := HL.out; omega))
          have hbW : b < wr.heap.size := Nat.lt_of_lt_of_le hbb hbel.out.size
          have hnext := pb_take (ds := ds) (m := m) (by have := HL.out; omega) hme2
          obtain ⟨x, ex⟩ : ∃ x, x = ds.getD m 0 := ⟨_, rfl⟩
          obtain ⟨y, ey⟩ : ∃ y, y = ds.getD (m + 1) 0 := ⟨_, rfl⟩
          have hx16 : x < 16 := by rw [ex]; exact HDS.out.get (by omega) m
          have hy16 : y < 16 := by rw [ey]; exact HDS.out.get (by omega) (m + 1)
          rw [← ex, ← ey, ← hbs.out] at hnext
          rw [← ex] at cx
          rw [← ey] at cy
          obtain ⟨x16, e16⟩ : ∃ z, z = 16 * x := ⟨_, rfl⟩
          obtain ⟨z, ez⟩ : ∃ z, z = x16 + y := ⟨_, rfl⟩
          have w1' : IntKind.i64.wrap (16 * (x : Int)) = (x16 : Int) := by rw [IntWalk.i64_in _ (by omega)]; omega
          have w2' : IntKind.i64.wrap ((x16 : Int) + (y : Int)) = (z : Int) := by rw [IntWalk.i64_in _ (by omega)]; omega
          have w3' : IntKind.u8.wrap (z : Int) = (z : Int) := by rw [IntKind.wrap_u8']; omega
          have w4' : IntKind.i64.wrap ((m : Int) + 1) = ((m + 1 : Nat) : Int) := by rw [IntWalk.i64_in _ (by omega)]; omega
          rw [← e16, ← ez] at hnext
          have HNX := Lib.hid hnext
          have HNL := Lib.hid hnl.out
          have HACC := Lib.hid hacc.out
          have hsz := hbel.out.size
          clear ex ey e16 ez hx16 hy16 hcell hbb hnext hme2 hO2 hnl hacc hbs
          have HACD : Hid (Acc wr.drew w1.heap.size (.slice B n cc) bs) := HACC.out
          go_wp2_with fail
          go_region_law (refine step_append_own rfl (.tmp 31) (.tmp 44) 22 rfl w1.heap.size 5 i0 (.int .u8 0) 1 1 Try.underlying22 hi hz0 hz1 hz2 rfl (by decide) (.slice B n cc) _ _ (by simp [Act.eval]) (World.ownsRow.alloc (w := wr.drew) HACD.out _) ⟨wr.heap.size, 0, none⟩ 1 1 [.int .u8 (z : Int)] (by simp [Act.eval]) rfl (one_cells (w := wr.drew)) (by intro u hu; simp at hu; subst hu; rfl) (by have := HNL.out; unfold maxLen; omega) (by have := HNL.out; omega) (by simp; omega) ?_; intro v' w2 hown hg _)
          all_goals
            have hacc1 : Acc w2 w1.heap.size v' (bs ++ [z]) := by
              unfold Acc; rw [bv_append, List.length_append]
              exact hown
            have hbel1 : Below w1.heap.size w1 w2 := (hbel.out.drew.alloc hsz _).grown hg (by simp; omega) (fun k hk => Acc.own HACC.out k hk)
            obtain ⟨A1, c1, rfl⟩ := hacc1.form
            have hn1 : (bs ++ [z]).length = n + 1 := by have := HNL.out; rw [List.length_append]; simp; omega
            rw [hn1] at hacc1
            rw [hn1]
            rw [← HNX.out] at hacc1 hn1
            have HA1 := Lib.hid hacc1
            have HB2 := Lib.hid hbel1
            have HN1 := Lib.hid hn1
            have w5' : IntKind.i64.wrap ((m : Int) + 2) = ((m + 2 : Nat) : Int) := by rw [IntWalk.i64_in _ (by omega)]; omega
            clear hown hg hacc1 hbel1 hbel hn1 hsz HACC HACD cx cy
            go_simp
            go_wp2_with fail
            go_roundw
            case rel => exact ⟨n + 1, c1, m + 2, A1, _, rfl, by go_num, by omega, by show _ % 2 = 0; have := hme.out; omega, ⟨HN1.out.symm, by have := HNL.out; omega⟩, rfl, HA1.out, HB2.out⟩
            case measure => simp [intOf]; omega
        · obtain rfl : m = L := by omega
          have hbs2 := hbs.out
          rw [List.take_of_length_le (by have := HL.out; omega)] at hbs2
          have HBS := Lib.hid hbs2
          have hf2 := (hbel.out.block w.heap.size (by omega)).trans HF1.out
          obtain ⟨c0, c1, f0, f1⟩ := two_cells hf2
          have hsz := hbel.out.size
          have HF2 := Lib.hid hf2
          clear hbs hbs2 hf2
          go_wp2_with fail
          refine bodyPost_ret (v := .tuple #[.slice B n cc, .agg #[.int .i64 0, .int .i64 0]]) (by simp [results, Try.results8, go_sem, c0, c1]) rfl ⟨.slice B n cc, ?_, ?_, ?_⟩
          · rw [HBR.out]
          · rw [HBR.out]
            have h := hacc.out
            rw [HBS.out] at h
            exact (acc_q h (kq_put2 HF2.out _ _)).mono (by omega)
          · exact ((HB1.out.trans (hbel.out.mono (by omega))).setCell (p := ⟨w.heap.size, 0, none⟩) (Nat.le_refl _) _).setCell (p := ⟨w.heap.size, 1, none⟩) (Nat.le_refl _) _
end Go.Proofs.Ytpeebcgeefjpbaa
