/- The reference's first and Decode. -/
import Derived.Test.YtchhnalalplggaaRlSplit
import Derived.Test.YtchhnalalplggaaRlRead
import Derived.OneCell
namespace Go.Proofs.Ytchhnalalplggaa
open Go.RowKit

/-- The empty literal with bytes appended: a clone. -/
theorem acc_empty (w : World) : Acc (w.alloc (.cells #[] 5)) w.heap.size (.slice (some ⟨w.heap.size, 0, none⟩) 0 0) [] := Acc.of_row (Row.new (k := .u8) w 5 []) (Nat.le_refl _) (by simp)

theorem heap_lt2 {w : World} {g : Nat} {o : Obj} (h : w.heap[g]? = some o) : g < w.heap.size := (Array.getElem?_eq_some_iff.1 h).1
theorem byt_set {w : World} {v z : Value} {bs : List Nat} {X i : Nat} (h : Byt w v bs) (hne : v.ownBlock ≠ some X) : Byt (w.setCell ⟨X, i, none⟩ z) v bs := by
  obtain ⟨A, c, rfl, hr, hd⟩ := h
  refine ⟨A, c, rfl, ⟨hr.le, hr.cap, fun h0 => ?_⟩, hd⟩
  obtain ⟨b, o, rfl, hb, hc⟩ := hr.at_ h0
  exact ⟨b, o, rfl, by simpa using hb, fun j hj => (World.cell?_of_block (w := w) (Below.heap_setCell _ _ _ _ (fun e => hne (by rw [show b = X from e]; rfl)))).trans (hc j hj)⟩
theorem AccI.set {w : World} {base : Nat} {v z : Value} {us : List Value} {xs : List Itm} {X i : Nat} (h : AccI w base v us xs) (hX : X < base) : AccI (w.setCell ⟨X, i, none⟩ z) base v us xs :=
  ⟨ownsRow_setCell_other h.1 (a := ⟨X, i, none⟩) (fun e => by have := h.own X e; omega) _, fun j x hj => (h.2 j x hj).move (by simp) (fun _ _ h => h) fun p hp _ => World.cell?_of_block (w := w) (Below.heap_setCell _ _ _ _ (fun e => by have h1 := hp.1; have e2 : p.block = X := e; omega))⟩

set_option maxRecDepth 100000 in
set_option maxHeartbeats 6400000 in
theorem rfirst_step {A : Option Addr} {c : Nat} {raw : List Nat} (w : World) (h : Rd .u8 w A c raw) (hd : Ds 256 raw) (hl : raw.length ≤ 16777216) (d : Nat) (hdd : d ≤ 1024)
    (hrec : d ≠ 1024 → ∀ (A : Option Addr) (c : Nat) (u : List Nat) (w : World), u.length < raw.length → Rd .u8 w A c u → Ds 256 u → Calls Try.prog 39 #[.slice A u.length c, .int .i64 ((d + 1 : Nat) : Int)] w (ReadQ A u (d + 1) w)) :
    Calls Try.prog 39 #[.slice A raw.length c, .int .i64 (d : Int)] w (ReadQ A raw d w) := by
  have hg0 := heap_alloc_new w (.cells #[.bool false, .slice none 0 0, .slice none 0 0] 25)
  have HX : Hid ((w.alloc (.cells #[.bool false, .slice none 0 0, .slice none 0 0] 25)).heap.size = w.heap.size + 1) := by show _ = _; simp
  have C1 := Lib.hid (rsplit_c (w.alloc (.cells #[.bool false, .slice none 0 0, .slice none 0 0] 25)) (h.alloc _) hd hl)
  have HB0 : Hid (Below w.heap.size w (w.alloc (.cells #[.bool false, .slice none 0 0, .slice none 0 0] 25))) := (Below.refl _ _).alloc (Nat.le_refl _) _
  have HG := Lib.hid hg0
  have HREC := Lib.hid hrec
  have HL := Lib.hid hl
  obtain ⟨L, hL⟩ : ∃ L, L = raw.length := ⟨_, rfl⟩
  rw [← hL] at C1 ⊢
  have HLL := Lib.hid hL
  have HAB : Hid (0 < raw.length → ∀ k, (Value.slice A 0 0).ownBlock = some k → k < w.heap.size) := fun h0 k hk => by
    obtain ⟨b, o, rfl, hb, _⟩ := h.at_ h0
    simp [Value.ownBlock] at hk; omega
  clear h hd hl hg0 hrec hL
  go_enter Try.func39, Try.ntmps39
  go_wp2_with fail
  (with_reducible refine C1.out.mono ?_)
  rintro e w1 ⟨hb, hm⟩
  have hg1 := (hb.block w.heap.size (by rw [HX.out]; omega)).trans HG.out
  have HB1 := Lib.hid (HB0.out.trans (hb.mono (by rw [HX.out]; omega)))
  have hw1 : w.heap.size + 1 ≤ w1.heap.size := by have := hb.size; rw [HX.out] at this; exact this
  clear HB0 HG C1 hb HX
  have HG1 := Lib.hid hg1
  have HW := Lib.hid hw1
  rcases hf : fstS raw with _ | ⟨l, u, r⟩
  · rw [hf] at hm
    obtain rfl := hm
    obtain ⟨x0, x1, x2, y0, y1, y2⟩ := three_cells hg1
    have HF := Lib.hid hf
    clear hf hg1 HREC hw1
    go_wp2_with fail
    refine bodyPost_ret (results_item2 Try.results39 _ _ w.heap.size _ _ _ rfl (item_set HG1.out _ _ _)) rfl ⟨below_item HB1.out (Nat.le_refl _) _ _ _, .error 2, .bad HF.out, ?_⟩
    exact ⟨_, _, _, _, _, _, _, _, rfl, by decide⟩
  · rw [hf] at hm
    obtain ⟨vu, vr, rfl, hu, hr, hou, hor⟩ := hm
    obtain ⟨hlr, hlu⟩ := fstS_len hf
    have hul : u.length ≤ 16777216 := by have := fstS_len2 hf; have := HL.out; omega
    have hr0 := hr
    obtain ⟨A2, c2, rfl, hA2, dA2⟩ := hu
    obtain ⟨A3, c3, rfl, hA3, dA3⟩ := hr
    obtain ⟨M, hM⟩ : ∃ M, M = r.length := ⟨_, rfl⟩
    have HOR := Lib.hid ((own_slice A3 M c3 _ _).trans hor)
    have HR := Lib.hid hr0
    rw [← hM] at HR ⊢
    have HF := Lib.hid hf
    have HU := Lib.hid hA2
    have HDU := Lib.hid dA2
    have HUL := Lib.hid hul
    have HLU := Lib.hid hlu
    have HOU := Lib.hid hou
    obtain ⟨K, hK⟩ : ∃ K, K = u.length := ⟨_, rfl⟩
    rw [← hK] at hou ⊢
    have HK := Lib.hid hK
    obtain ⟨x0, x1, x2, y0, y1, y2⟩ := three_cells hg1
    clear hf hg1 hA2 dA2 hul hK hA3 dA3 hM hlr hlu hou hor hr0
    rcases l with _ | _
    · obtain ⟨i0, hi, hz0, hz1, hz2⟩ : ∃ i, Try.prog.info? 5 = some i ∧ i.zero = some (.int .u8 0) ∧ i.size = 1 ∧ i.bytes = 1 := info_parts info8
      have HAC := Lib.hid (acc_empty w1)
      have HB2 := Lib.hid (HB1.out.alloc HB1.out.size (.cells #[] 5))
      have HBE : Hid (Below w1.heap.size w1 (w1.alloc (.cells #[] 5))) := (Below.refl _ _).alloc (Nat.le_refl _) _
      have HRE := Lib.hid (HR.out.below HBE.out)
      have HG2 := Lib.hid ((Below.heap_alloc w1 (.cells #[] 5) w.heap.size (by omega)).trans HG1.out)
      have HSE : Hid ((w1.alloc (.cells #[] 5)).heap.size = w1.heap.size + 1) := by show _ = _; simp
      rcases A2 with _ | ad
      · have hK0 : K = 0 := by have := HU.out.le; have := HU.out.cap rfl; have := HK.out; omega
        have hu0 : u = [] := List.eq_nil_of_length_eq_zero (by have := HK.out; omega)
        have hc0 : c2 = 0 := HU.out.cap rfl
        subst hK0 hc0
        have HI : Hid (IAt (fun b => w1.heap.size ≤ b) (w1.alloc (.cells #[] 5)) (.agg #[.bool false, .slice (some ⟨w1.heap.size, 0, none⟩) 0 0, .slice none 0 0]) (.text u)) := by
          have := IAt.text HAC.out (show Ds 256 [] from Ds.nil)
          rw [hu0]; exact this
        clear hu0 x0 x1 x2 y0 y1 y2 hi hz0 hz1 hz2
        obtain ⟨x0, x1, x2, y0, y1, y2⟩ := three_cells HG2.out
        obtain ⟨i0, hi, hz0, hz1, hz2⟩ : ∃ i, Try.prog.info? 5 = some i ∧ i.zero = some (.int .u8 0) ∧ i.size = 1 ∧ i.bytes = 1 := info_parts info8
        go_wp2_with (at_builtin; refine wpList_append_own_none rfl (.tmp 28) (.tmp 29) 22 rfl w1.heap.size 5 i0 1 Try.underlying22 hi _ _ _ rfl HAC.out rfl ?_)
        refine bodyPost_ret (results_item2 Try.results39 _ _ w.heap.size _ _ _ rfl (item_set HG2.out _ _ _)) rfl ⟨below_item HB2.out (Nat.le_refl _) _ _ _, .ok (.text u, r), .text HF.out, ?_⟩
        refine ⟨_, _, rfl, HI.out.move (by simp) (fun b _ h => by have := HW.out; omega) (fun p hp hlt => ?_), ?_⟩
        · exact below_cell_item (by have := HW.out; omega)
        · exact ⟨byt_far_item HG2.out HRE.out, HOR.out⟩
      · have HNW := Lib.hid (HU.out.alloc (.cells #[] 5)).news
        clear x0 x1 x2 y0 y1 y2
        have hKl : K ≤ 16777216 := by have := HUL.out; have := HK.out; omega
        go_wp2_with (at_builtin; refine wpList_append_own _ rfl (.tmp 28) (.tmp 29) 22 rfl w1.heap.size 5 i0 (.int .u8 0) 1 1 Try.underlying22 hi hz0 hz1 hz2 rfl (by decide) (.slice (some ⟨w1.heap.size, 0, none⟩) 0 0) 0 [] rfl HAC.out ad K c2 (bv u) rfl (by rw [bv_length, HK.out]; omega) HNW.out (by intro u hu; simp [bv] at hu; obtain ⟨x, _, rfl⟩ := hu; rfl) (by unfold maxLen; omega) (by omega) (by rw [HSE.out]; omega) ?_)
        intro v' w2 hown hg _
        have hacc : Acc w2 w1.heap.size v' u := by
          unfold Acc
          have h := hown
          rw [HK.out] at h
          simpa using h
        have hb4 : Below w1.heap.size w1 w2 := HBE.out.grown hg (by rw [HSE.out]; omega) (fun k hk => by simp [Value.ownBlock] at hk; omega)
        have HR4 := Lib.hid (HR.out.below hb4)
        have hg4 := (hb4.block w.heap.size (by omega)).trans HG1.out
        have HB4 := Lib.hid (HB1.out.trans (hb4.mono HB1.out.size))
        have HG4 := Lib.hid hg4
        have HI := Lib.hid (IAt.text hacc HDU.out)
        obtain ⟨A5, c5, rfl⟩ := hacc.form
        obtain ⟨x0, x1, x2, y0, y1, y2⟩ := three_cells hg4
        clear hown hg hacc hb4 hg4 hi hz0 hz1 hz2
        go_wp2_with fail
        refine bodyPost_ret (results_item2 Try.results39 _ _ w.heap.size _ _ _ rfl (item_set HG4.out _ _ _)) rfl ⟨below_item HB4.out (Nat.le_refl _) _ _ _, .ok (.text u, r), .text HF.out, ?_⟩
        refine ⟨_, _, rfl, HI.out.move (by simp) (fun b _ h => by have := HW.out; omega) (fun p hp hlt => ?_), ?_⟩
        · exact below_cell_item (by have := HW.out; omega)
        · exact ⟨byt_far_item HG4.out HR4.out, HOR.out⟩
    · by_cases hdeep : d = 1024
      · subst hdeep
        clear HREC hdd
        go_wp2_with fail
        refine bodyPost_ret (results_item2 Try.results39 _ _ w.heap.size _ _ _ rfl (item_set HG1.out _ _ _)) rfl ⟨below_item HB1.out (Nat.le_refl _) _ _ _, .error 7, .deep HF.out, ?_⟩
        exact ⟨_, _, _, _, _, _, _, _, rfl, by decide⟩
      · have d1 : ¬ (d : Int) = 1024 := by omega
        have d2 : ((d : Int) == 1024) = false := by simpa using d1
        have d3 : IntKind.i64.wrap ((d : Int) + 1) = (d : Int) + 1 := IntWalk.i64_in _ (by omega)
        have HD := Lib.hid hdeep
        have HREC2 := Lib.hid (HREC.out hdeep)
        clear HREC hdeep hdd
        obtain ⟨i0, hi, hz0, hz1, hz2⟩ : ∃ i, Try.prog.info? 25 = some i ∧ i.zero = some (.agg #[.bool false, .slice none 0 0, .slice none 0 0]) ∧ i.size = 3 ∧ i.bytes = 56 := by
          obtain ⟨i, hi, he⟩ := Option.map_eq_some_iff.1 infoIt
          injection he with h1 h2
          injection h2 with h2 h3
          exact ⟨i, hi, h1, h2, h3⟩
        have HBX : Hid (Below w1.heap.size w1 (w1.alloc (.cells #[.bool true, .slice none 0 0, .slice none 0 0] 25))) := (Below.refl _ _).alloc (Nat.le_refl _) _
        have HCX : Hid ((w1.alloc (.cells #[.bool true, .slice none 0 0, .slice none 0 0] 25)).heap[w1.heap.size]? = some (.cells #[.bool true, .slice none 0 0, .slice none 0 0] 25 (0, 0))) := heap_alloc_new w1 _
        have HU2 := Lib.hid (HU.out.below HBX.out)
        obtain ⟨X, hX⟩ : ∃ X, X = w1.heap.size := ⟨_, rfl⟩
        rw [← hX] at HCX HBX hw1
        have HXE := Lib.hid hX
        have HW1 := Lib.hid hw1
        go_upto_region 9 with (fail)
        rw [← hX]
        clear hX hw1 x0 x1 x2 y0 y1 y2 HW
        go_loopw [8] (fun pv wr => ∃ (rest : List Nat) (xs : List Itm) (us : List Value) (v : Value), Hid (Byt wr pv rest ∧ pv.ownBlock = (Value.slice A 0 0).ownBlock) ∧ Hid (wr.heap[X]? = some (.cells #[.bool true, .slice none 0 0, v] 25 (0, 0))) ∧ Hid (AccI wr (X + 1) v us xs) ∧ Hid (Below X w1 wr) ∧ Hid (xs.length + rest.length ≤ u.length) ∧ Hid (∀ o, RowR rest (d + 1) o → RowR u (d + 1) (preR xs o)))
          (fun pv _ => lenOfV pv)
        case atStart =>
          exact ⟨u, [], [], _, ⟨⟨A2, c2, by rw [HK.out], HU2.out, HDU.out⟩, (own_slice A2 K c2 u.length c2).trans HOU.out⟩, HCX.out, AccI.nil _ _, HBX.out, by show _ ≤ _; simp, fun o ho => by cases o <;> exact ho⟩
        case round =>
          obtain ⟨rest, xs, us, v, hbyt, hcx, hacc, hbel, hlen, hinv⟩ := hrel
          obtain ⟨⟨A1, c1, rfl, hA1, dA1⟩, hown⟩ := hbyt.out
          obtain ⟨B, cc, rfl⟩ := hacc.out.form
          have hres : wr.heap[w.heap.size]? = some (.cells #[.bool false, .slice none 0 0, .slice none 0 0] 25 (0, 0)) := (hbel.out.block w.heap.size (by have := HW1.out; omega)).trans HG1.out
          by_cases hr0 : rest.length = 0
          · have e : rest = [] := List.eq_nil_of_length_eq_zero hr0
            subst e
            have hrow : RowR u (d + 1) (.ok xs) := by have := hinv.out _ (RowR.nil); simpa [preR] using this
            have HROW := Lib.hid hrow
            have HI := Lib.hid hacc.out.item
            have HBN := Lib.hid (HB1.out.trans (hbel.out.mono (by have := HW1.out; omega)))
            have hRR : Byt wr (.slice A3 M c3) r := by
              have := HR.out
              exact this.below (by have := hbel.out; rw [HXE.out] at this; exact this)
            have HRR := Lib.hid hRR
            have HRS := Lib.hid hres
            obtain ⟨Q, hQ⟩ : ∃ Q, Q = xs.length := ⟨_, rfl⟩
            obtain ⟨x0, x1, x2, y0, y1, y2⟩ := three_cells hres
            obtain ⟨u0, u1, u2, -, -, -⟩ := three_cells hcx.out
            rw [← hQ] at u2 HI
            clear hbyt hcx hacc hbel hlen hinv hA1 dA1 hr0 hown hrow hRR hres hQ hi hz0 hz1 hz2
            go_wp2_with fail
            refine bodyPost_ret (results_item2 Try.results39 _ _ w.heap.size _ _ _ rfl (item_set HRS.out _ _ _)) rfl ⟨below_item HBN.out (Nat.le_refl _) _ _ _, .ok (.list xs, r), .list HF.out HD.out HROW.out, ?_⟩
            refine ⟨_, _, rfl, HI.out.move (by simp) (fun b _ h => by have := HW1.out; omega) (fun p hp hlt => ?_), ?_⟩
            · exact below_cell_item (by have := HW1.out; omega)
            · exact ⟨byt_far_item HRS.out HRR.out, HOR.out⟩
          · have C1 := Lib.hid (HREC2.out A1 c1 rest wr (by have := hlen.out; have := HLU.out (by trivial); omega) hA1 dA1)
            obtain ⟨Kr, hKr⟩ : ∃ K, K = rest.length := ⟨_, rfl⟩
            obtain ⟨Q, hQ⟩ : ∃ Q, Q = xs.length := ⟨_, rfl⟩
            have k1 : (0 : Int) < (Kr : Int) := by omega
            have d4 : ((d + 1 : Nat) : Int) = (d : Int) + 1 := by omega
            rw [← hKr, d4] at C1
            rw [← hQ] at hcx hacc
            rw [← hKr]
            have HKR := Lib.hid hKr
            have HQ := Lib.hid hQ
            have HR0 := Lib.hid hr0
            clear hA1 dA1 hKr hQ hr0 d4
            go_wp2_with fail
            (with_reducible refine C1.out.mono ?_)
            rintro e w2 ⟨hb2, o, ho, hm⟩
            have HO := Lib.hid ho
            have HB2 := Lib.hid (hbel.out.trans (hb2.mono (Nat.le_trans (by rw [HXE.out]; exact Nat.le_refl _) (Nat.le_trans (show w1.heap.size ≤ wr.heap.size from hbel.out.size) (Nat.le_refl _)))))
            have hres2 := (hb2.block w.heap.size (heap_lt2 hres)).trans hres
            clear ho C1
            rcases o with k | ⟨x, r'⟩
            · obtain ⟨l1, a1, n1, c4, b1, m1, cp1, vr, rfl, hk⟩ := hm
              have hk2 : ((k : Int) != 0) = true := by simp; omega
              have hres3 := (Below.heap_alloc w2 (.cells #[.bool l1, .slice a1 n1 c4, .slice b1 m1 cp1] 25) w.heap.size (heap_lt2 hres2)).trans hres2
              have HRS := Lib.hid hres3
              have HBN := Lib.hid ((HB1.out.trans (HB2.out.mono (by have := HW1.out; omega))).alloc (Nat.le_of_lt (heap_lt2 hres2)) (.cells #[.bool l1, .slice a1 n1 c4, .slice b1 m1 cp1] 25))
              have HRW : Hid (RowR u (d + 1) (.error k)) := hinv.out _ (.here (by have := HR0.out; omega) HO.out)
              obtain ⟨x0, x1, x2, y0, y1, y2⟩ := three_cells hres3
              have HKN : Hid (k ≠ 0) := hk
              clear hbyt hcx hacc hbel hlen hinv hb2 hk hown hres hres2 hres3 hi hz0 hz1 hz2
              go_wp2_with fail
              refine bodyPost_ret (results_item2 Try.results39 _ _ w.heap.size _ _ _ rfl (item_set HRS.out _ _ _)) rfl ⟨below_item HBN.out (Nat.le_refl _) _ _ _, .error k, .wrong HF.out HD.out HRW.out, ?_⟩
              exact ⟨_, _, _, _, _, _, _, _, rfl, HKN.out⟩
            · obtain ⟨vx, vr, rfl, hx, hr, hor⟩ := hm
              obtain ⟨l1, a1, n1, c4, b1, m1, cp1, rfl⟩ := hx.parts
              have hb3 := ((Below.refl w2.heap.size w2).alloc (Nat.le_refl _) (.cells #[.bool l1, .slice a1 n1 c4, .slice b1 m1 cp1] 25)).alloc (by simp) (.cells #[.bool l1, .slice a1 n1 c4, .slice b1 m1 cp1] 25)
              have hXlt : X < wr.heap.size := heap_lt2 hcx.out
              have hcx2 := (hb2.block X hXlt).trans hcx.out
              have hcx3 := (Below.heap_alloc w2 (.cells #[.bool l1, .slice a1 n1 c4, .slice b1 m1 cp1] 25) X (heap_lt2 hcx2)).trans hcx2
              have hcx4 := (Below.heap_alloc (w2.alloc (.cells #[.bool l1, .slice a1 n1 c4, .slice b1 m1 cp1] 25)) (.cells #[.bool l1, .slice a1 n1 c4, .slice b1 m1 cp1] 25) X (heap_lt2 hcx3)).trans hcx3
              have hacc3 := (hacc.out.below hb2).below hb3
              have HA := Lib.hid hacc3
              have HXI := Lib.hid (hx.keep hb3)
              have HRB := Lib.hid (hr.below hb3)
              have hw2 : w2.heap.size = w2.heap.size := rfl
              have HB3 := Lib.hid ((HB2.out.alloc (Nat.le_of_lt (heap_lt2 hcx2)) (.cells #[.bool l1, .slice a1 n1 c4, .slice b1 m1 cp1] 25)).alloc (by simp; have := heap_lt2 hcx2; omega) (.cells #[.bool l1, .slice a1 n1 c4, .slice b1 m1 cp1] 25))
              have HN : Hid (∀ j u, ([.bool l1, .slice a1 n1 c4, .slice b1 m1 cp1] : List Value)[j]? = some u → ((w2.alloc (.cells #[.bool l1, .slice a1 n1 c4, .slice b1 m1 cp1] 25)).alloc (.cells #[.bool l1, .slice a1 n1 c4, .slice b1 m1 cp1] 25)).cell? ((⟨w2.heap.size + 1, 0, none⟩ : Addr).add j) = some u) := by
                intro j u hj
                have := item_new (w := w2.alloc (.cells #[.bool l1, .slice a1 n1 c4, .slice b1 m1 cp1] 25)) (t := 25) j u hj
                simpa using this
              have HOW : Hid (∀ k, (Value.slice B Q cc).ownBlock = some k → X + 1 ≤ k ∧ k < wr.heap.size) := by
                have := hacc.out.1.lt
                exact this
              have HSZ : Hid (((w2.alloc (.cells #[.bool l1, .slice a1 n1 c4, .slice b1 m1 cp1] 25)).alloc (.cells #[.bool l1, .slice a1 n1 c4, .slice b1 m1 cp1] 25)).heap.size = w2.heap.size + 2) := by show _ = _; simp
              have HV : Hid (vr.ownBlock = (Value.slice A 0 0).ownBlock) := hor.trans ((own_slice A1 _ _ _ _).symm.trans hown)
              have h13 := hread_len HO.out
              have HRL : Hid (Q + r'.length + 1 ≤ u.length) := by have := hlen.out; have := HQ.out; show _ ≤ _; omega
              have hxl : Q ≤ 16777216 := by have := HRL.out; have := HUL.out; omega
              have HXW : Hid (X < wr.heap.size ∧ X < w2.heap.size ∧ wr.heap.size ≤ w2.heap.size) := ⟨hXlt, heap_lt2 hcx2, hb2.size⟩
              have HAK : Hid (∀ k, (Value.slice A 0 0).ownBlock = some k → k < w.heap.size) := HAB.out (by have := HRL.out; have := HLU.out (by trivial); omega)
              have HHO := Lib.hid hcx4
              obtain ⟨A5, c5, rfl, hA5, dA5⟩ := hr
              obtain ⟨u0, u1, u2, -, -, -⟩ := three_cells hcx3
              clear hbyt hcx hacc hbel hb2 hb3 hacc3 hx hA5 dA5 hor hown h13 hres hres2 hcx2 hcx3 hcx4 hw2 hlen
              go_wp2_with (at_builtin; refine wpList_append_own_at _ rfl (.tmp 53) (.tmp 55) 23 rfl (X + 1) 25 i0 (.agg #[.bool false, .slice none 0 0, .slice none 0 0]) 3 56 Try.underlying23 hi hz0 hz1 hz2 rfl (by decide) (.slice B Q cc) Q us rfl (by have := HA.out.1; rwa [← HQ.out] at this) ⟨w2.heap.size + 1, 0, none⟩ 1 1 [.bool l1, .slice a1 n1 c4, .slice b1 m1 cp1] rfl rfl HN.out (by intro u hu; simp at hu; rcases hu with rfl | rfl | rfl <;> rfl) (by unfold maxLen; omega) (by omega) (by rw [HSZ.out]; have := HXW.out; omega) ?_)
              intro v' w3 hown hg _ hat
              have hnew := HA.out.grow (lo := wr.heap.size) (by have := HXW.out; omega) (fun k hk => (HOW.out k hk).2) HXI.out (by rw [← HQ.out]; exact hown) hg (by rw [HSZ.out]; exact hat)
              have hbyt := byt_grown HRB.out hg (fun k hk e => by
                have h1 := (HOW.out k hk).1
                have h2 := HAK.out k (HV.out.symm.trans e)
                have := HW1.out
                omega)
              have hbel := HB3.out.grown hg (by rw [HSZ.out]; have := HXW.out; omega) (fun k hk => by have := (HOW.out k hk).1; omega)
              have hcx5 := (hg.block X (by rw [HSZ.out]; have := HXW.out; omega) (fun e => by have := (HOW.out X e.symm).1; omega)).trans HHO.out
              obtain ⟨A6, c6, rfl⟩ := hnew.form
              have hvA : (Value.slice A5 r'.length c5).ownBlock ≠ some X := fun e => by
                have h2 := HAK.out X (HV.out.symm.trans e)
                have := HW1.out
                omega
              have N1 := Lib.hid (hnew.set (z := .slice A6 (xs ++ [x]).length c6) (X := X) (i := 2) (Nat.lt_succ_self X))
              have N2 := Lib.hid (byt_set (z := .slice A6 (xs ++ [x]).length c6) (X := X) (i := 2) hbyt hvA)
              have N3 := Lib.hid (hbel.setCell (p := ⟨X, 2, none⟩) (Nat.le_refl X) (.slice A6 (xs ++ [x]).length c6))
              have N4 : Hid ((w3.setCell ⟨X, 2, none⟩ (.slice A6 (xs ++ [x]).length c6)).heap[X]? = some (.cells #[.bool true, .slice none 0 0, .slice A6 (xs ++ [x]).length c6] 25 (0, 0))) := by
                have := heap_setCell_same w3 X 2 _ _ (.slice A6 (xs ++ [x]).length c6) hcx5
                simpa [Hid] using this
              obtain ⟨Z, hZ⟩ : ∃ Z, Z = (xs ++ [x]).length := ⟨_, rfl⟩
              rw [← hZ] at N1 N2 N3 N4 hown ⊢
              have HZ := Lib.hid hZ
              clear u0 u1 u2
              obtain ⟨u0, u1, u2, u3, u4, u5⟩ := three_cells hcx5
              clear hnew hbyt hbel hg hat hown hcx5 hvA hZ
              go_wp2_with fail
              refine ⟨⟨r', xs ++ [x], _, _, ⟨N2.out, HV.out⟩, N4.out, N1.out, N3.out, ?_, fun o ho => ?_⟩, ?_⟩
              · show _ ≤ _
                rw [List.length_append, List.length_singleton]; have := HRL.out; have := HQ.out; omega
              · have h0 : 0 < rest.length := by have := HR0.out; omega
                have h1 : RowR rest (d + 1) (preR [x] o) := by
                  cases o with
                  | ok l => exact .cons h0 HO.out ho
                  | error k => exact .behind h0 HO.out ho
                have h2 := hinv.out _ h1
                cases o with
                | ok l => simpa [preR] using h2
                | error k => exact h2
              · show r'.length < Kr
                have := hread_len HO.out; have := HKR.out; omega

theorem rfirst_all (N : Nat) (hN : N ≤ 16777216) : ∀ (d : Nat), d ≤ 1024 → ∀ (A : Option Addr) (c : Nat) (u : List Nat) (w : World), u.length ≤ N → Rd .u8 w A c u → Ds 256 u → Calls Try.prog 39 #[.slice A u.length c, .int .i64 (d : Int)] w (ReadQ A u d w) := by
  induction N with
  | zero => exact fun d hd A c u w hu h hds => rfirst_step w h hds (by omega) d hd (fun _ _ _ _ _ hlt => absurd hlt (by omega))
  | succ N ih => exact fun d hd A c u w hu h hds => rfirst_step w h hds (by omega) d hd (fun hne A' c' v w' hlt h' hds' => ih (by omega) (d + 1) (by omega) A' c' v w' (by omega) h' hds')

set_option maxRecDepth 100000 in
set_option maxHeartbeats 6400000 in
theorem rdecode_c {A : Option Addr} {c : Nat} {raw : List Nat} (w : World) (h : Rd .u8 w A c raw) (hd : Ds 256 raw) (hl : raw.length ≤ 16777216) :
    Calls Try.prog 18 #[.slice A raw.length c] w fun e w' => Below w.heap.size w w' ∧ ∃ o vx, ReadR raw 0 o ∧ e = .returned (.tuple #[vx, .int .i64 ((decR o).2 : Nat)]) ∧ IAt (fun b => w.heap.size ≤ b) w' vx (decR o).1 := by
  have hg0 := heap_alloc_new w (.cells #[.bool false, .slice none 0 0, .slice none 0 0] 25)
  have HX : Hid ((w.alloc (.cells #[.bool false, .slice none 0 0, .slice none 0 0] 25)).heap.size = w.heap.size + 1) := by show _ = _; simp
  have c1 : Calls Try.prog 39 #[.slice A raw.length c, .int .i64 0] (w.alloc (.cells #[.bool false, .slice none 0 0, .slice none 0 0] 25)) (ReadQ A raw 0 (w.alloc (.cells #[.bool false, .slice none 0 0, .slice none 0 0] 25))) :=
    rfirst_all raw.length hl 0 (by omega) A c raw _ (Nat.le_refl _) (h.alloc _) hd
  have C1 := Lib.hid c1
  have HB0 : Hid (Below w.heap.size w (w.alloc (.cells #[.bool false, .slice none 0 0, .slice none 0 0] 25))) := (Below.refl _ _).alloc (Nat.le_refl _) _
  have HG := Lib.hid hg0
  obtain ⟨L, hL⟩ : ∃ L, L = raw.length := ⟨_, rfl⟩
  rw [← hL] at C1 ⊢
  clear h hd hl hg0 c1 hL
  go_enter Try.func18, Try.ntmps18
  go_wp2_with fail
  (with_reducible refine C1.out.mono ?_)
  rintro e w1 ⟨hb, o, ho, hm⟩
  have hg1 := (hb.block w.heap.size (by rw [HX.out]; omega)).trans HG.out
  have HB1 := Lib.hid (HB0.out.trans (hb.mono (by rw [HX.out]; omega)))
  have hw1 : w.heap.size + 1 ≤ w1.heap.size := by have := hb.size; rw [HX.out] at this; exact this
  have HO := Lib.hid ho
  clear HB0 HG C1 hb ho
  rcases o with k | ⟨x, r⟩
  · obtain ⟨l1, a1, n1, c2, b1, m1, cp1, vr, rfl, hk⟩ := hm
    have hg2 := (Below.heap_alloc w1 (.cells #[.bool l1, .slice a1 n1 c2, .slice b1 m1 cp1] 25) w.heap.size (by omega)).trans hg1
    obtain ⟨x0, x1, x2, y0, y1, y2⟩ := three_cells hg2
    have HG2 := Lib.hid hg2
    have HB2 := Lib.hid (HB1.out.alloc HB1.out.size (.cells #[.bool l1, .slice a1 n1 c2, .slice b1 m1 cp1] 25))
    have hk2 : ((k : Int) != 0) = true := by simp; omega
    clear hg1 hg2 hk
    go_wp2_with fail
    refine bodyPost_ret (results_item1 Try.results18 _ _ w.heap.size _ _ _ rfl (item_set HG2.out _ _ _)) rfl ⟨below_item HB2.out (Nat.le_refl _) _ _ _, .error k, _, HO.out, rfl, item0 _ _⟩
  · obtain ⟨vx, vr, rfl, hx, hr, -⟩ := hm
    obtain ⟨l1, a1, n1, c2, b1, m1, cp1, rfl⟩ := hx.parts
    obtain ⟨A2, c3, rfl, hA2, dA2⟩ := hr
    have hg2 := (Below.heap_alloc w1 (.cells #[.bool l1, .slice a1 n1 c2, .slice b1 m1 cp1] 25) w.heap.size (by omega)).trans hg1
    have hn2 := heap_alloc_new w1 (.cells #[.bool l1, .slice a1 n1 c2, .slice b1 m1 cp1] 25)
    have HG2 := Lib.hid hg2
    have HB2 := Lib.hid (HB1.out.alloc HB1.out.size (.cells #[.bool l1, .slice a1 n1 c2, .slice b1 m1 cp1] 25))
    have HI := Lib.hid (hx.keep ((Below.refl w1.heap.size w1).alloc (Nat.le_refl _) (.cells #[.bool l1, .slice a1 n1 c2, .slice b1 m1 cp1] 25)))
    by_cases hr0 : r.length = 0
    · have hr1 : ¬ (0 : Int) < (r.length : Int) := by omega
      have hr2 : ¬ 0 < r.length := by omega
      have HD : Hid (decR (.ok (x, r)) = (x, 0)) := if_pos hr0
      obtain ⟨K, hK⟩ : ∃ K, K = r.length := ⟨_, rfl⟩
      rw [← hK] at hr1 hr2 ⊢
      obtain ⟨x0, x1, x2, y0, y1, y2⟩ := three_cells hg2
      obtain ⟨z0, z1, z2, -, -, -⟩ := three_cells hn2
      have HW := Lib.hid hw1
      clear hg1 hg2 hr0 hx hA2 dA2 hK hn2
      go_wp2_with fail
      refine bodyPost_ret (results_item1 Try.results18 _ _ w.heap.size _ _ _ rfl (item_set HG2.out _ _ _)) rfl ⟨below_item HB2.out (Nat.le_refl _) _ _ _, .ok (x, r), _, HO.out, by rw [HD.out]; rfl, ?_⟩
      rw [HD.out]
      exact HI.out.move (by simp) (fun b _ h => by have := HX.out; omega) (fun p hp hlt => below_cell_item (by have := HX.out; omega))
    · have hr1 : (0 : Int) < (r.length : Int) := by omega
      have hr2 : 0 < r.length := by omega
      have HD : Hid (decR (.ok (x, r)) = (.text [], 2)) := if_neg hr0
      obtain ⟨K, hK⟩ : ∃ K, K = r.length := ⟨_, rfl⟩
      rw [← hK] at hr1 hr2 ⊢
      obtain ⟨x0, x1, x2, y0, y1, y2⟩ := three_cells hg2
      clear hg1 hg2 hr0 hx hA2 dA2 hK hn2
      go_wp2_with fail
      refine bodyPost_ret (results_item1 Try.results18 _ _ w.heap.size _ _ _ rfl (item_set HG2.out _ _ _)) rfl ⟨below_item HB2.out (Nat.le_refl _) _ _ _, .ok (x, r), _, HO.out, by rw [HD.out]; rfl, ?_⟩
      rw [HD.out]
      exact item0 _ _
end Go.Proofs.Ytchhnalalplggaa
