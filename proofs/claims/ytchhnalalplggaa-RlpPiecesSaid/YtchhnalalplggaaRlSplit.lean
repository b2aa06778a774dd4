/- The reference's Split. -/
import Derived.Test.YtchhnalalplggaaRlFirst2
import Derived.Test.YtchhnalalplggaaRCmp
import Derived.Test.YtchhnalalplggaaRefW
namespace Go.Proofs.Ytchhnalalplggaa
open Go.RowKit

theorem results_tmp4 {fn : Func} {t u v x : Tmp} (h : fn.results = #[.tmp t, .tmp u, .tmp v, .tmp x]) (tmps : Array Value) (P : Program) (w : World) :
    (results fn tmps).run P w = .ok (.tuple #[tmps.getD t undef, tmps.getD u undef, tmps.getD v undef, tmps.getD x undef]) w := by
  simp [results, h]
theorem index_w (a b c d : Int) (w : World) : (Instr.index 52 (.agg #[.int .u64 a, .int .u64 b, .int .u64 c, .int .u64 d]) (.int .i64 0)).run Try.prog w = .ok (.int .u64 a) w := by kernel_rfl
def RSplitR (A : Option Addr) (raw : List Nat) (w : World) (e : Ending) (w' : World) : Prop := Below w.heap.size w w' ∧ match fstS raw with
  | none => e = .returned (.tuple #[.bool false, .slice none 0 0, .slice none 0 0, .int .i64 2])
  | some (l, u, r) => ∃ vu vr, e = .returned (.tuple #[.bool l, vu, vr, .int .i64 0]) ∧ Byt w' vu u ∧ Byt w' vr r ∧ vu.ownBlock = (Value.slice A 0 0).ownBlock ∧ vr.ownBlock = (Value.slice A 0 0).ownBlock

set_option maxRecDepth 100000 in
set_option maxHeartbeats 6400000 in
theorem rsplit_c {A : Option Addr} {c : Nat} {raw : List Nat} (w : World) (h : Rd .u8 w A c raw) (hd : Ds 256 raw) (hl : raw.length ≤ 16777216) :
    Calls Try.prog 22 #[.slice A raw.length c] w (RSplitR A raw w) := by
  have hNo : fstS raw = none → ∀ w', Below w.heap.size w w' → RSplitR A raw w (.returned (.tuple #[.bool false, .slice none 0 0, .slice none 0 0, .int .i64 2])) w' := fun h w' hb' => by
    refine ⟨hb', ?_⟩
    rw [h]
  by_cases hl0 : raw.length = 0
  · have HR := Lib.hid (hNo (if_pos hl0) w (Below.refl _ _))
    rw [hl0]
    clear h hd hl hl0 hNo
    go_enter Try.func22, Try.ntmps22
    go_wp2_with fail
    refine bodyPost_ret (results_tmp4 rfl _ _ _) rfl ?_
    exact HR.out
  · obtain ⟨b, o, rfl, hb, hc⟩ := h.at_ (by omega)
    have h0 : w.cell? ⟨b, o, none⟩ = some (.int .u8 (raw.getD 0 0 : Nat)) := by have := hc 0 (by omega); rwa [Nat.add_zero] at this
    obtain ⟨x, hx⟩ : ∃ x, x = raw.getD 0 0 := ⟨_, rfl⟩
    have hxd : x < 256 := by rw [hx]; exact hd.get (by omega) _
    rw [← hx] at h0
    obtain ⟨L, hL⟩ : ∃ L, L = raw.length := ⟨_, rfl⟩
    have hL1 : 1 ≤ L := by omega
    have hLc : L ≤ c := by have := h.le; omega
    have hz : ¬ (L : Int) = 0 := by omega
    have hz1 : ((L : Int) == 0) = false := by simpa using hz
    have j1 : (1 : Int) ≤ (L : Int) := by omega
    have j2 : (L : Int) ≤ (c : Int) := by omega
    have j3 : (1 : Int) ≤ (c : Int) := by omega
    have j4 : (0 : Int) < (L : Int) := by omega
    have j5 : 0 < L := by omega
    have j6 : 1 ≤ c := by omega
    have e0 : IntKind.i64.wrap (x : Int) = (x : Int) := IntWalk.i64_in _ (by omega)
    by_cases hx1 : x < 128
    · have hx1' : (x : Int) < 128 := by omega
      have HR : Hid (∀ w' : World, Below w.heap.size w w' → RSplitR (some ⟨b, o, none⟩) raw w (.returned (.tuple #[.bool false, .slice (some ⟨b, o, none⟩) 1 c, .slice (if c = 1 then some ⟨b, o, none⟩ else some ⟨b, o + 1, none⟩) (L - 1) (c - 1), .int .i64 0])) w') := by
        intro w' hb'
        refine ⟨hb', ?_⟩
        rw [show fstS raw = some (false, raw.take 1, raw.drop 1) by unfold fstS; rw [if_neg hl0, if_pos (by rw [← hx]; exact hx1)]]
        exact ⟨_, _, rfl, (byt_take h hd 1 (by omega)).below hb', (byt_rest h hd hL 1 (by omega)).below hb', rfl, by split <;> rfl⟩
      obtain ⟨AA, hAA⟩ : ∃ AA : Option Addr, AA = if c = 1 then some ⟨b, o, none⟩ else some ⟨b, o + 1, none⟩ := ⟨_, rfl⟩
      rw [← hAA] at HR
      rw [← hL]
      clear h hd hl hl0 hc hx hL hx1 hNo
      go_enter Try.func22, Try.ntmps22
      go_wp2_with fail
      go_region
      simp only [← hAA]
      clear hAA
      go_simp
      go_wp2_with fail
      refine bodyPost_ret (results_tmp4 rfl _ _ _) rfl ?_
      exact HR.out _ (Below.refl _ _).drew
    · have hx1' : ¬ (x : Int) < 128 := by omega
      obtain ⟨isL, hisL⟩ : ∃ l : Bool, l = decide (192 ≤ x) := ⟨_, rfl⟩
      obtain ⟨y, hy⟩ : ∃ y, y = x - 128 := ⟨_, rfl⟩
      have e1 : IntKind.i64.wrap (y : Int) = (y : Int) := IntWalk.i64_in _ (by omega)
      have e1' : (x : Int) - 128 = (y : Int) := by omega
      obtain ⟨a, ha⟩ : ∃ a, a = y % 64 := ⟨_, rfl⟩
      have e2 : (y : Int).tmod 64 = (a : Int) := by rw [Int.tmod_eq_emod_of_nonneg (by omega)]; omega
      have e2' : (y : Int) % 64 = (a : Int) := by omega
      have e3 : IntKind.i64.wrap (a : Int) = (a : Int) := IntWalk.i64_in _ (by omega)
      have e4 : IntKind.u64.wrap (a : Int) = (a : Int) := IntWalk.u64_in _ (by omega)
      have haS : (if 192 ≤ x then x - 192 else x - 128) = a := by split <;> omega
      have hge : (192 : Int) ≤ (x : Int) ↔ isL = true := by rw [hisL]; simp; omega
      have HFS : Hid (fstS raw = match lenS a (raw.drop 1) with
          | none => none
          | some (n, u) => if u.length < n then none else if isL = true then some (true, u.take n, u.drop n) else if bareB (u.take n) = true then none else some (false, u.take n, u.drop n)) := by
        show _ = _
        unfold fstS
        rw [if_neg hl0, if_neg (by rw [← hx]; exact hx1), ← hx, haS]
        rcases lenS a (raw.drop 1) with _ | ⟨n, u⟩
        · rfl
        · show (if _ then _ else _) = (if _ then _ else _)
          rw [hisL]
          simp only [decide_eq_true_eq]
      rw [← hL]
      have H := Lib.hid h
      have HD := Lib.hid hd
      have HL := Lib.hid hL
      have HL0 := Lib.hid hl
      have HC := Lib.hid hc
      have HNO := Lib.hid hNo
      clear h hd hl hl0 hc hx hx1 hNo hisL haS hL hy
      by_cases ha55 : a ≤ 55
      · have ha55' : ¬ (55 : Int) < (a : Int) := by omega
        obtain ⟨U, hU⟩ : ∃ U, U = L - 1 := ⟨_, rfl⟩
        have f1 : (L : Int) - 1 = (U : Int) := by omega
        have f2 : IntKind.i64.wrap (U : Int) = (U : Int) := IntWalk.i64_in _ (by have := HL0.out; have := HL.out; omega)
        have f3 : IntKind.u64.wrap (U : Int) = (U : Int) := IntWalk.u64_in _ (by have := HL0.out; have := HL.out; omega)
        have f5 : Hid (IntKind.u64.wrap (wrap64 ((L - 1 : Nat) : Int)) = (U : Int)) := by
          show _ = _
          rw [← hU, IntWalk.wrap64_in _ (by have := HL0.out; have := HL.out; omega)]; exact f3
        have HF : Hid (fstS raw = if U < a then none else if isL = true then some (true, (raw.drop 1).take a, raw.drop (1 + a)) else if bareB ((raw.drop 1).take a) = true then none else some (false, (raw.drop 1).take a, raw.drop (1 + a))) := by
          show _ = _
          rw [HFS.out, show lenS a (raw.drop 1) = some (a, raw.drop 1) from if_pos ha55]
          simp only [List.length_drop, List.drop_drop]
          rw [← HL.out, ← hU]
        have HU := Lib.hid hU
        clear ha hU
        rcases isL with _ | _
        · have hge' : ¬ (192 : Int) ≤ (x : Int) := fun h => by cases hge.1 h
          clear hge
          go_enter Try.func22, Try.ntmps22
          go_upto_region 18 with (fail)
          by_cases hn : U < a
          · have HR : Hid (∀ w', Below w.heap.size w w' → RSplitR (some ⟨b, o, none⟩) raw w (.returned (.tuple #[.bool false, .slice none 0 0, .slice none 0 0, .int .i64 2])) w') := fun w' hb' => HNO.out (by rw [HF.out, if_pos hn]) w' hb'
            have hn' : (U : Int) < (a : Int) := by omega
            have f5' := f5.out
            clear hn
            go_wp2_with fail
            refine bodyPost_ret (results_tmp4 rfl _ _ _) rfl ?_
            exact HR.out _ (Below.refl _ _)
          · have hn' : ¬ (U : Int) < (a : Int) := by omega
            have hn2 : a ≤ 16777216 := by have := HL0.out; have := HL.out; have := HU.out; omega
            have m1 : IntKind.i64.wrap (a : Int) = (a : Int) := IntWalk.i64_in _ (by omega)
            obtain ⟨V, hV⟩ : ∃ V, V = 1 + a := ⟨_, rfl⟩
            have m2 : (1 : Int) + (a : Int) = (V : Int) := by omega
            have m3 : IntKind.i64.wrap (V : Int) = (V : Int) := IntWalk.i64_in _ (by omega)
            have m4 : (1 : Int) ≤ (V : Int) := by omega
            have HV := Lib.hid hV
            clear hV
            have m5 : (V : Int) ≤ (c : Int) := by have := HU.out; omega
            have m6 : (V : Int) ≤ (L : Int) := by have := HU.out; omega
            have hR2 := H.out.rest 1 (by have := HL.out; omega)
            obtain ⟨o1, hAA⟩ : ∃ o1, (if c = 1 then some ⟨b, o, none⟩ else some ⟨b, o + 1, none⟩ : Option Addr) = some ⟨b, o1, none⟩ := by
              by_cases h : c = 1
              · exact ⟨o, if_pos h⟩
              · exact ⟨o + 1, if_neg h⟩
            rw [hAA] at hR2
            have hdl : a ≤ (raw.drop 1).length := by rw [List.length_drop]; have := HL.out; have := HU.out; omega
            have HP := Lib.hid (byt_take hR2 (HD.out.drop 1) a hdl)
            have HT := Lib.hid (byt_rest H.out HD.out HL.out V (by have := HL.out; omega))
            obtain ⟨A2, hA2⟩ : ∃ A2 : Option Addr, A2 = if c = V then some ⟨b, o, none⟩ else some ⟨b, o + V, none⟩ := ⟨_, rfl⟩
            rw [← hA2] at HT
            have HOK : Hid (fstS raw = some (false, (raw.drop 1).take a, raw.drop (1 + a)) → ∀ w', Below w.heap.size w w' → RSplitR (some ⟨b, o, none⟩) raw w (.returned (.tuple #[.bool false, .slice (some ⟨b, o1, none⟩) a (c - 1), .slice A2 (L - V) (c - V), .int .i64 0])) w') := by
              intro h w' hb'
              refine ⟨hb', ?_⟩
              rw [h]
              exact ⟨_, _, rfl, HP.out.below hb', by rw [← HV.out]; exact HT.out.below hb', rfl, by rw [hA2]; split <;> rfl⟩
            have vS : V - 1 = a := by have := HV.out; omega
            have HR2 := Lib.hid hR2
            have HDL := Lib.hid hdl
            clear hR2 hdl
            by_cases hn1 : a = 1
            · have hcS : ¬ c = 1 := by have := HV.out; omega
              rw [if_neg hcS] at hAA
              injection hAA with hAA; injection hAA with _ hAA; subst hAA
              obtain ⟨b1, o2, e, hb1, hc1⟩ := HR2.out.at_ (by have := HDL.out; omega)
              injection e with e; injection e with e5 e6; subst e5; subst e6
              have z0 : w.cell? ⟨b, o + 1, none⟩ = some (.int .u8 ((raw.drop 1).getD 0 0 : Nat)) := by have := hc1 0 (by have := HDL.out; omega); rwa [Nat.add_zero] at this
              have hbare : bareB ((raw.drop 1).take a) = decide ((raw.drop 1).getD 0 0 < 128) := by
                unfold bareB
                rw [List.length_take, Nat.min_eq_left HDL.out, hn1]
                have : ((raw.drop 1).take 1).getD 0 0 = (raw.drop 1).getD 0 0 := by simp [List.getD_eq_getElem?_getD]
                rw [this]; simp
              obtain ⟨z, hz'⟩ : ∃ z, z = (raw.drop 1).getD 0 0 := ⟨_, rfl⟩
              rw [← hz'] at z0 hbare
              have q2 : ((a : Int) == 1) = true := by simp; omega
              have q3 : (0 : Int) < (a : Int) := by omega
              have q4 : 0 < a := by omega
              clear hc1 hb1 hz' hn1
              by_cases hz2 : z < 128
              · have hz3 : (z : Int) < 128 := by omega
                have HR := Lib.hid (HNO.out (by rw [HF.out, if_neg hn, if_neg (by simp), if_pos (by rw [hbare]; exact decide_eq_true hz2)]))
                have f5' := f5.out
                clear hn hz2 hA2 hbare
                go_wp2_with fail
                refine bodyPost_ret (results_tmp4 rfl _ _ _) rfl ?_
                exact HR.out _ (Below.refl _ _)
              · have hz3 : ¬ (z : Int) < 128 := by omega
                have HR := Lib.hid (HOK.out (by rw [HF.out, if_neg hn]; rw [if_neg (by simp), if_neg (by rw [hbare]; simpa using hz2)]))
                have f5' := f5.out
                clear hn hz2 hbare
                go_wp2_with fail
                go_region
                simp only [← hA2]
                clear hA2
                go_simp
                go_wp2_with fail
                refine bodyPost_ret (results_tmp4 rfl _ _ _) rfl ?_
                exact HR.out _ (Below.refl _ _).drew
            · have q2 : ((a : Int) == 1) = false := by simp; omega
              have hbare : bareB ((raw.drop 1).take a) = false := by
                unfold bareB
                rw [List.length_take, Nat.min_eq_left HDL.out]
                exact decide_eq_false (by omega)
              have HR := Lib.hid (HOK.out (by rw [HF.out, if_neg hn]; rw [if_neg (by simp), if_neg (by rw [hbare]; simp)]))
              have f5' := f5.out
              clear hn hn1 hbare
              go_wp2_with fail
              go_region
              simp only [← hA2]
              clear hA2
              go_simp
              go_wp2_with fail
              refine bodyPost_ret (results_tmp4 rfl _ _ _) rfl ?_
              exact HR.out _ (Below.refl _ _).drew
        · have hge' : (192 : Int) ≤ (x : Int) := hge.2 rfl
          clear hge
          go_enter Try.func22, Try.ntmps22
          go_upto_region 18 with (fail)
          by_cases hn : U < a
          · have HR : Hid (∀ w', Below w.heap.size w w' → RSplitR (some ⟨b, o, none⟩) raw w (.returned (.tuple #[.bool false, .slice none 0 0, .slice none 0 0, .int .i64 2])) w') := fun w' hb' => HNO.out (by rw [HF.out, if_pos hn]) w' hb'
            have hn' : (U : Int) < (a : Int) := by omega
            have f5' := f5.out
            clear hn
            go_wp2_with fail
            refine bodyPost_ret (results_tmp4 rfl _ _ _) rfl ?_
            exact HR.out _ (Below.refl _ _)
          · have hn' : ¬ (U : Int) < (a : Int) := by omega
            have hn2 : a ≤ 16777216 := by have := HL0.out; have := HL.out; have := HU.out; omega
            have m1 : IntKind.i64.wrap (a : Int) = (a : Int) := IntWalk.i64_in _ (by omega)
            obtain ⟨V, hV⟩ : ∃ V, V = 1 + a := ⟨_, rfl⟩
            have m2 : (1 : Int) + (a : Int) = (V : Int) := by omega
            have m3 : IntKind.i64.wrap (V : Int) = (V : Int) := IntWalk.i64_in _ (by omega)
            have m4 : (1 : Int) ≤ (V : Int) := by omega
            have HV := Lib.hid hV
            clear hV
            have m5 : (V : Int) ≤ (c : Int) := by have := HU.out; omega
            have m6 : (V : Int) ≤ (L : Int) := by have := HU.out; omega
            have hR2 := H.out.rest 1 (by have := HL.out; omega)
            obtain ⟨o1, hAA⟩ : ∃ o1, (if c = 1 then some ⟨b, o, none⟩ else some ⟨b, o + 1, none⟩ : Option Addr) = some ⟨b, o1, none⟩ := by
              by_cases h : c = 1
              · exact ⟨o, if_pos h⟩
              · exact ⟨o + 1, if_neg h⟩
            rw [hAA] at hR2
            have hdl : a ≤ (raw.drop 1).length := by rw [List.length_drop]; have := HL.out; have := HU.out; omega
            have HP := Lib.hid (byt_take hR2 (HD.out.drop 1) a hdl)
            have HT := Lib.hid (byt_rest H.out HD.out HL.out V (by have := HL.out; omega))
            obtain ⟨A2, hA2⟩ : ∃ A2 : Option Addr, A2 = if c = V then some ⟨b, o, none⟩ else some ⟨b, o + V, none⟩ := ⟨_, rfl⟩
            rw [← hA2] at HT
            have HOK : Hid (fstS raw = some (true, (raw.drop 1).take a, raw.drop (1 + a)) → ∀ w', Below w.heap.size w w' → RSplitR (some ⟨b, o, none⟩) raw w (.returned (.tuple #[.bool true, .slice (some ⟨b, o1, none⟩) a (c - 1), .slice A2 (L - V) (c - V), .int .i64 0])) w') := by
              intro h w' hb'
              refine ⟨hb', ?_⟩
              rw [h]
              exact ⟨_, _, rfl, HP.out.below hb', by rw [← HV.out]; exact HT.out.below hb', rfl, by rw [hA2]; split <;> rfl⟩
            have vS : V - 1 = a := by have := HV.out; omega
            have HR2 := Lib.hid hR2
            have HDL := Lib.hid hdl
            clear hR2 hdl
            have HR := Lib.hid (HOK.out (by rw [HF.out, if_neg hn]; first | exact if_pos rfl | exact if_pos trivial))
            have f5' := f5.out
            clear hn
            go_wp2_with fail
            go_region
            simp only [← hA2]
            clear hA2
            go_simp
            go_wp2_with fail
            refine bodyPost_ret (results_tmp4 rfl _ _ _) rfl ?_
            exact HR.out _ (Below.refl _ _).drew
      · have ha55' : (55 : Int) < (a : Int) := by omega
        obtain ⟨s, hs⟩ : ∃ s, s = a - 54 := ⟨_, rfl⟩
        obtain ⟨k, hk⟩ : ∃ k, k = a - 55 := ⟨_, rfl⟩
        have e5 : IntKind.i64.wrap (s : Int) = (s : Int) := IntWalk.i64_in _ (by omega)
        have e5' : (a : Int) - 54 = (s : Int) := by omega
        have hk8 : k ≤ 8 := by omega
        have hk1 : 1 ≤ k := by omega
        have hks : s = k + 1 := by omega
        have HLS : Hid (lenS a (raw.drop 1) = if (raw.drop 1).length < k ∨ (raw.drop 1).getD 0 0 = 0 then none else if be ((raw.drop 1).take k) ≤ 55 then none else some (be ((raw.drop 1).take k), (raw.drop 1).drop k)) := by
          show _ = _
          rw [hk]
          exact if_neg ha55
        have hd1 : (raw.drop 1).length = L - 1 := by rw [List.length_drop, ← HL.out]
        have hnone : lenS a (raw.drop 1) = none → fstS raw = none := fun h => by rw [HFS.out, h]
        have HD1 := Lib.hid hd1
        clear ha hs hk ha55
        by_cases hLs : L < s
        · have hLs' : (L : Int) < (s : Int) := by omega
          have HR := Lib.hid (HNO.out (hnone (by rw [HLS.out, if_pos (Or.inl (by rw [HD1.out]; omega))])))
          clear hnone hd1 hks hLs hk8 hk1
          rcases isL with _ | _
          · have hge' : ¬ (192 : Int) ≤ (x : Int) := fun h => by cases hge.1 h
            clear hge
            go_enter Try.func22, Try.ntmps22
            go_wp2_with fail
            refine bodyPost_ret (results_tmp4 rfl _ _ _) rfl ?_
            exact HR.out _ (Below.refl _ _)
          · have hge' : (192 : Int) ≤ (x : Int) := hge.2 rfl
            clear hge
            go_enter Try.func22, Try.ntmps22
            go_wp2_with fail
            refine bodyPost_ret (results_tmp4 rfl _ _ _) rfl ?_
            exact HR.out _ (Below.refl _ _)
        · have hLs' : ¬ (L : Int) < (s : Int) := by omega
          have z0 : w.cell? ⟨b, o + 1, none⟩ = some (.int .u8 (raw.getD 1 0 : Nat)) := HC.out 1 (by have := HL.out; omega)
          have hz0 : raw.getD 1 0 = (raw.drop 1).getD 0 0 := by simp [List.getD_eq_getElem?_getD]
          obtain ⟨z, hz'⟩ : ∃ z, z = raw.getD 1 0 := ⟨_, rfl⟩
          rw [← hz'] at z0 hz0
          have j7 : (1 : Int) < (L : Int) := by omega
          have j8 : 1 < L := by omega
          by_cases hz2 : z = 0
          · have hz3 : ((z : Int) == 0) = true := by simp; omega
            have HR := Lib.hid (HNO.out (hnone (by rw [HLS.out, if_pos (Or.inr (by rw [← hz0]; exact hz2))])))
            clear hnone hd1 hks hLs hk8 hk1 hz2 hz0 hz'
            rcases isL with _ | _
            · have hge' : ¬ (192 : Int) ≤ (x : Int) := fun h => by cases hge.1 h
              clear hge
              go_enter Try.func22, Try.ntmps22
              go_wp2_with fail
              refine bodyPost_ret (results_tmp4 rfl _ _ _) rfl ?_
              exact HR.out _ (Below.refl _ _)
            · have hge' : (192 : Int) ≤ (x : Int) := hge.2 rfl
              clear hge
              go_enter Try.func22, Try.ntmps22
              go_wp2_with fail
              refine bodyPost_ret (results_tmp4 rfl _ _ _) rfl ?_
              exact HR.out _ (Below.refl _ _)
          · have hz3 : ((z : Int) == 0) = false := by simp; omega
            have hLS2 : lenS a (raw.drop 1) = if be ((raw.drop 1).take k) ≤ 55 then none else some (be ((raw.drop 1).take k), raw.drop s) := by
              rw [HLS.out, if_neg (by rw [HD1.out, ← hz0]; omega), List.drop_drop, hks, Nat.add_comm 1 k]
            have hRR := H.out.rest 1 (by have := HL.out; omega)
            have hc1n : ¬ c = 1 := by omega
            rw [if_neg hc1n] at hRR
            have c1 := rfrom_n w (byt_take hRR (HD.out.drop 1) k (by rw [HD1.out]; omega)) (by rw [List.length_take]; omega)
            obtain ⟨N, hN⟩ : ∃ N, N = be ((raw.drop 1).take k) := ⟨_, rfl⟩
            have hN' : dv 256 ((raw.drop 1).take k).reverse = N := hN.symm
            rw [hN'] at c1
            rw [← hN] at hLS2
            have C1 := Lib.hid c1
            have c2 : ∀ w, Calls Try.prog 44 #[.int .u64 55] w (RetR (fun w' v => Num w' v 55 2) w) := rof_c 55 (by omega)
            have c3 : ∀ w, Calls Try.prog 44 #[.int .u64 1099511627776] w (RetR (fun w' v => Num w' v 1099511627776 2) w) := rof_c 1099511627776 (by omega)
            have C2 := Lib.hid c2
            have C3 := Lib.hid c3
            have vS1 : s - 1 = k := by omega
            have g1 : (1 : Int) ≤ (s : Int) := by omega
            have g2 : (s : Int) ≤ (c : Int) := by omega
            have g3 : (s : Int) ≤ (L : Int) := by omega
            have HKS := Lib.hid hks
            have HLS2 := Lib.hid hLS2
            have HK8 : Hid (k ≤ 8) := hk8
            have HTL : Hid (((raw.drop 1).take k).length = k) := by show _ = _; rw [List.length_take, HD1.out]; omega
            clear hLS2 hRR c1 hN hN' c2 c3 hd1 hks hLs hk8 hk1 hz2 hz0 hz'
            have hgeD : decide ((192 : Int) ≤ (x : Int)) = isL := by
              rcases isL with _ | _
              · exact decide_eq_false fun h => by cases hge.1 h
              · exact decide_eq_true (hge.2 rfl)
            have HGE := Lib.hid hge
            clear hge
            rcases isL with _ | _
            · have hge' : ¬ (192 : Int) ≤ (x : Int) := fun h => by cases HGE.out.1 h
              clear hgeD
              go_enter Try.func22, Try.ntmps22
              go_wp2_with fail
              (with_reducible refine C1.out.mono ?_)
              rintro e w1 ⟨v1, rfl, hnum, hb1⟩
              have HB1 := Lib.hid hb1
              have HN1 := Lib.hid hnum
              clear C1 hb1 hnum
              go_wp2_with fail
              (with_reducible refine (C2.out _).mono ?_)
              rintro e w2 ⟨v2, rfl, hnum2, hb2⟩
              have HB2 := Lib.hid (HB1.out.trans (hb2.mono HB1.out.size))
              have HN2 := Lib.hid (HN1.out.below hb2)
              have CC := Lib.hid (rcmp_n w2 (HN1.out.below hb2) hnum2 (by have := HK8.out; have := HTL.out; omega))
              clear C2 hb2 hnum2 HB1 HN1
              obtain ⟨O, hO⟩ : ∃ O, O = ordI N 55 := ⟨_, rfl⟩
              rw [← hO] at CC
              go_wp2_with fail
              (with_reducible refine CC.out.mono ?_)
              rintro e w3 ⟨rfl, m3, rfl⟩
              clear CC
              by_cases hN55 : N ≤ 55
              · have hO1 : O ≤ 0 := by rw [hO]; unfold ordI; split <;> (try split) <;> omega
                have HR := Lib.hid (HNO.out (hnone (by rw [HLS2.out, if_pos hN55])))
                clear hO hN55 hnone
                go_wp2_with fail
                refine bodyPost_ret (results_tmp4 rfl _ _ _) rfl ?_
                exact HR.out _ (HB2.out.trans (below_drewN _ _ |>.mono HB2.out.size))
              · have hO1 : ¬ O ≤ 0 := by rw [hO, show ordI N 55 = 1 from by unfold ordI; rw [if_neg (by omega), if_pos (by omega)]]; omega
                clear hO
                go_wp2_with fail
                (with_reducible refine (C3.out _).mono ?_)
                rintro e w4 ⟨v4, rfl, hnum4, hb4⟩
                have hb34 : Below w2.heap.size w2 w4 := (below_drewN w2 m3).trans hb4
                have HB4 := Lib.hid (HB2.out.trans (hb34.mono HB2.out.size))
                have HN4 := Lib.hid (HN2.out.below hb34)
                have CC := Lib.hid (rcmp_n w4 HN4.out hnum4 (by have := HK8.out; have := HTL.out; omega))
                clear C3 hb4 hnum4 HB2 HN2 hb34
                obtain ⟨O2, hO2⟩ : ∃ O2, O2 = ordI N 1099511627776 := ⟨_, rfl⟩
                rw [← hO2] at CC
                go_wp2_with fail
                (with_reducible refine CC.out.mono ?_)
                rintro e w5 ⟨rfl, m5, rfl⟩
                clear CC
                have HB5 := Lib.hid (HB4.out.trans ((below_drewN w4 m5).mono HB4.out.size))
                have hF : fstS raw = if L - s < N then none else if false = true then some (true, (raw.drop s).take N, (raw.drop s).drop N) else if bareB ((raw.drop s).take N) = true then none else some (false, (raw.drop s).take N, (raw.drop s).drop N) := by
                  rw [HFS.out, HLS2.out, if_neg hN55]
                  simp only [List.length_drop]
                  rw [← HL.out]
                by_cases hN40 : 1099511627776 < N
                · have hO3 : (0 : Int) < O2 := by rw [hO2, show ordI N 1099511627776 = 1 from by unfold ordI; rw [if_neg (by omega), if_pos (by omega)]]; omega
                  have HR := Lib.hid (HNO.out (by rw [hF, if_pos (by have := HL0.out; have := HL.out; omega)]))
                  clear hO2 hN55 hnone hN40 hF
                  go_wp2_with fail
                  refine bodyPost_ret (results_tmp4 rfl _ _ _) rfl ?_
                  exact HR.out _ HB5.out
                · have hO3 : ¬ (0 : Int) < O2 := by rw [hO2]; unfold ordI; split <;> (try split) <;> omega
                  have cw := rW_n (w4.drewN m5) (HN4.out.below (below_drewN w4 m5)) (by have := HK8.out; have := HTL.out; omega)
                  have CW := Lib.hid cw
                  have HN40 : Hid (N ≤ 1099511627776 ∧ 55 < N) := ⟨by omega, by omega⟩
                  have HF := Lib.hid hF
                  clear hO2 cw hF hN55 hN40 HN4
                  go_wp2_with fail
                  (with_reducible refine CW.out.mono ?_)
                  rintro e w6 ⟨a0, a1, a2, a3, rfl, hisw, hb6⟩
                  have hB6 := HB5.out.trans (hb6.mono HB5.out.size)
                  obtain rfl : N = a0 := by
                    obtain ⟨l0, l1, l2, l3, hv⟩ := hisw
                    have := HN40.out
                    rw [Nat.mod_eq_of_lt (by omega)] at hv
                    omega
                  have HB6 := Lib.hid hB6
                  clear CW hisw hb6 hB6 HB5 HB4 hO1 hO3 h0 z0 hz3 hLs'
                  obtain ⟨U, hU⟩ : ∃ U, U = L - s := ⟨_, rfl⟩
                  have f1 : (L : Int) - (s : Int) = (U : Int) := by omega
                  have f2 : IntKind.i64.wrap (U : Int) = (U : Int) := IntWalk.i64_in _ (by have := HL0.out; have := HL.out; omega)
                  have f3 : IntKind.u64.wrap (U : Int) = (U : Int) := IntWalk.u64_in _ (by have := HL0.out; have := HL.out; omega)
                  have f5 : Hid (True) := trivial
                  have HF : Hid (fstS raw = if U < N then none else if false = true then some (true, (raw.drop s).take N, raw.drop (s + N)) else if bareB ((raw.drop s).take N) = true then none else some (false, (raw.drop s).take N, raw.drop (s + N))) := by
                    have h := HF.out
                    rw [← hU, List.drop_drop] at h
                    exact h
                  have HU := Lib.hid hU
                  have hN55 : 55 < N := HN40.out.2
                  clear hU
                  unfold W4
                  have ix := index_w (N : Int) a1 a2 a3 w6
                  go_upto_region 18 with (fail)
                  by_cases hn : U < N
                  · have HR : Hid (∀ w', Below w.heap.size w w' → RSplitR (some ⟨b, o, none⟩) raw w (.returned (.tuple #[.bool false, .slice none 0 0, .slice none 0 0, .int .i64 2])) w') := fun w' hb' => HNO.out (by rw [HF.out, if_pos hn]) w' hb'
                    have hn' : (U : Int) < (N : Int) := by omega
                    have f5' := f5.out
                    clear hn
                    go_wp2_with fail
                    refine bodyPost_ret (results_tmp4 rfl _ _ _) rfl ?_
                    exact HR.out _ HB6.out
                  · have hn' : ¬ (U : Int) < (N : Int) := by omega
                    have hn2 : N ≤ 16777216 := by have := HL0.out; have := HL.out; have := HU.out; omega
                    have m1 : IntKind.i64.wrap (N : Int) = (N : Int) := IntWalk.i64_in _ (by omega)
                    obtain ⟨V, hV⟩ : ∃ V, V = s + N := ⟨_, rfl⟩
                    have m2 : ((s : Int) : Int) + (N : Int) = (V : Int) := by omega
                    have m3 : IntKind.i64.wrap (V : Int) = (V : Int) := IntWalk.i64_in _ (by omega)
                    have m4 : ((s : Int) : Int) ≤ (V : Int) := by omega
                    have HV := Lib.hid hV
                    clear hV
                    have m5 : (V : Int) ≤ (c : Int) := by have := HU.out; omega
                    have m6 : (V : Int) ≤ (L : Int) := by have := HU.out; omega
                    have hR2 := H.out.rest s (by have := HL.out; omega)
                    have hcS : ¬ c = s := by have := HU.out; have := HV.out; omega
                    rw [if_neg hcS] at hR2
                    have hdl : N ≤ (raw.drop s).length := by rw [List.length_drop]; have := HL.out; have := HU.out; omega
                    have HP := Lib.hid (byt_take hR2 (HD.out.drop s) N hdl)
                    have HT := Lib.hid (byt_rest H.out HD.out HL.out V (by have := HL.out; omega))
                    obtain ⟨A2, hA2⟩ : ∃ A2 : Option Addr, A2 = if c = V then some ⟨b, o, none⟩ else some ⟨b, o + V, none⟩ := ⟨_, rfl⟩
                    rw [← hA2] at HT
                    have HOK : Hid (fstS raw = some (false, (raw.drop s).take N, raw.drop (s + N)) → ∀ w', Below w.heap.size w w' → RSplitR (some ⟨b, o, none⟩) raw w (.returned (.tuple #[.bool false, .slice (some ⟨b, o + s, none⟩) N (c - s), .slice A2 (L - V) (c - V), .int .i64 0])) w') := by
                      intro h w' hb'
                      refine ⟨hb', ?_⟩
                      rw [h]
                      exact ⟨_, _, rfl, HP.out.below hb', by rw [← HV.out]; exact HT.out.below hb', rfl, by rw [hA2]; split <;> rfl⟩
                    have vS : V - s = N := by have := HV.out; omega
                    have HR2 := Lib.hid hR2
                    have HDL := Lib.hid hdl
                    clear hR2 hdl
                    have q2 : ((N : Int) == 1) = false := by simp; omega
                    have hbare : bareB ((raw.drop s).take N) = false := by
                      unfold bareB
                      rw [List.length_take, Nat.min_eq_left HDL.out]
                      exact decide_eq_false (by omega)
                    have HR := Lib.hid (HOK.out (by rw [HF.out, if_neg hn]; rw [if_neg (by simp), if_neg (by rw [hbare]; simp)]))
                    have f5' := f5.out
                    clear hn hbare
                    go_wp2_with fail
                    go_region
                    simp only [← hA2]
                    clear hA2
                    go_simp
                    go_wp2_with fail
                    refine bodyPost_ret (results_tmp4 rfl _ _ _) rfl ?_
                    exact HR.out _ HB6.out.drew
            · have hge' : (192 : Int) ≤ (x : Int) := HGE.out.2 rfl
              clear hgeD
              go_enter Try.func22, Try.ntmps22
              go_wp2_with fail
              (with_reducible refine C1.out.mono ?_)
              rintro e w1 ⟨v1, rfl, hnum, hb1⟩
              have HB1 := Lib.hid hb1
              have HN1 := Lib.hid hnum
              clear C1 hb1 hnum
              go_wp2_with fail
              (with_reducible refine (C2.out _).mono ?_)
              rintro e w2 ⟨v2, rfl, hnum2, hb2⟩
              have HB2 := Lib.hid (HB1.out.trans (hb2.mono HB1.out.size))
              have HN2 := Lib.hid (HN1.out.below hb2)
              have CC := Lib.hid (rcmp_n w2 (HN1.out.below hb2) hnum2 (by have := HK8.out; have := HTL.out; omega))
              clear C2 hb2 hnum2 HB1 HN1
              obtain ⟨O, hO⟩ : ∃ O, O = ordI N 55 := ⟨_, rfl⟩
              rw [← hO] at CC
              go_wp2_with fail
              (with_reducible refine CC.out.mono ?_)
              rintro e w3 ⟨rfl, m3, rfl⟩
              clear CC
              by_cases hN55 : N ≤ 55
              · have hO1 : O ≤ 0 := by rw [hO]; unfold ordI; split <;> (try split) <;> omega
                have HR := Lib.hid (HNO.out (hnone (by rw [HLS2.out, if_pos hN55])))
                clear hO hN55 hnone
                go_wp2_with fail
                refine bodyPost_ret (results_tmp4 rfl _ _ _) rfl ?_
                exact HR.out _ (HB2.out.trans (below_drewN _ _ |>.mono HB2.out.size))
              · have hO1 : ¬ O ≤ 0 := by rw [hO, show ordI N 55 = 1 from by unfold ordI; rw [if_neg (by omega), if_pos (by omega)]]; omega
                clear hO
                go_wp2_with fail
                (with_reducible refine (C3.out _).mono ?_)
                rintro e w4 ⟨v4, rfl, hnum4, hb4⟩
                have hb34 : Below w2.heap.size w2 w4 := (below_drewN w2 m3).trans hb4
                have HB4 := Lib.hid (HB2.out.trans (hb34.mono HB2.out.size))
                have HN4 := Lib.hid (HN2.out.below hb34)
                have CC := Lib.hid (rcmp_n w4 HN4.out hnum4 (by have := HK8.out; have := HTL.out; omega))
                clear C3 hb4 hnum4 HB2 HN2 hb34
                obtain ⟨O2, hO2⟩ : ∃ O2, O2 = ordI N 1099511627776 := ⟨_, rfl⟩
                rw [← hO2] at CC
                go_wp2_with fail
                (with_reducible refine CC.out.mono ?_)
                rintro e w5 ⟨rfl, m5, rfl⟩
                clear CC
                have HB5 := Lib.hid (HB4.out.trans ((below_drewN w4 m5).mono HB4.out.size))
                have hF : fstS raw = if L - s < N then none else if true = true then some (true, (raw.drop s).take N, (raw.drop s).drop N) else if bareB ((raw.drop s).take N) = true then none else some (false, (raw.drop s).take N, (raw.drop s).drop N) := by
                  rw [HFS.out, HLS2.out, if_neg hN55]
                  simp only [List.length_drop]
                  rw [← HL.out]
                by_cases hN40 : 1099511627776 < N
                · have hO3 : (0 : Int) < O2 := by rw [hO2, show ordI N 1099511627776 = 1 from by unfold ordI; rw [if_neg (by omega), if_pos (by omega)]]; omega
                  have HR := Lib.hid (HNO.out (by rw [hF, if_pos (by have := HL0.out; have := HL.out; omega)]))
                  clear hO2 hN55 hnone hN40 hF
                  go_wp2_with fail
                  refine bodyPost_ret (results_tmp4 rfl _ _ _) rfl ?_
                  exact HR.out _ HB5.out
                · have hO3 : ¬ (0 : Int) < O2 := by rw [hO2]; unfold ordI; split <;> (try split) <;> omega
                  have cw := rW_n (w4.drewN m5) (HN4.out.below (below_drewN w4 m5)) (by have := HK8.out; have := HTL.out; omega)
                  have CW := Lib.hid cw
                  have HN40 : Hid (N ≤ 1099511627776 ∧ 55 < N) := ⟨by omega, by omega⟩
                  have HF := Lib.hid hF
                  clear hO2 cw hF hN55 hN40 HN4
                  go_wp2_with fail
                  (with_reducible refine CW.out.mono ?_)
                  rintro e w6 ⟨a0, a1, a2, a3, rfl, hisw, hb6⟩
                  have hB6 := HB5.out.trans (hb6.mono HB5.out.size)
                  obtain rfl : N = a0 := by
                    obtain ⟨l0, l1, l2, l3, hv⟩ := hisw
                    have := HN40.out
                    rw [Nat.mod_eq_of_lt (by omega)] at hv
                    omega
                  have HB6 := Lib.hid hB6
                  clear CW hisw hb6 hB6 HB5 HB4 hO1 hO3 h0 z0 hz3 hLs'
                  obtain ⟨U, hU⟩ : ∃ U, U = L - s := ⟨_, rfl⟩
                  have f1 : (L : Int) - (s : Int) = (U : Int) := by omega
                  have f2 : IntKind.i64.wrap (U : Int) = (U : Int) := IntWalk.i64_in _ (by have := HL0.out; have := HL.out; omega)
                  have f3 : IntKind.u64.wrap (U : Int) = (U : Int) := IntWalk.u64_in _ (by have := HL0.out; have := HL.out; omega)
                  have f5 : Hid (True) := trivial
                  have HF : Hid (fstS raw = if U < N then none else if true = true then some (true, (raw.drop s).take N, raw.drop (s + N)) else if bareB ((raw.drop s).take N) = true then none else some (false, (raw.drop s).take N, raw.drop (s + N))) := by
                    have h := HF.out
                    rw [← hU, List.drop_drop] at h
                    exact h
                  have HU := Lib.hid hU
                  have hN55 : 55 < N := HN40.out.2
                  clear hU
                  unfold W4
                  have ix := index_w (N : Int) a1 a2 a3 w6
                  go_upto_region 18 with (fail)
                  by_cases hn : U < N
                  · have HR : Hid (∀ w', Below w.heap.size w w' → RSplitR (some ⟨b, o, none⟩) raw w (.returned (.tuple #[.bool false, .slice none 0 0, .slice none 0 0, .int .i64 2])) w') := fun w' hb' => HNO.out (by rw [HF.out, if_pos hn]) w' hb'
                    have hn' : (U : Int) < (N : Int) := by omega
                    have f5' := f5.out
                    clear hn
                    go_wp2_with fail
                    refine bodyPost_ret (results_tmp4 rfl _ _ _) rfl ?_
                    exact HR.out _ HB6.out
                  · have hn' : ¬ (U : Int) < (N : Int) := by omega
                    have hn2 : N ≤ 16777216 := by have := HL0.out; have := HL.out; have := HU.out; omega
                    have m1 : IntKind.i64.wrap (N : Int) = (N : Int) := IntWalk.i64_in _ (by omega)
                    obtain ⟨V, hV⟩ : ∃ V, V = s + N := ⟨_, rfl⟩
                    have m2 : ((s : Int) : Int) + (N : Int) = (V : Int) := by omega
                    have m3 : IntKind.i64.wrap (V : Int) = (V : Int) := IntWalk.i64_in _ (by omega)
                    have m4 : ((s : Int) : Int) ≤ (V : Int) := by omega
                    have HV := Lib.hid hV
                    clear hV
                    have m5 : (V : Int) ≤ (c : Int) := by have := HU.out; omega
                    have m6 : (V : Int) ≤ (L : Int) := by have := HU.out; omega
                    have hR2 := H.out.rest s (by have := HL.out; omega)
                    have hcS : ¬ c = s := by have := HU.out; have := HV.out; omega
                    rw [if_neg hcS] at hR2
                    have hdl : N ≤ (raw.drop s).length := by rw [List.length_drop]; have := HL.out; have := HU.out; omega
                    have HP := Lib.hid (byt_take hR2 (HD.out.drop s) N hdl)
                    have HT := Lib.hid (byt_rest H.out HD.out HL.out V (by have := HL.out; omega))
                    obtain ⟨A2, hA2⟩ : ∃ A2 : Option Addr, A2 = if c = V then some ⟨b, o, none⟩ else some ⟨b, o + V, none⟩ := ⟨_, rfl⟩
                    rw [← hA2] at HT
                    have HOK : Hid (fstS raw = some (true, (raw.drop s).take N, raw.drop (s + N)) → ∀ w', Below w.heap.size w w' → RSplitR (some ⟨b, o, none⟩) raw w (.returned (.tuple #[.bool true, .slice (some ⟨b, o + s, none⟩) N (c - s), .slice A2 (L - V) (c - V), .int .i64 0])) w') := by
                      intro h w' hb'
                      refine ⟨hb', ?_⟩
                      rw [h]
                      exact ⟨_, _, rfl, HP.out.below hb', by rw [← HV.out]; exact HT.out.below hb', rfl, by rw [hA2]; split <;> rfl⟩
                    have vS : V - s = N := by have := HV.out; omega
                    have HR2 := Lib.hid hR2
                    have HDL := Lib.hid hdl
                    clear hR2 hdl
                    have HR := Lib.hid (HOK.out (by rw [HF.out, if_neg hn]; first | exact if_pos rfl | exact if_pos trivial))
                    have f5' := f5.out
                    clear hn
                    go_wp2_with fail
                    go_region
                    simp only [← hA2]
                    clear hA2
                    go_simp
                    go_wp2_with fail
                    refine bodyPost_ret (results_tmp4 rfl _ _ _) rfl ?_
                    exact HR.out _ HB6.out.drew
end Go.Proofs.Ytchhnalalplggaa
