/- What the laws of layer 18 ask of package code: its contracts, in the weak form. THE ADAPTOR: over the landed code's own contracts (CcName, CcJump). -/
import Derived.Test.YtopeahjdglkheaaDoorCdJump
import Derived.Test.YtopeahjdglkheaaDoorCcName
namespace Go.Proofs.YtopeahjdglkheaaDoor
open Go.RowKit

set_option maxRecDepth 100000 in
theorem pown_c (b : Nat) (hb : b < 256) (w : World) : Calls Tryd.prog 33 #[.int .i64 (b : Nat)] w (fun e w' => e = .returned (.int .i64 (ownZ b : Nat)) ∧ w' = w) := by
  by_cases h1 : b < 95
  · have e : ownZ b = 0 := by unfold ownZ; rw [if_neg (by omega)]
    rw [e]
    have e1 : (b : Int) < 95 := by omega
    clear h1 hb e
    go_enter Tryd.func33, Tryd.ntmps33
    go_wp2_with fail
    go_ret
    exact ⟨rfl, rfl⟩
  · have e1 : ¬ (b : Int) < 95 := by omega
    by_cases h2 : 128 ≤ b
    · have e : ownZ b = 0 := by unfold ownZ; rw [if_neg (by omega)]
      rw [e]
      have e2 : (128 : Int) ≤ (b : Int) := by omega
      clear h1 hb e h2
      go_enter Tryd.func33, Tryd.ntmps33
      go_wp2_with fail
      go_ret
      exact ⟨rfl, rfl⟩
    · have e : ownZ b = b - 95 := by unfold ownZ; split <;> omega
      rw [e]
      have e2 : ¬ (128 : Int) ≤ (b : Int) := by omega
      have e4 : IntKind.i64.wrap ((b : Int) - 95) = ((b - 95 : Nat) : Int) := by rw [IntWalk.i64_in _ (by omega)]; omega
      clear h1 hb e h2
      go_enter Tryd.func33, Tryd.ntmps33
      go_wp2_with fail
      go_ret
      exact ⟨rfl, rfl⟩

set_option maxRecDepth 100000 in
set_option maxHeartbeats 6400000 in
theorem pjumps_c {A : Option Addr} {c : Nat} {bs : List Nat} (w : World) (h : Rd .u8 w A c bs) (hd : Ds 256 bs) (hl : bs.length ≤ 1099511627776) : Calls Tryd.prog 16 #[.slice A bs.length c] w (JumpsR bs w) := by
  obtain ⟨n, hn⟩ : ∃ n, n = bs.length := ⟨_, rfl⟩
  rw [← hn] at hl ⊢
  have HN := Lib.hid hn
  have HR := Lib.hid h
  have HD := Lib.hid hd
  have HL := Lib.hid hl
  clear hn h hd hl
  go_enter Tryd.func16, Tryd.ntmps16
  go_wp2_with fail
  go_loopw [3, 4] (fun v i wr => ∃ (m : Nat) (l : List Nat), m ≤ n + 40 ∧ i = .int .i64 (m : Nat) ∧ Hid (wr.ownsRow w.heap.size 3 1 v l.length (intsC l) ∧ l ++ jmp 0 m (bs.drop m) = jmp 0 0 bs ∧ Below w.heap.size w wr)) (fun _ i _ => n + 50 - (intOf i).toNat)
  case atStart => exact ⟨0, [], by omega, rfl, ⟨rfl, .inl ⟨rfl, rfl⟩⟩, rfl, Below.refl _ _⟩
  case round =>
    obtain ⟨m, l, hm, rfl, hh⟩ := hrel
    by_cases h0 : m < n
    · have hnl := HN.out
      obtain ⟨b, hb⟩ : ∃ b, bs[m]? = some b := ⟨_, List.getElem?_eq_getElem (by omega)⟩
      have hb256 : b < 256 := HD.out b (List.mem_of_getElem? hb)
      obtain ⟨bb, oo, rfl, hlt, hcell⟩ := HR.out.at_ (by omega)
      have hc0 := hcell m (by omega)
      rw [show bs.getD m 0 = b by rw [List.getD_eq_getElem?_getD, hb]; rfl] at hc0
      have hcw := (hh.out.2.2.cell (p := ⟨bb, oo + m, none⟩) hlt).trans hc0
      have hdr : bs.drop m = b :: bs.drop (m + 1) := by
        rw [List.drop_eq_getElem_cons (by omega)]
        rw [List.getElem?_eq_getElem (by omega)] at hb
        injection hb with hb
        rw [hb]
      have hst := hh.out.2.1
      rw [jmp_step hdr, List.drop_drop] at hst
      have ho : ownZ b ≤ 32 := by unfold ownZ; split <;> omega
      have HL2 := HL.out
      have hi1 : (m : Int) < (n : Int) := by omega
      have s0 : IntKind.i64.wrap (b : Int) = (b : Int) := IntWalk.i64_in _ (by omega)
      have s1 : IntKind.i64.wrap (1 + (ownZ b : Int)) = ((1 + ownZ b : Nat) : Int) := by rw [IntWalk.i64_in _ (by omega)]; omega
      have s2 : IntKind.i64.wrap ((m : Int) + ((1 + ownZ b : Nat) : Int)) = ((m + 1 + ownZ b : Nat) : Int) := by rw [IntWalk.i64_in _ (by omega)]; omega
      have KO : Hid (∀ v, Calls Tryd.prog 33 #[.int .i64 (b : Nat)] v (fun e w' => e = .returned (.int .i64 (ownZ b : Nat)) ∧ w' = v)) := fun v => pown_c b hb256 v
      have HHL : Hid (l.length ≤ 1099511627776) := by
        have h1 := congrArg List.length hst
        have h2 := jmp_len 0 0 bs
        simp only [List.length_append] at h1
        show l.length ≤ _
        omega
      have HHR := Lib.hid hh.out.1
      have HBE := Lib.hid hh.out.2.2
      have HHS := Lib.hid hst
      have HHO := Lib.hid ho
      clear ho hst hh hdr hb hc0 hcell hb256 HL2 hnl
      obtain ⟨z, hz⟩ : ∃ z, z = ownZ b := ⟨_, rfl⟩
      rw [← hz] at s1 s2 KO HHO HHS
      obtain ⟨y, hy⟩ : ∃ y, y = 1 + z := ⟨_, rfl⟩
      obtain ⟨x, hx⟩ : ∃ x, x = m + 1 + z := ⟨_, rfl⟩
      rw [← hy, ← hx] at s2
      rw [← hy] at s1
      have HX := Lib.hid hx
      clear hz hy hx
      by_cases h91 : b = 91
      · rw [if_pos h91] at HHS
        have h91i : (b : Int) = 91 := by omega
        have KO : Hid (∀ v, Calls Tryd.prog 33 #[.int .i64 91] v (fun e w' => e = .returned (.int .i64 (z : Nat)) ∧ w' = v)) := fun v => by
          have h := KO.out v
          rw [h91i] at h
          exact h
        clear h91 s0
        obtain ⟨v', w1, happ, hown, hgr⟩ := run_append_int 36 HHR.out m HHL.out HBE.out.size
        have hb1 : Below w.heap.size w w1 := (HBE.out.alloc HBE.out.size (.cells #[.int .i64 (m : Nat)] 3)).grown hgr (by have := HBE.out.size; simp; omega) (fun k hk => by
          rcases HHR.out.2 with ⟨e, _⟩ | ⟨g, cap, cur, e, hg, _⟩
          · rw [e] at hk; simp [Value.ownBlock] at hk
          · rw [e] at hk; simp [Value.ownBlock] at hk; omega)
        have HAPP := Lib.hid happ
        have HOWN := Lib.hid hown
        have HB1 := Lib.hid hb1
        have hcw1 := (hb1.cell (p := ⟨bb, oo + m, none⟩) hlt).trans ((HBE.out.cell (p := ⟨bb, oo + m, none⟩) hlt).symm.trans hcw)
        rw [h91i] at hcw1
        clear happ hown hgr hb1
        go_wp2_with (at_builtin; refine cd_append_run rfl (.tmp 23) (.tmp 25) 36 rfl HAPP.out ?_)
        (with_reducible refine (KO.out _).mono ?_)
        rintro e w2 ⟨rfl, rfl⟩
        clear HAPP KO
        go_wp2_with fail
        go_roundw
        case rel =>
          exact ⟨x, l ++ [m], by have := HHO.out; have := HX.out; omega, rfl, HOWN.out, by rw [List.append_assoc, HX.out]; exact HHS.out, HB1.out⟩
        case measure => have := HX.out; simp [intOf]; omega
      · rw [if_neg h91] at HHS
        have h91i : ¬ (b : Int) = 91 := by omega
        clear h91
        go_wp2_with fail
        (with_reducible refine (KO.out _).mono ?_)
        rintro e w2 ⟨rfl, rfl⟩
        clear KO
        go_wp2_with fail
        go_roundw
        case rel =>
          exact ⟨x, l, by have := HHO.out; have := HX.out; omega, rfl, HHR.out, by rw [HX.out]; exact HHS.out, HBE.out⟩
        case measure => have := HX.out; simp [intOf]; omega
    · have hj : l = jmp 0 0 bs := by
        have h1 := hh.out.2.1
        rw [List.drop_eq_nil_of_le (by have := HN.out; omega), jmp, List.append_nil] at h1
        exact h1
      subst hj
      go_wp2_with fail
      exact bodyPost_ret (v := u3) (by simp [results, Tryd.results16, go_sem]) rfl ⟨u3, rfl, hh.out.1, hh.out.2.2⟩
end Go.Proofs.YtopeahjdglkheaaDoor
namespace Go.Proofs.YtopeahjdglkheaaDoor
open Go.RowKit

theorem jmp_ge : ∀ (s i : Nat) (l : List Nat) (x : Nat), x ∈ jmp s i l → i ≤ x
  | _, _, [], x, h => by simp [jmp] at h
  | s + 1, i, _ :: r, x, h => by
    rw [jmp] at h
    have := jmp_ge s (i + 1) r x h
    omega
  | 0, i, b :: r, x, h => by
    rw [jmp] at h
    split at h
    · rcases List.mem_cons.1 h with h | h
      · omega
      · have := jmp_ge _ _ r x h; omega
    · have := jmp_ge _ _ r x h; omega
theorem jmp_at : ∀ (s i : Nat) (l : List Nat) (x : Nat), x ∈ jmp s i l → ∃ k, x = i + k ∧ l[k]? = some 91
  | _, _, [], x, h => by simp [jmp] at h
  | s + 1, i, _ :: r, x, h => by
    rw [jmp] at h
    obtain ⟨k, e, hk⟩ := jmp_at s (i + 1) r x h
    exact ⟨k + 1, by omega, by simpa using hk⟩
  | 0, i, b :: r, x, h => by
    rw [jmp] at h
    split at h
    · rename_i h91
      rcases List.mem_cons.1 h with h | h
      · exact ⟨0, by omega, by simp [h91]⟩
      · obtain ⟨k, e, hk⟩ := jmp_at _ _ r x h
        exact ⟨k + 1, by omega, by simpa using hk⟩
    · obtain ⟨k, e, hk⟩ := jmp_at _ _ r x h
      exact ⟨k + 1, by omega, by simpa using hk⟩
theorem jumpB_far {a : Nat} {bs : List Nat} (h : bs.length ≤ a) : jumpB a bs = false := by
  unfold jumpB
  rw [decide_eq_false_iff_not]
  intro hm
  have := jmp_lt 0 0 bs a hm
  omega
theorem jumpB_ne {a b : Nat} {bs : List Nat} (h : bs[a]? = some b) (hb : b ≠ 91) : jumpB a bs = false := by
  unfold jumpB
  rw [decide_eq_false_iff_not]
  intro hm
  obtain ⟨k, e, hk⟩ := jmp_at 0 0 bs a hm
  obtain rfl : a = k := by omega
  rw [h] at hk
  injection hk with hk
  exact hb hk

set_option maxRecDepth 100000 in
set_option maxHeartbeats 6400000 in
theorem pjump_c {A : Option Addr} {c a : Nat} {bs : List Nat} (w : World) (h : Rd .u8 w A c bs) (hd : Ds 256 bs) (hl : bs.length ≤ 1099511627776) (hb : Big a) : Calls Tryd.prog 18 #[.slice A bs.length c, W a] w (RetV (.bool (jumpB a bs)) w) := by
  obtain ⟨n, hn⟩ : ∃ n, n = bs.length := ⟨_, rfl⟩
  obtain ⟨q, hq⟩ : ∃ q, q = jumpB a bs := ⟨_, rfl⟩
  rw [← hn, ← hq]
  have gW := (Below.refl w.heap.size w).alloc (Nat.le_refl _) (.cells #[.int .u64 (lim 0 a : Nat), .int .u64 (lim 1 a : Nat), .int .u64 (lim 2 a : Nat), .int .u64 (lim 3 a : Nat)] 34)
  have gA := Arr.new4 w 34 (lim 0 a) (lim 1 a) (lim 2 a) (lim 3 a)
  by_cases ha : a < 18446744073709551616
  · have kS : ∀ w, Calls Tryd.prog 35 #[.agg #[.int .u64 (lim 0 a : Nat), .int .u64 (lim 1 a : Nat), .int .u64 (lim 2 a : Nat), .int .u64 (lim 3 a : Nat)]] w (RetV (.tuple #[.int .u64 (a : Nat), .bool true]) w) := fun w => small_t ha w
    have KS := Lib.hid kS
    have HL := Lib.hid hl
    have HQ := Lib.hid hq
    have HN := Lib.hid hn
    have HA := Lib.hid ha
    have wn : IntKind.u64.wrap (n : Int) = (n : Int) := IntWalk.u64_in _ (by omega)
    clear kS hq hn hl hb ha
    go_enter Tryd.func18, Tryd.ntmps18
    go_upto_region 1 with (fail)
    generalize w.alloc (.cells #[.int .u64 (lim 0 a : Nat), .int .u64 (lim 1 a : Nat), .int .u64 (lim 2 a : Nat), .int .u64 (lim 3 a : Nat)] 34) = X at *
    obtain ⟨x0, x1, x2, x3⟩ := gA.cells4
    have HWN := Lib.hid wn
    clear wn
    go_wp2_with fail
    (with_reducible refine (KS.out _).mono ?_)
    rintro e w1 ⟨rfl, hb1⟩
    have gW := Lib.hid (gW.trans (hb1.mono gW.size))
    have wn := HWN.out
    clear x0 x1 x2 x3 gA hb1 KS HWN
    by_cases hna : n ≤ a
    · have e1 : (a : Int) ≥ (n : Int) := by omega
      have e : q = false := by rw [HQ.out]; exact jumpB_far (by rw [← HN.out]; exact hna)
      subst e
      clear hna
      go_wp2_with fail
      exact bodyPost_ret (v := .bool false) (by simp [results, Tryd.results18, go_sem]) rfl ⟨rfl, gW.out⟩
    · have e1 : ¬ (a : Int) ≥ (n : Int) := by omega
      have hnl := HN.out
      obtain ⟨b, hb⟩ : ∃ b, bs[a]? = some b := ⟨_, List.getElem?_eq_getElem (by omega)⟩
      obtain ⟨bb, oo, rfl, hlt, hcell⟩ := h.at_ (by omega)
      have hc0 := hcell a (by omega)
      rw [show bs.getD a 0 = b by rw [List.getD_eq_getElem?_getD, hb]; rfl] at hc0
      have hcw := (gW.out.cell (p := ⟨bb, oo + a, none⟩) hlt).trans hc0
      by_cases h91 : b = 91
      · subst h91
        have HL2 := HL.out
        have wa : IntKind.i64.wrap (a : Int) = (a : Int) := IntWalk.i64_in _ (by omega)
        have HQ2 : Hid (q = decide (a ∈ jmp 0 0 (bs.drop 0))) := HQ.out
        have hai : (a : Int) < (n : Int) := by omega
        have HHC : Hid (∀ m, m < n → ∃ b, b < 256 ∧ bs[m]? = some b ∧ w.cell? ⟨bb, oo + m, none⟩ = some (.int .u8 (b : Nat))) := fun m hm => by
          obtain ⟨b, hb⟩ : ∃ b, bs[m]? = some b := ⟨_, List.getElem?_eq_getElem (by omega)⟩
          have hc0 := hcell m (by omega)
          rw [show bs.getD m 0 = b by rw [List.getD_eq_getElem?_getD, hb]; rfl] at hc0
          exact ⟨b, hd b (List.mem_of_getElem? hb), hb, hc0⟩
        have HAN := Lib.hid hna
        have HBA := Lib.hid hb
        have HLN : Hid (n ≤ 1099511627776) := by show _ ≤ _; omega
        clear hnl hb hc0 hcell HL2 HQ h hd HA HL
        go_wp2_with fail
        go_loopw [7] (fun i wr => ∃ (m : Nat), m ≤ n + 40 ∧ i = .int .i64 (m : Nat) ∧ Hid (q = decide (a ∈ jmp 0 m (bs.drop m)) ∧ Below w.heap.size w wr)) (fun i _ => n + 50 - (intOf i).toNat)
        case atStart => exact ⟨0, by omega, rfl, HQ2.out, gW.out⟩
        case round =>
          clear HQ2 gW hcw e1
          obtain ⟨m, hm, rfl, hh⟩ := hrel
          by_cases h0 : m < a
          · have hnl := HN.out
            have hna := HAN.out
            have hln := HLN.out
            obtain ⟨b, hb256, hb, hc0⟩ := HHC.out m (by omega)
            have hcw := (hh.out.2.cell (p := ⟨bb, oo + m, none⟩) hlt).trans hc0
            have hdr : bs.drop m = b :: bs.drop (m + 1) := by
              rw [List.drop_eq_getElem_cons (by omega)]
              rw [List.getElem?_eq_getElem (by omega)] at hb
              injection hb with hb
              rw [hb]
            have hst := hh.out.1
            rw [jmp_step hdr, List.drop_drop] at hst
            have ho : ownZ b ≤ 32 := by unfold ownZ; split <;> omega
            have hst2 : q = decide (a ∈ jmp 0 (m + 1 + ownZ b) (bs.drop (m + 1 + ownZ b))) := by
              rw [hst]
              congr 1
              rw [List.mem_append]
              refine propext ⟨fun h => ?_, .inr⟩
              rcases h with h | h
              · split at h
                · simp at h; omega
                · simp at h
              · exact h
            have hi1 : (m : Int) < (a : Int) := by omega
            have hi2 : (m : Int) < (n : Int) := by omega
            have s0 : IntKind.i64.wrap (b : Int) = (b : Int) := IntWalk.i64_in _ (by omega)
            have s1 : IntKind.i64.wrap (1 + (ownZ b : Int)) = ((1 + ownZ b : Nat) : Int) := by rw [IntWalk.i64_in _ (by omega)]; omega
            have s2 : IntKind.i64.wrap ((m : Int) + ((1 + ownZ b : Nat) : Int)) = ((m + 1 + ownZ b : Nat) : Int) := by rw [IntWalk.i64_in _ (by omega)]; omega
            have KO : Hid (∀ v, Calls Tryd.prog 33 #[.int .i64 (b : Nat)] v (fun e w' => e = .returned (.int .i64 (ownZ b : Nat)) ∧ w' = v)) := fun v => pown_c b hb256 v
            have HBE := Lib.hid hh.out.2
            have HHS := Lib.hid hst2
            have HHO := Lib.hid ho
            clear ho hst hst2 hh hdr hb hc0 hb256 hnl hna hln
            obtain ⟨z, hz⟩ : ∃ z, z = ownZ b := ⟨_, rfl⟩
            rw [← hz] at s1 s2 KO HHO HHS
            obtain ⟨y, hy⟩ : ∃ y, y = 1 + z := ⟨_, rfl⟩
            obtain ⟨x, hx⟩ : ∃ x, x = m + 1 + z := ⟨_, rfl⟩
            rw [← hy, ← hx] at s2
            rw [← hy] at s1
            have HX := Lib.hid hx
            clear hz hy hx
            go_wp2_with fail
            (with_reducible refine (KO.out _).mono ?_)
            rintro e w2 ⟨rfl, rfl⟩
            clear KO
            go_wp2_with fail
            go_roundw
            case rel =>
              exact ⟨x, by have := HHO.out; have := HX.out; omega, rfl, by rw [HX.out]; exact HHS.out, HBE.out⟩
            case measure => have := HX.out; simp [intOf]; omega
          · have HBE := Lib.hid hh.out.2
            by_cases hma : m = a
            · have hq : q = true := by
                have hnl := HN.out
                have hna := HAN.out
                have hst := hh.out.1
                have hdr : bs.drop m = 91 :: bs.drop (m + 1) := by
                  rw [List.drop_eq_getElem_cons (by omega)]
                  have hb := HBA.out
                  rw [← hma, List.getElem?_eq_getElem (by omega)] at hb
                  injection hb with hb
                  rw [hb]
                rw [jmp_step hdr, if_pos rfl] at hst
                rw [hst, hma]
                simp
              subst hma
              subst hq
              clear hh
              go_wp2_with fail
              exact bodyPost_ret (v := .bool true) (by simp [results, Tryd.results18, go_sem]) rfl ⟨rfl, HBE.out⟩
            · have hq : q = false := by
                rw [hh.out.1, decide_eq_false_iff_not]
                intro hx
                have := jmp_ge _ _ _ _ hx
                omega
              have e1 : ¬ (m : Int) = (a : Int) := by omega
              subst hq
              clear hh hma
              go_wp2_with fail
              exact bodyPost_ret (v := .bool false) (by simp [results, Tryd.results18, go_sem, e1]) rfl ⟨rfl, HBE.out⟩
      · have e2 : ¬ (b : Int) = 91 := by omega
        have e : q = false := by rw [HQ.out]; exact jumpB_ne hb h91
        have e3 : ((b : Int) != 91) = true := by simp; omega
        have hai : (a : Int) < (n : Int) := by omega
        subst e
        clear hna hb hnl hc0 hcell h91
        go_wp2_with fail
        exact bodyPost_ret (v := .bool false) (by simp [results, Tryd.results18, go_sem]) rfl ⟨rfl, gW.out⟩
  · have kS : ∀ w, Calls Tryd.prog 35 #[.agg #[.int .u64 (lim 0 a : Nat), .int .u64 (lim 1 a : Nat), .int .u64 (lim 2 a : Nat), .int .u64 (lim 3 a : Nat)]] w (RetV (.tuple #[.int .u64 0, .bool false]) w) := fun w => small_f hb (by omega) w
    have e : q = false := by rw [hq]; exact jumpB_far (by omega)
    rw [e]
    have KS := Lib.hid kS
    clear kS hq hn hl hb ha e h hd
    go_enter Tryd.func18, Tryd.ntmps18
    go_upto_region 1 with (fail)
    generalize w.alloc (.cells #[.int .u64 (lim 0 a : Nat), .int .u64 (lim 1 a : Nat), .int .u64 (lim 2 a : Nat), .int .u64 (lim 3 a : Nat)] 34) = X at *
    obtain ⟨x0, x1, x2, x3⟩ := gA.cells4
    go_wp2_with fail
    (with_reducible refine (KS.out _).mono ?_)
    rintro e w1 ⟨rfl, hb1⟩
    have gW := Lib.hid (gW.trans (hb1.mono gW.size))
    clear x0 x1 x2 x3 gA hb1 KS
    go_wp2_with fail
    exact bodyPost_ret (v := .bool false) (by simp [results, Tryd.results18, go_sem]) rfl ⟨rfl, gW.out⟩
end Go.Proofs.YtopeahjdglkheaaDoor
namespace Go.Proofs.YtopeahjdglkheaaDoor
open Go.RowKit

theorem cdName (f op : Int) (w : World) : Calls Tryd.prog 13 #[.int .i64 f, .int .i64 op] w (RetV (.string (nameZ f op)) w) := pname_c f op w
theorem cdNamed (f : Int) (s : ByteArray) (_hs : s.size ≤ 140737488351232) (w : World) : Calls Tryd.prog 10 #[.int .i64 f, .string s] w (RetV (cnamedV (cnamedZ f s)) w) := pnamed_c f s w
theorem cdPops (f op : Int) (w : World) : Calls Tryd.prog 9 #[.int .i64 f, .int .i64 op] w (RetV (.tuple #[.int .i64 (popsZ f op : Nat), .int .i64 (laysZ f op : Nat), .bool (opZ f op)]) w) := ppops_c f op w
/-- What Jumps tells, where nothing more is asked. -/
def JumpsW (bs : List Nat) (w : World) (e : Ending) (w' : World) : Prop := ∃ A c, e = .returned (.slice A (jmp 0 0 bs).length c) ∧ IntsAt w' A (jmp 0 0 bs) ∧ Below w.heap.size w w'
theorem JumpsR.weak {bs : List Nat} {w : World} {e : Ending} {w' : World} (h : JumpsR bs w e w') : JumpsW bs w e w' := by
  obtain ⟨v, rfl, ho, hb⟩ := h
  obtain ⟨A, c, rfl, _, hat⟩ := ownI_at ho
  exact ⟨A, c, rfl, hat, hb⟩
theorem cdJumps {A : Option Addr} {c : Nat} {bs : List Nat} (w : World) (h : Rd .u8 w A c bs) (hd : Ds 256 bs) (hl : bs.length ≤ 3000) : Calls Tryd.prog 16 #[.slice A bs.length c] w (JumpsW bs w) := (pjumps_c w h hd (by omega)).mono fun _ _ h => h.weak
/-- What Jumps tells, where the answer is the caller's own. -/
theorem cdJumpsO {A : Option Addr} {c : Nat} {bs : List Nat} (w : World) (h : Rd .u8 w A c bs) (hd : Ds 256 bs) (hl : bs.length ≤ 3000) : Calls Tryd.prog 16 #[.slice A bs.length c] w (JumpsR bs w) := pjumps_c w h hd (by omega)
theorem cdJump {A : Option Addr} {c a : Nat} {bs : List Nat} (w : World) (h : Rd .u8 w A c bs) (hd : Ds 256 bs) (hl : bs.length ≤ 3000) (hb : Big a) : Calls Tryd.prog 18 #[.slice A bs.length c, W a] w (RetV (.bool (jumpB a bs)) w) := pjump_c w h hd (by omega) hb
end Go.Proofs.YtopeahjdglkheaaDoor
