/- Package code: Jump: may be jumped there? -/
import Derived.Test.YtopeahjdglkheaaDoorCcJumps
namespace Go.Proofs.YtopeahjdglkheaaDoor
open Go.RowKit

theorem jmp_ge : ∀ (s i : Nat) (l : List Nat) (x : Nat), x ∈ jmp s i l → i ≤ x
  | _, _, [], x, h => by simp [jmp] at h
  | s + 1, i, _ :: r, x, h => by
    rw [jmp] at h
    have := jmp_ge s (i + 1) r x h
    omega
  | 0, i, b :: r, x, h => by
    rw [jmp] at h
    split at h
    · rcases List.mem_cons.1 h with h | h
      · omega
      · have := jmp_ge _ _ r x h; omega
    · have := jmp_ge _ _ r x h; omega
theorem jmp_at : ∀ (s i : Nat) (l : List Nat) (x : Nat), x ∈ jmp s i l → ∃ k, x = i + k ∧ l[k]? = some 91
  | _, _, [], x, h => by simp [jmp] at h
  | s + 1, i, _ :: r, x, h => by
    rw [jmp] at h
    obtain ⟨k, e, hk⟩ := jmp_at s (i + 1) r x h
    exact ⟨k + 1, by omega, by simpa using hk⟩
  | 0, i, b :: r, x, h => by
    rw [jmp] at h
    split at h
    · rename_i h91
      rcases List.mem_cons.1 h with h | h
      · exact ⟨0, by omega, by simp [h91]⟩
      · obtain ⟨k, e, hk⟩ := jmp_at _ _ r x h
        exact ⟨k + 1, by omega, by simpa using hk⟩
    · obtain ⟨k, e, hk⟩ := jmp_at _ _ r x h
      exact ⟨k + 1, by omega, by simpa using hk⟩
theorem jumpB_far {a : Nat} {bs : List Nat} (h : bs.length ≤ a) : jumpB a bs = false := by
  unfold jumpB
  rw [decide_eq_false_iff_not]
  intro hm
  have := jmp_lt 0 0 bs a hm
  omega
theorem jumpB_ne {a b : Nat} {bs : List Nat} (h : bs[a]? = some b) (hb : b ≠ 91) : jumpB a bs = false := by
  unfold jumpB
  rw [decide_eq_false_iff_not]
  intro hm
  obtain ⟨k, e, hk⟩ := jmp_at 0 0 bs a hm
  obtain rfl : a = k := by omega
  rw [h] at hk
  injection hk with hk
  exact hb hk

set_option maxRecDepth 100000 in
set_option maxHeartbeats 6400000 in
theorem pjump_c {A : Option Addr} {c a : Nat} {bs : List Nat} (w : World) (h : Rd .u8 w A c bs) (hd : Ds 256 bs) (hl : bs.length ≤ 1099511627776) (hb : Big a) : Calls Tryd.prog 18 #[.slice A bs.length c, W a] w (RetV (.bool (jumpB a bs)) w) := by
  obtain ⟨n, hn⟩ : ∃ n, n = bs.length := ⟨_, rfl⟩
  obtain ⟨q, hq⟩ : ∃ q, q = jumpB a bs := ⟨_, rfl⟩
  rw [← hn, ← hq]
  have gW := (Below.refl w.heap.size w).alloc (Nat.le_refl _) (.cells #[.int .u64 (lim 0 a : Nat), .int .u64 (lim 1 a : Nat), .int .u64 (lim 2 a : Nat), .int .u64 (lim 3 a : Nat)] 34)
  have gA := Arr.new4 w 34 (lim 0 a) (lim 1 a) (lim 2 a) (lim 3 a)
  by_cases ha : a < 18446744073709551616
  · have kS : ∀ w, Calls Tryd.prog 35 #[.agg #[.int .u64 (lim 0 a : Nat), .int .u64 (lim 1 a : Nat), .int .u64 (lim 2 a : Nat), .int .u64 (lim 3 a : Nat)]] w (RetV (.tuple #[.int .u64 (a : Nat), .bool true]) w) := fun w => small_t ha w
    have KS := Lib.hid kS
    have HL := Lib.hid hl
    have HQ := Lib.hid hq
    have HN := Lib.hid hn
    have HA := Lib.hid ha
    have wn : IntKind.u64.wrap (n : Int) = (n : Int) := IntWalk.u64_in _ (by omega)
    clear kS hq hn hl hb ha
    go_enter Tryd.func18, Tryd.ntmps18
    go_upto_region 1 with (fail)
    generalize w.alloc (.cells #[.int .u64 (lim 0 a : Nat), .int .u64 (lim 1 a : Nat), .int .u64 (lim 2 a : Nat), .int .u64 (lim 3 a : Nat)] 34) = X at *
    obtain ⟨x0, x1, x2, x3⟩ := gA.cells4
    have HWN := Lib.hid wn
    clear wn
    go_wp2_with fail
    (with_reducible refine (KS.out _).mono ?_)
    rintro e w1 ⟨rfl, hb1⟩
    have gW := Lib.hid (gW.trans (hb1.mono gW.size))
    have wn := HWN.out
    clear x0 x1 x2 x3 gA hb1 KS HWN
    by_cases hna : n ≤ a
    · have e1 : (a : Int) ≥ (n : Int) := by omega
      have e : q = false := by rw [HQ.out]; exact jumpB_far (by rw [← HN.out]; exact hna)
      subst e
      clear hna
      go_wp2_with fail
      exact bodyPost_ret (v := .bool false) (by simp [results, Tryd.results18, go_sem]) rfl ⟨rfl, gW.out⟩
    · have e1 : ¬ (a : Int) ≥ (n : Int) := by omega
      have hnl := HN.out
      obtain ⟨b, hb⟩ : ∃ b, bs[a]? = some b := ⟨_, List.getElem?_eq_getElem (by omega)⟩
      obtain ⟨bb, oo, rfl, hlt, hcell⟩ := h.at_ (by omega)
      have hc0 := hcell a (by omega)
      rw [show bs.getD a 0 = b by rw [List.getD_eq_getElem?_getD, hb]; rfl] at hc0
      have hcw := (gW.out.cell (p := ⟨bb, oo + a, none⟩) hlt).trans hc0
      by_cases h91 : b = 91
      · subst h91
        have HL2 := HL.out
        have wa : IntKind.i64.wrap (a : Int) = (a : Int) := IntWalk.i64_in _ (by omega)
        have HQ2 : Hid (q = decide (a ∈ jmp 0 0 (bs.drop 0))) := HQ.out
        have hai : (a : Int) < (n : Int) := by omega
        have HHC : Hid (∀ m, m < n → ∃ b, b < 256 ∧ bs[m]? = some b ∧ w.cell? ⟨bb, oo + m, none⟩ = some (.int .u8 (b : Nat))) := fun m hm => by
          obtain ⟨b, hb⟩ : ∃ b, bs[m]? = some b := ⟨_, List.getElem?_eq_getElem (by omega)⟩
          have hc0 := hcell m (by omega)
          rw [show bs.getD m 0 = b by rw [List.getD_eq_getElem?_getD, hb]; rfl] at hc0
          exact ⟨b, hd b (List.mem_of_getElem? hb), hb, hc0⟩
        have HAN := Lib.hid hna
        have HBA := Lib.hid hb
        have HLN : Hid (n ≤ 1099511627776) := by show _ ≤ _; omega
        clear hnl hb hc0 hcell HL2 HQ h hd HA HL
        go_wp2_with fail
        go_loopw [7] (fun i wr => ∃ (m : Nat), m ≤ n + 40 ∧ i = .int .i64 (m : Nat) ∧ Hid (q = decide (a ∈ jmp 0 m (bs.drop m)) ∧ Below w.heap.size w wr)) (fun i _ => n + 50 - (intOf i).toNat)
        case atStart => exact ⟨0, by omega, rfl, HQ2.out, gW.out⟩
        case round =>
          clear HQ2 gW hcw e1
          obtain ⟨m, hm, rfl, hh⟩ := hrel
          by_cases h0 : m < a
          · have hnl := HN.out
            have hna := HAN.out
            have hln := HLN.out
            obtain ⟨b, hb256, hb, hc0⟩ := HHC.out m (by omega)
            have hcw := (hh.out.2.cell (p := ⟨bb, oo + m, none⟩) hlt).trans hc0
            have hdr : bs.drop m = b :: bs.drop (m + 1) := by
              rw [List.drop_eq_getElem_cons (by omega)]
              rw [List.getElem?_eq_getElem (by omega)] at hb
              injection hb with hb
              rw [hb]
            have hst := hh.out.1
            rw [jmp_step hdr, List.drop_drop] at hst
            have ho : ownZ b ≤ 32 := by unfold ownZ; split <;> omega
            have hst2 : q = decide (a ∈ jmp 0 (m + 1 + ownZ b) (bs.drop (m + 1 + ownZ b))) := by
              rw [hst]
              congr 1
              rw [List.mem_append]
              refine propext ⟨fun h => ?_, .inr⟩
              rcases h with h | h
              · split at h
                · simp at h; omega
                · simp at h
              · exact h
            have hi1 : (m : Int) < (a : Int) := by omega
            have hi2 : (m : Int) < (n : Int) := by omega
            have s0 : IntKind.i64.wrap (b : Int) = (b : Int) := IntWalk.i64_in _ (by omega)
            have s1 : IntKind.i64.wrap (1 + (ownZ b : Int)) = ((1 + ownZ b : Nat) : Int) := by rw [IntWalk.i64_in _ (by omega)]; omega
            have s2 : IntKind.i64.wrap ((m : Int) + ((1 + ownZ b : Nat) : Int)) = ((m + 1 + ownZ b : Nat) : Int) := by rw [IntWalk.i64_in _ (by omega)]; omega
            have KO : Hid (∀ v, Calls Tryd.prog 33 #[.int .i64 (b : Nat)] v (fun e w' => e = .returned (.int .i64 (ownZ b : Nat)) ∧ w' = v)) := fun v => pown_c b hb256 v
            have HBE := Lib.hid hh.out.2
            have HHS := Lib.hid hst2
            have HHO := Lib.hid ho
            clear ho hst hst2 hh hdr hb hc0 hb256 hnl hna hln
            obtain ⟨z, hz⟩ : ∃ z, z = ownZ b := ⟨_, rfl⟩
            rw [← hz] at s1 s2 KO HHO HHS
            obtain ⟨y, hy⟩ : ∃ y, y = 1 + z := ⟨_, rfl⟩
            obtain ⟨x, hx⟩ : ∃ x, x = m + 1 + z := ⟨_, rfl⟩
            rw [← hy, ← hx] at s2
            rw [← hy] at s1
            have HX := Lib.hid hx
            clear hz hy hx
            go_wp2_with fail
            (with_reducible refine (KO.out _).mono ?_)
            rintro e w2 ⟨rfl, rfl⟩
            clear KO
            go_wp2_with fail
            go_roundw
            case rel =>
              exact ⟨x, by have := HHO.out; have := HX.out; omega, rfl, by rw [HX.out]; exact HHS.out, HBE.out⟩
            case measure => have := HX.out; simp [intOf]; omega
          · have HBE := Lib.hid hh.out.2
            by_cases hma : m = a
            · have hq : q = true := by
                have hnl := HN.out
                have hna := HAN.out
                have hst := hh.out.1
                have hdr : bs.drop m = 91 :: bs.drop (m + 1) := by
                  rw [List.drop_eq_getElem_cons (by omega)]
                  have hb := HBA.out
                  rw [← hma, List.getElem?_eq_getElem (by omega)] at hb
                  injection hb with hb
                  rw [hb]
                rw [jmp_step hdr, if_pos rfl] at hst
                rw [hst, hma]
                simp
              subst hma
              subst hq
              clear hh
              go_wp2_with fail
              exact bodyPost_ret (v := .bool true) (by simp [results, Tryd.results18, go_sem]) rfl ⟨rfl, HBE.out⟩
            · have hq : q = false := by
                rw [hh.out.1, decide_eq_false_iff_not]
                intro hx
                have := jmp_ge _ _ _ _ hx
                omega
              have e1 : ¬ (m : Int) = (a : Int) := by omega
              subst hq
              clear hh hma
              go_wp2_with fail
              exact bodyPost_ret (v := .bool false) (by simp [results, Tryd.results18, go_sem, e1]) rfl ⟨rfl, HBE.out⟩
      · have e2 : ¬ (b : Int) = 91 := by omega
        have e : q = false := by rw [HQ.out]; exact jumpB_ne hb h91
        have e3 : ((b : Int) != 91) = true := by simp; omega
        have hai : (a : Int) < (n : Int) := by omega
        subst e
        clear hna hb hnl hc0 hcell h91
        go_wp2_with fail
        exact bodyPost_ret (v := .bool false) (by simp [results, Tryd.results18, go_sem]) rfl ⟨rfl, gW.out⟩
  · have kS : ∀ w, Calls Tryd.prog 35 #[.agg #[.int .u64 (lim 0 a : Nat), .int .u64 (lim 1 a : Nat), .int .u64 (lim 2 a : Nat), .int .u64 (lim 3 a : Nat)]] w (RetV (.tuple #[.int .u64 0, .bool false]) w) := fun w => small_f hb (by omega) w
    have e : q = false := by rw [hq]; exact jumpB_far (by omega)
    rw [e]
    have KS := Lib.hid kS
    clear kS hq hn hl hb ha e h hd
    go_enter Tryd.func18, Tryd.ntmps18
    go_upto_region 1 with (fail)
    generalize w.alloc (.cells #[.int .u64 (lim 0 a : Nat), .int .u64 (lim 1 a : Nat), .int .u64 (lim 2 a : Nat), .int .u64 (lim 3 a : Nat)] 34) = X at *
    obtain ⟨x0, x1, x2, x3⟩ := gA.cells4
    go_wp2_with fail
    (with_reducible refine (KS.out _).mono ?_)
    rintro e w1 ⟨rfl, hb1⟩
    have gW := Lib.hid (gW.trans (hb1.mono gW.size))
    clear x0 x1 x2 x3 gA hb1 KS
    go_wp2_with fail
    exact bodyPost_ret (v := .bool false) (by simp [results, Tryd.results18, go_sem]) rfl ⟨rfl, gW.out⟩
end Go.Proofs.YtopeahjdglkheaaDoor
