/- Package code: own, Jumps, Jump. -/
import Derived.Test.YtopeahjdglkheaaDoorCdJump
namespace Go.Proofs.YtopeahjdglkheaaDoor
open Go.RowKit

set_option maxRecDepth 100000 in
theorem pown_c (b : Nat) (hb : b < 256) (w : World) : Calls Tryd.prog 33 #[.int .i64 (b : Nat)] w (fun e w' => e = .returned (.int .i64 (ownZ b : Nat)) ∧ w' = w) := by
  by_cases h1 : b < 95
  · have e : ownZ b = 0 := by unfold ownZ; rw [if_neg (by omega)]
    rw [e]
    have e1 : (b : Int) < 95 := by omega
    clear h1 hb e
    go_enter Tryd.func33, Tryd.ntmps33
    go_wp2_with fail
    go_ret
    exact ⟨rfl, rfl⟩
  · have e1 : ¬ (b : Int) < 95 := by omega
    by_cases h2 : 128 ≤ b
    · have e : ownZ b = 0 := by unfold ownZ; rw [if_neg (by omega)]
      rw [e]
      have e2 : (128 : Int) ≤ (b : Int) := by omega
      clear h1 hb e h2
      go_enter Tryd.func33, Tryd.ntmps33
      go_wp2_with fail
      go_ret
      exact ⟨rfl, rfl⟩
    · have e : ownZ b = b - 95 := by unfold ownZ; split <;> omega
      rw [e]
      have e2 : ¬ (128 : Int) ≤ (b : Int) := by omega
      have e4 : IntKind.i64.wrap ((b : Int) - 95) = ((b - 95 : Nat) : Int) := by rw [IntWalk.i64_in _ (by omega)]; omega
      clear h1 hb e h2
      go_enter Tryd.func33, Tryd.ntmps33
      go_wp2_with fail
      go_ret
      exact ⟨rfl, rfl⟩

set_option maxRecDepth 100000 in
set_option maxHeartbeats 6400000 in
theorem pjumps_c {A : Option Addr} {c : Nat} {bs : List Nat} (w : World) (h : Rd .u8 w A c bs) (hd : Ds 256 bs) (hl : bs.length ≤ 1099511627776) : Calls Tryd.prog 16 #[.slice A bs.length c] w (JumpsR bs w) := by
  obtain ⟨n, hn⟩ : ∃ n, n = bs.length := ⟨_, rfl⟩
  rw [← hn] at hl ⊢
  have HN := Lib.hid hn
  have HR := Lib.hid h
  have HD := Lib.hid hd
  have HL := Lib.hid hl
  clear hn h hd hl
  go_enter Tryd.func16, Tryd.ntmps16
  go_wp2_with fail
  go_loopw [3, 4] (fun v i wr => ∃ (m : Nat) (l : List Nat), m ≤ n + 40 ∧ i = .int .i64 (m : Nat) ∧ Hid (wr.ownsRow w.heap.size 3 1 v l.length (intsC l) ∧ l ++ jmp 0 m (bs.drop m) = jmp 0 0 bs ∧ Below w.heap.size w wr)) (fun _ i _ => n + 50 - (intOf i).toNat)
  case atStart => exact ⟨0, [], by omega, rfl, ⟨rfl, .inl ⟨rfl, rfl⟩⟩, rfl, Below.refl _ _⟩
  case round =>
    obtain ⟨m, l, hm, rfl, hh⟩ := hrel
    by_cases h0 : m < n
    · have hnl := HN.out
      obtain ⟨b, hb⟩ : ∃ b, bs[m]? = some b := ⟨_, List.getElem?_eq_getElem (by omega)⟩
      have hb256 : b < 256 := HD.out b (List.mem_of_getElem? hb)
      obtain ⟨bb, oo, rfl, hlt, hcell⟩ := HR.out.at_ (by omega)
      have hc0 := hcell m (by omega)
      rw [show bs.getD m 0 = b by rw [List.getD_eq_getElem?_getD, hb]; rfl] at hc0
      have hcw := (hh.out.2.2.cell (p := ⟨bb, oo + m, none⟩) hlt).trans hc0
      have hdr : bs.drop m = b :: bs.drop (m + 1) := by
        rw [List.drop_eq_getElem_cons (by omega)]
        rw [List.getElem?_eq_getElem (by omega)] at hb
        injection hb with hb
        rw [hb]
      have hst := hh.out.2.1
      rw [jmp_step hdr, List.drop_drop] at hst
      have ho : ownZ b ≤ 32 := by unfold ownZ; split <;> omega
      have HL2 := HL.out
      have hi1 : (m : Int) < (n : Int) := by omega
      have s0 : IntKind.i64.wrap (b : Int) = (b : Int) := IntWalk.i64_in _ (by omega)
      have s1 : IntKind.i64.wrap (1 + (ownZ b : Int)) = ((1 + ownZ b : Nat) : Int) := by rw [IntWalk.i64_in _ (by omega)]; omega
      have s2 : IntKind.i64.wrap ((m : Int) + ((1 + ownZ b : Nat) : Int)) = ((m + 1 + ownZ b : Nat) : Int) := by rw [IntWalk.i64_in _ (by omega)]; omega
      have KO : Hid (∀ v, Calls Tryd.prog 33 #[.int .i64 (b : Nat)] v (fun e w' => e = .returned (.int .i64 (ownZ b : Nat)) ∧ w' = v)) := fun v => pown_c b hb256 v
      have HHL : Hid (l.length ≤ 1099511627776) := by
        have h1 := congrArg List.length hst
        have h2 := jmp_len 0 0 bs
        simp only [List.length_append] at h1
        show l.length ≤ _
        omega
      have HHR := Lib.hid hh.out.1
      have HBE := Lib.hid hh.out.2.2
      have HHS := Lib.hid hst
      have HHO := Lib.hid ho
      clear ho hst hh hdr hb hc0 hcell hb256 HL2 hnl
      obtain ⟨z, hz⟩ : ∃ z, z = ownZ b := ⟨_, rfl⟩
      rw [← hz] at s1 s2 KO HHO HHS
      obtain ⟨y, hy⟩ : ∃ y, y = 1 + z := ⟨_, rfl⟩
      obtain ⟨x, hx⟩ : ∃ x, x = m + 1 + z := ⟨_, rfl⟩
      rw [← hy, ← hx] at s2
      rw [← hy] at s1
      have HX := Lib.hid hx
      clear hz hy hx
      by_cases h91 : b = 91
      · rw [if_pos h91] at HHS
        have h91i : (b : Int) = 91 := by omega
        have KO : Hid (∀ v, Calls Tryd.prog 33 #[.int .i64 91] v (fun e w' => e = .returned (.int .i64 (z : Nat)) ∧ w' = v)) := fun v => by
          have h := KO.out v
          rw [h91i] at h
          exact h
        clear h91 s0
        obtain ⟨v', w1, happ, hown, hgr⟩ := run_append_int 36 HHR.out m HHL.out HBE.out.size
        have hb1 : Below w.heap.size w w1 := (HBE.out.alloc HBE.out.size (.cells #[.int .i64 (m : Nat)] 3)).grown hgr (by have := HBE.out.size; simp; omega) (fun k hk => by
          rcases HHR.out.2 with ⟨e, _⟩ | ⟨g, cap, cur, e, hg, _⟩
          · rw [e] at hk; simp [Value.ownBlock] at hk
          · rw [e] at hk; simp [Value.ownBlock] at hk; omega)
        have HAPP := Lib.hid happ
        have HOWN := Lib.hid hown
        have HB1 := Lib.hid hb1
        have hcw1 := (hb1.cell (p := ⟨bb, oo + m, none⟩) hlt).trans ((HBE.out.cell (p := ⟨bb, oo + m, none⟩) hlt).symm.trans hcw)
        rw [h91i] at hcw1
        clear happ hown hgr hb1
        go_wp2_with (at_builtin; refine cd_append_run rfl (.tmp 23) (.tmp 25) 36 rfl HAPP.out ?_)
        (with_reducible refine (KO.out _).mono ?_)
        rintro e w2 ⟨rfl, rfl⟩
        clear HAPP KO
        go_wp2_with fail
        go_roundw
        case rel =>
          exact ⟨x, l ++ [m], by have := HHO.out; have := HX.out; omega, rfl, HOWN.out, by rw [List.append_assoc, HX.out]; exact HHS.out, HB1.out⟩
        case measure => have := HX.out; simp [intOf]; omega
      · rw [if_neg h91] at HHS
        have h91i : ¬ (b : Int) = 91 := by omega
        clear h91
        go_wp2_with fail
        (with_reducible refine (KO.out _).mono ?_)
        rintro e w2 ⟨rfl, rfl⟩
        clear KO
        go_wp2_with fail
        go_roundw
        case rel =>
          exact ⟨x, l, by have := HHO.out; have := HX.out; omega, rfl, HHR.out, by rw [HX.out]; exact HHS.out, HBE.out⟩
        case measure => have := HX.out; simp [intOf]; omega
    · have hj : l = jmp 0 0 bs := by
        have h1 := hh.out.2.1
        rw [List.drop_eq_nil_of_le (by have := HN.out; omega), jmp, List.append_nil] at h1
        exact h1
      subst hj
      go_wp2_with fail
      exact bodyPost_ret (v := u3) (by simp [results, Tryd.results16, go_sem]) rfl ⟨u3, rfl, hh.out.1, hh.out.2.2⟩
end Go.Proofs.YtopeahjdglkheaaDoor
