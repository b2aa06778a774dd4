/- Package quarryref18: own and Jumps: to which places of a code may be jumped. -/
import Derived.Test.YtopeahjdglkheaaDoorOpenB
import Derived.Test.YtopeahjdglkheaaDoorTwin
import Derived.Test.YtopeahjdglkheaaDoorFkOp
import Derived.Maps.AppendAt
namespace Go.Proofs.YtopeahjdglkheaaDoor
open Go.RowKit

/-- How many bytes of its own an operation has. -/
def ownZ (b : Nat) : Nat := if 96 ≤ b ∧ b ≤ 127 then b - 95 else 0
/-- The places to which may be jumped, from place i on, where s bytes are yet another operation's own. -/
def jmp : Nat → Nat → List Nat → List Nat
  | _, _, [] => []
  | s + 1, i, _ :: r => jmp s (i + 1) r
  | 0, i, b :: r => if b = 91 then i :: jmp (ownZ b) (i + 1) r else jmp (ownZ b) (i + 1) r
theorem jmp_skip : ∀ (s i : Nat) (l : List Nat), jmp s i l = jmp 0 (i + s) (l.drop s)
  | 0, _, _ => rfl
  | s + 1, i, [] => by simp [jmp]
  | s + 1, i, _ :: r => by
    rw [jmp, jmp_skip s (i + 1) r, List.drop_succ_cons, show i + 1 + s = i + (s + 1) by omega]
theorem jmp_step {i b : Nat} {l r : List Nat} (h : l = b :: r) : jmp 0 i l = (if b = 91 then [i] else []) ++ jmp 0 (i + 1 + ownZ b) (r.drop (ownZ b)) := by
  rw [h, jmp, ← jmp_skip (ownZ b) (i + 1) r]
  split <;> rfl
/-- Places as cells. -/
def intsC (l : List Nat) : List Value := l.map fun n : Nat => Value.int .i64 (n : Int)
theorem intsC_one (l : List Nat) : ∀ u ∈ intsC l, u.oneCell' = true := fun u hu => by
  obtain ⟨n, _, rfl⟩ := List.mem_map.1 hu; rfl
theorem infoInt : (Tryd.prog.info? 3).map (fun i => (i.zero, i.size, i.bytes)) = some (some (.int .i64 0), 1, 8) := by kernel_rfl
section
variable {ops : Array Oper} {rest : List Oper} {o : Oper} {a : Act} {w : World} {Q : Exit → Act → World → Prop}
theorem cd_append_run (hgd : o.guard = none) (s x : Operand) (t : TypeId) (ho : o.op = .call { callee := .builtin .append, args := #[s, x], argTypes := #[t, t] }) {v' : Value} {w' : World}
    (hr : (Builtin.append_ #[t, t] o.type #[a.eval s, a.eval x]).run Tryd.prog w = .ok v' w') (h : wpList Tryd.prog ops Q rest (a.put o.dst v') w') : wpList Tryd.prog ops Q (o :: rest) a w := by
  refine wpList_plain hgd fun K hK => ?_
  unfold Oper.wp execOp
  simp only [ho, resolve, invoke, builtin, Sem.run_bind, Sem.run_pure, Result.andThen_ok, List.map_toArray, List.map_cons, List.map_nil, hr]
  exact hK _ _ h
end
/-- An int more behind a row that the call owns. -/
theorem run_append_int (t' : TypeId) {w : World} {base : Nat} {v : Value} {l : List Nat} (hown : w.ownsRow base 3 1 v l.length (intsC l)) (n : Nat) (hl : l.length ≤ 1099511627776) (hb : base ≤ w.heap.size) :
    ∃ v' w', (Builtin.append_ #[36, 36] t' #[v, .slice (some ⟨w.heap.size, 0, none⟩) 1 1]).run Tryd.prog (w.alloc (.cells #[.int .i64 (n : Nat)] 3)) = .ok v' w' ∧ w'.ownsRow base 3 1 v' (l ++ [n]).length (intsC (l ++ [n])) ∧ (w.alloc (.cells #[.int .i64 (n : Nat)] 3)).grownBy w' v.ownBlock := by
  obtain ⟨i0, hi, hz0, hz1, hz2⟩ := info_parts infoInt
  have hown2 : (w.alloc (.cells #[.int .i64 (n : Nat)] 3)).ownsRow base 3 1 v l.length (intsC l) := by
    refine ⟨hown.1, ?_⟩
    rcases hown.2 with h | ⟨g, cap, cur, e, hg, hh, r⟩
    · exact .inl h
    · exact .inr ⟨g, cap, cur, e, hg, (Below.heap_alloc _ _ _ (Array.getElem?_eq_some_iff.1 hh).1).trans hh, r⟩
  obtain ⟨v', w', h1, h2, h3, _, _⟩ := run_append_own_at (P := Tryd.prog) (w.alloc (.cells #[.int .i64 (n : Nat)] 3)) base 36 t' 3 i0 (.int .i64 0) 1 8 Tryd.underlying36 hi hz0 hz1 hz2 (by simp [Value.cells]) (by decide) v l.length (intsC l) hown2 ⟨w.heap.size, 0, none⟩ 1 1 [.int .i64 (n : Nat)] rfl
    (fun j u hj => by
      cases j with
      | zero => simp at hj; subst hj; rw [Addr.add_mid, cell_of_row _ _ 0 _ _ (0, 0) (heap_alloc_new w _)]; rfl
      | succ j => simp at hj) (fun u hu => by rw [List.mem_singleton] at hu; rw [hu]; rfl) (by unfold maxLen; omega) (by omega) (by simp; omega)
  refine ⟨v', w', h1, ?_, h3⟩
  rw [List.length_append, show intsC (l ++ [n]) = intsC l ++ [.int .i64 (n : Nat)] by simp [intsC]]
  exact h2

set_option maxRecDepth 100000 in
theorem rown_c (b : Nat) (hb : b < 256) (w : World) : Calls Tryd.prog 34 #[.int .u8 (b : Nat)] w (fun e w' => e = .returned (.int .i64 (ownZ b : Nat)) ∧ w' = w) := by
  unfold ownZ
  by_cases h1 : 96 ≤ b
  · by_cases h2 : b ≤ 127
    · rw [if_pos ⟨h1, h2⟩]
      have e1 : (96 : Int) ≤ (b : Int) := by omega
      have e2 : (b : Int) ≤ 127 := by omega
      have e3 : IntKind.i64.wrap (b : Int) = (b : Int) := IntWalk.i64_in _ (by omega)
      have e4 : IntKind.i64.wrap ((b : Int) - 95) = ((b - 95 : Nat) : Int) := by rw [IntWalk.i64_in _ (by omega)]; omega
      clear h1 h2 hb
      go_enter Tryd.func34, Tryd.ntmps34
      go_wp2_with fail
      go_ret
      exact ⟨rfl, rfl⟩
    · rw [if_neg (fun h => h2 h.2)]
      have e1 : (96 : Int) ≤ (b : Int) := by omega
      have e2 : ¬ (b : Int) ≤ 127 := by omega
      clear h1 h2 hb
      go_enter Tryd.func34, Tryd.ntmps34
      go_wp2_with fail
      go_ret
      exact ⟨rfl, rfl⟩
  · rw [if_neg (fun h => h1 h.1)]
    have e1 : ¬ (96 : Int) ≤ (b : Int) := by omega
    clear h1 hb
    go_enter Tryd.func34, Tryd.ntmps34
    go_wp2_with fail
    go_ret
    exact ⟨rfl, rfl⟩
/-- What Jumps tells. -/
def JumpsR (bs : List Nat) (w : World) (e : Ending) (w' : World) : Prop := ∃ v, e = .returned v ∧ w'.ownsRow w.heap.size 3 1 v (jmp 0 0 bs).length (intsC (jmp 0 0 bs)) ∧ Below w.heap.size w w'
theorem jmp_len : ∀ (s i : Nat) (l : List Nat), (jmp s i l).length ≤ l.length
  | _, _, [] => by simp [jmp]
  | s + 1, i, _ :: r => by rw [jmp]; have := jmp_len s (i + 1) r; simp; omega
  | 0, i, b :: r => by
    have := jmp_len (ownZ b) (i + 1) r
    rw [jmp]; split <;> simp <;> omega

set_option maxRecDepth 100000 in
set_option maxHeartbeats 6400000 in
theorem rjumps_c {A : Option Addr} {c : Nat} {bs : List Nat} (w : World) (h : Rd .u8 w A c bs) (hd : Ds 256 bs) (hl : bs.length ≤ 1099511627776) : Calls Tryd.prog 17 #[.slice A bs.length c] w (JumpsR bs w) := by
  obtain ⟨n, hn⟩ : ∃ n, n = bs.length := ⟨_, rfl⟩
  rw [← hn] at hl ⊢
  have HN := Lib.hid hn
  have HR := Lib.hid h
  have HD := Lib.hid hd
  have HL := Lib.hid hl
  clear hn h hd hl
  go_enter Tryd.func17, Tryd.ntmps17
  go_wp2_with fail
  go_loopw [3, 4] (fun v i wr => ∃ (m : Nat) (l : List Nat), m ≤ n + 40 ∧ i = .int .i64 (m : Nat) ∧ Hid (wr.ownsRow w.heap.size 3 1 v l.length (intsC l) ∧ l ++ jmp 0 m (bs.drop m) = jmp 0 0 bs ∧ Below w.heap.size w wr)) (fun _ i _ => n + 40 - (intOf i).toNat)
  case atStart => exact ⟨0, [], by omega, rfl, ⟨rfl, .inl ⟨rfl, rfl⟩⟩, rfl, Below.refl _ _⟩
  case round =>
    obtain ⟨m, l, hm, rfl, hh⟩ := hrel
    by_cases h0 : m < n
    · have hnl := HN.out
      obtain ⟨b, hb⟩ : ∃ b, bs[m]? = some b := ⟨_, List.getElem?_eq_getElem (by omega)⟩
      have hb256 : b < 256 := HD.out b (List.mem_of_getElem? hb)
      obtain ⟨bb, oo, rfl, hlt, hcell⟩ := HR.out.at_ (by omega)
      have hc0 := hcell m (by omega)
      rw [show bs.getD m 0 = b by rw [List.getD_eq_getElem?_getD, hb]; rfl] at hc0
      have hcw := (hh.out.2.2.cell (p := ⟨bb, oo + m, none⟩) hlt).trans hc0
      have hdr : bs.drop m = b :: bs.drop (m + 1) := by
        rw [List.drop_eq_getElem_cons (by omega)]
        rw [List.getElem?_eq_getElem (by omega)] at hb
        injection hb with hb
        rw [hb]
      have hst := hh.out.2.1
      rw [jmp_step hdr, List.drop_drop] at hst
      have ho : ownZ b ≤ 32 := by unfold ownZ; split <;> omega
      have HL2 := HL.out
      have hi1 : (m : Int) < (n : Int) := by omega
      have s1 : IntKind.i64.wrap ((m : Int) + 1) = (m : Int) + 1 := IntWalk.i64_in _ (by omega)
      have s2 : IntKind.i64.wrap ((m : Int) + 1 + (ownZ b : Int)) = ((m + 1 + ownZ b : Nat) : Int) := by rw [IntWalk.i64_in _ (by omega)]; omega
      have KO : Hid (∀ v, Calls Tryd.prog 34 #[.int .u8 (b : Nat)] v (fun e w' => e = .returned (.int .i64 (ownZ b : Nat)) ∧ w' = v)) := fun v => rown_c b hb256 v
      have HHL : Hid (l.length ≤ 1099511627776) := by
        have h1 := congrArg List.length hst
        have h2 := jmp_len 0 0 bs
        simp only [List.length_append] at h1
        show l.length ≤ _
        omega
      have HHR := Lib.hid hh.out.1
      have HBE := Lib.hid hh.out.2.2
      have HHS := Lib.hid hst
      have HHO := Lib.hid ho
      clear ho hst hh hdr hb hc0 hcell hb256 HL2 hnl
      by_cases h91 : b = 91
      · rw [if_pos h91] at HHS
        have h91i : (b : Int) = 91 := by omega
        have KO : Hid (∀ v, Calls Tryd.prog 34 #[.int .u8 91] v (fun e w' => e = .returned (.int .i64 (ownZ b : Nat)) ∧ w' = v)) := fun v => by
          have h := KO.out v
          rw [h91i] at h
          exact h
        clear h91
        obtain ⟨v', w1, happ, hown, hgr⟩ := run_append_int 36 HHR.out m HHL.out HBE.out.size
        have hb1 : Below w.heap.size w w1 := (HBE.out.alloc HBE.out.size (.cells #[.int .i64 (m : Nat)] 3)).grown hgr (by have := HBE.out.size; simp; omega) (fun k hk => by
          rcases HHR.out.2 with ⟨e, _⟩ | ⟨g, cap, cur, e, hg, _⟩
          · rw [e] at hk; simp [Value.ownBlock] at hk
          · rw [e] at hk; simp [Value.ownBlock] at hk; omega)
        have HAPP := Lib.hid happ
        have HOWN := Lib.hid hown
        have HB1 := Lib.hid hb1
        have hcw1 := (hb1.cell (p := ⟨bb, oo + m, none⟩) hlt).trans ((HBE.out.cell (p := ⟨bb, oo + m, none⟩) hlt).symm.trans hcw)
        clear happ hown hgr hb1
        go_wp2_with (at_builtin; refine cd_append_run rfl (.tmp 22) (.tmp 24) 36 rfl HAPP.out ?_)
        (with_reducible refine (KO.out _).mono ?_)
        rintro e w2 ⟨rfl, rfl⟩
        clear HAPP KO
        go_wp2_with fail
        go_roundw
        case rel =>
          refine ⟨m + 1 + ownZ b, l ++ [m], by have := HHO.out; omega, ?_, HOWN.out, ?_, HB1.out⟩
          · first | rfl | (simp only [s2]; rfl) | go_num
          · rw [List.append_assoc]; exact HHS.out
        case measure => simp [intOf]; omega
      · rw [if_neg h91] at HHS
        have h91i : ¬ (b : Int) = 91 := by omega
        clear h91
        go_wp2_with fail
        (with_reducible refine (KO.out _).mono ?_)
        rintro e w2 ⟨rfl, rfl⟩
        clear KO
        go_wp2_with fail
        go_roundw
        case rel =>
          refine ⟨m + 1 + ownZ b, l, by have := HHO.out; omega, ?_, HHR.out, HHS.out, HBE.out⟩
          first | rfl | (simp only [s2]; rfl) | go_num
        case measure => simp [intOf]; omega
    · have hj : l = jmp 0 0 bs := by
        have h1 := hh.out.2.1
        rw [List.drop_eq_nil_of_le (by have := HN.out; omega), jmp, List.append_nil] at h1
        exact h1
      subst hj
      go_wp2_with fail
      exact bodyPost_ret (v := u3) (by simp [results, Tryd.results17, go_sem]) rfl ⟨u3, rfl, hh.out.1, hh.out.2.2⟩
end Go.Proofs.YtopeahjdglkheaaDoor
