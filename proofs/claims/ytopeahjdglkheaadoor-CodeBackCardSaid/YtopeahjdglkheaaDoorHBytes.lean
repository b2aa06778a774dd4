/- The contract of package hexa's Bytes. -/
import Derived.Test.YtopeahjdglkheaaDoorHDigits
import Derived.Test.YtopeahjdglkheaaDoorRTrim
import Derived.Laws.BitsAllLaws
namespace Go.Proofs.YtopeahjdglkheaaDoor
open Go.RowKit

/-- Bytes from hex digits, the last one half where the digits are odd. -/
def pb : List Nat → List Nat
  | [] => []
  | [a] => [16 * a]
  | a :: b :: t => (16 * a + b) :: pb t
theorem pb_len : ∀ ds : List Nat, (pb ds).length = (ds.length + 1) / 2
  | [] => rfl
  | [a] => by simp [pb]
  | a :: b :: t => by simp only [pb, List.length_cons, pb_len t]; omega
theorem pb_even : ∀ (ds : List Nat) (v : Nat), ds.length % 2 = 0 → pb (ds ++ [v]) = pb ds ++ [16 * v]
  | [], v, _ => rfl
  | [a], v, h => by simp at h
  | a :: b :: t, v, h => by
    simp only [List.cons_append, pb]
    rw [pb_even t v (by simp only [List.length_cons] at h; omega)]
theorem pb_odd : ∀ (ds : List Nat) (v : Nat), ds.length % 2 = 1 → (∃ a : Nat, a ∈ ds ∧ (pb ds).getD (ds.length / 2) 0 = 16 * a) ∧ pb (ds ++ [v]) = (pb ds).set (ds.length / 2) ((pb ds).getD (ds.length / 2) 0 + v)
  | [], v, h => by simp at h
  | [a], v, _ => ⟨⟨a, by simp, by simp [pb]⟩, by simp [pb]⟩
  | a :: b :: t, v, h => by
    have hl : (a :: b :: t).length / 2 = t.length / 2 + 1 := by simp only [List.length_cons]; omega
    obtain ⟨⟨x, hx, h1⟩, h2⟩ := pb_odd t v (by simp only [List.length_cons] at h; omega)
    rw [hl]
    refine ⟨⟨x, by simp [hx], ?_⟩, ?_⟩
    · simpa [pb] using h1
    · simp only [List.cons_append, pb, h2]; simp
theorem pb_ds : ∀ ds : List Nat, Ds 16 ds → Ds 256 (pb ds)
  | [], _ => fun x hx => by simp [pb] at hx
  | [a], h => fun x hx => by
    have := h a (by simp)
    simp [pb] at hx; omega
  | a :: b :: t, h => fun x hx => by
    have ha := h a (by simp)
    have hb := h b (by simp)
    simp only [pb, List.mem_cons] at hx
    rcases hx with rfl | hx
    · omega
    · exact pb_ds t (fun y hy => h y (by simp [hy])) x hx
theorem or16 : ∀ a : Nat, a < 16 → ∀ b : Nat, b < 16 → bits .or .u8 ((16 * a : Nat) : Int) (b : Int) = ((16 * a + b : Nat) : Int) := by decide +kernel

theorem Acc.mono {w : World} {base base' : Nat} {v : Value} {bs : List Nat} (h : Acc w base v bs) (hb : base' ≤ base) : Acc w base' v bs := by
  rcases h.2 with ⟨e, h0⟩ | ⟨g, cap, cur, e, hg, rest⟩
  · exact ⟨h.1, .inl ⟨e, h0⟩⟩
  · exact ⟨h.1, .inr ⟨g, cap, cur, e, by omega, rest⟩⟩
theorem Kq.trans {a b c : World} (h : Kq a b) (k : Kq b c) : Kq a c := ⟨Nat.le_trans h.1 k.1, fun i cs t z ht hi => k.2 i cs t z ht (h.2 i cs t z ht hi)⟩
theorem kq_alloc (w : World) (o : Obj) : Kq w (w.alloc o) := ⟨by simp, fun i cs t z _ h => by
  rw [Below.heap_alloc _ _ i (Array.getElem?_eq_some_iff.1 h).1]; exact h⟩
theorem kq_drew (w : World) : Kq w w.drew := ⟨Nat.le_refl _, fun _ _ _ _ _ h => h⟩
theorem one_cell {w : World} {g : Nat} {u : Value} {t : TypeId} (h : w.heap[g]? = some (.cells #[u] t (0, 0))) : w.cell? ⟨g, 0, none⟩ = some u ∧ w.frozen? ⟨g, 0, none⟩ = false := by
  refine ⟨?_, ?_⟩
  · rw [cell_of_row _ _ _ _ t (0, 0) h]; rfl
  · exact frozen_of_row _ _ _ _ t h
theorem acc_ne {w : World} {base B : Nat} {v : Value} {bs : List Nat} {cs : Array Value} {t : TypeId} {z : Nat × Nat} (h : Acc w base v bs) (hb : w.heap[B]? = some (.cells cs t z)) (ht : t ≠ 5) : v.ownBlock ≠ some B := by
  intro e
  rcases h.2 with ⟨rfl, _⟩ | ⟨g, cap, cur, rfl, _, hg, _⟩
  · cases e
  · injection e with e
    subst e
    rw [hg] at hb
    injection hb with hb
    injection hb with _ h2 _
    exact ht h2.symm
theorem grown_put (w : World) (b : Nat) (v : Value) : w.grownBy (w.setCell ⟨b, 0, none⟩ v) (some b) :=
  ⟨rfl, rfl, rfl, by simp [World.setCell], fun k _ hk => Below.heap_setCell _ _ _ _ (fun e => hk (by rw [e]))⟩
theorem Acc.kept {w w' : World} {base : Nat} {v : Value} {bs : List Nat} {row : Option Nat} (h : Acc w base v bs) (hg : w.grownBy w' row) (hne : v.ownBlock ≠ row) : Acc w' base v bs := World.ownsRow.kept h hg (.inr hne)
theorem Acc.set {w : World} {base g n c : Nat} {bs : List Nat} (h : Acc w base (.slice (some ⟨g, 0, none⟩) n c) bs) (j y : Nat) : Acc (w.setCell ⟨g, j, none⟩ (.int .u8 (y : Int))) base (.slice (some ⟨g, 0, none⟩) n c) (bs.set j y) := by
  rcases h.2 with ⟨e, _⟩ | ⟨g', cap, cur, e, hb, hg, hnc, hcm, hcs, ht⟩
  · cases e
  · injection e with e1 e2 e3
    injection e1 with e1
    injection e1 with e1
    subst e1 e3
    refine ⟨by simp [bv], .inr ⟨g, c, _, by rw [List.length_set, e2], hb, heap_setCell_same w g j _ _ _ hg, by rw [List.length_set]; exact hnc, hcm, ?_, ?_⟩⟩
    · rw [Array.size_setIfInBounds]; exact hcs
    · rw [List.length_set, Array.toList_setIfInBounds, List.take_set, ht]
      simp [bv, List.map_set]
theorem acc_q {w w' : World} {base : Nat} {v : Value} {bs : List Nat} (h : Acc w base v bs) (hq : Kq w w') : Acc w' base v bs := by
  rcases h.2 with ⟨e, h0⟩ | ⟨g, cap, cur, e, hb, hg, rest⟩
  · exact ⟨h.1, .inl ⟨e, h0⟩⟩
  · exact ⟨h.1, .inr ⟨g, cap, cur, e, hb, hq.2 _ _ _ _ (by decide) hg, rest⟩⟩
theorem kp_of {w w' : World} (h : ∀ i, i < w.heap.size → w'.heap[i]? = w.heap[i]? ∨ ∃ cs t z, w.heap[i]? = some (.cells cs t z) ∧ t ≠ 44) : Kp w w' := fun i =>
  ⟨fun s p hi => (by
    have hlt := (Array.getElem?_eq_some_iff.1 hi).1
    rcases h i hlt with e | ⟨cs, t, z, e, _⟩
    · rw [e]; exact hi
    · rw [e] at hi; cases hi),
   fun cs z hi => by
    have hlt := (Array.getElem?_eq_some_iff.1 hi).1
    rcases h i hlt with e | ⟨cs, t, z, e, hne⟩
    · rw [e]; exact hi
    · rw [e] at hi; injection hi with hi; injection hi with _ h2 _; exact absurd h2 hne⟩
theorem acc_kind {w : World} {base g : Nat} {v : Value} {bs : List Nat} (h : Acc w base v bs) (hg : v.ownBlock = some g) : ∃ cs z, w.heap[g]? = some (.cells cs 5 z) := by
  rcases h.2 with ⟨rfl, _⟩ | ⟨g', cap, cur, rfl, _, hh, _⟩
  · cases hg
  · injection hg with e; subst e; exact ⟨_, _, hh⟩

/-- What the reader of bytes has come to. -/
def InvB (B0 Bv : Nat) (ds : List Nat) (w : World) : Prop := ∃ v, w.heap[Bv]? = some (.cells #[v] 31 (0, 0)) ∧ Acc w B0 v (pb ds)
def okB (ds : List Nat) (k : Nat) : Prop := ds.length = k ∧ Ds 16 ds
def stepB (ds : List Nat) (_ v : Nat) : Except Nat (List Nat) := .ok (ds ++ [v])

set_option maxRecDepth 100000 in
set_option maxHeartbeats 6400000 in
theorem bytes_reader (B0 Bv : Nat) (hv : B0 ≤ Bv) : Reader (InvB B0 Bv) okB stepB 68 (.pointer (some ⟨Bv, 0, none⟩)) B0 := by
  obtain ⟨i0, hi, hz0, hz1, hz2⟩ := info_parts info8
  intro ds k v w ⟨u, hb, hacc⟩ ⟨hl, hds⟩ hB hk hv16
  refine (show Calls _ _ _ w (fun e w' => e = .returned (.int .i64 0) ∧ InvB B0 Bv (ds ++ [v]) w' ∧ Kp w w' ∧ Below B0 w w') from ?_).mono fun e w' h => ⟨fun y hy => by injection hy with hy; subst hy; exact h, fun c hc => by cases hc⟩
  have hBv : Bv < w.heap.size := (Array.getElem?_eq_some_iff.1 hb).1
  obtain ⟨c0, f0⟩ := one_cell hb
  have hpl := pb_len ds
  by_cases h2 : k % 2 = 0
  · have e1 : (k : Int) % 2 = 0 := by omega
    have e2 : (k : Int).tmod 2 = 0 := by rw [Int.tmod_eq_emod_of_nonneg (by omega)]; omega
    obtain ⟨y, hy⟩ : ∃ y, y = 16 * v := ⟨_, rfl⟩
    have e3 : IntKind.u8.wrap ((v : Int) * 16) = (y : Int) := by rw [IntKind.wrap_u8']; omega
    have e4 : IntKind.u8.wrap ((v : Int) * 2 ^ 4) = (y : Int) := by rw [IntKind.wrap_u8']; omega
    have HN := Lib.hid (show pb (ds ++ [v]) = pb ds ++ [y] by rw [hy]; exact pb_even ds v (by omega))
    have HB := Lib.hid hb
    have HACC := Lib.hid hacc
    have HPL : Hid ((pb ds).length ≤ 70368744177665) := by show _ ≤ _; omega
    clear hb hacc hpl hl hds hy h2
    go_enter Tryd.func68, Tryd.ntmps68
    go_wp2_with (at_builtin; refine wpList_append_own _ rfl (.tmp 9) (.tmp 12) 31 rfl B0 5 i0 (.int .u8 0) 1 1 Tryd.underlying31 hi hz0 hz1 hz2 rfl (by decide) _ _ _ rfl (World.ownsRow.alloc HACC.out _) ⟨w.heap.size, 0, none⟩ 1 1 [.int .u8 (y : Int)] rfl rfl one_cells (by intro u hu; simp at hu; subst hu; rfl) (by have := HPL.out; unfold maxLen; omega) (by have := HPL.out; omega) (by simp; omega) ?_)
    intro v' w1 hown hg _
    have hacc1 : Acc w1 B0 v' (pb ds ++ [y]) := by unfold Acc; rw [bv_append, List.length_append]; exact hown
    obtain ⟨A1, c9, rfl⟩ := hacc1.form
    generalize HQ9 : (pb ds ++ [y]).length = n9 at *
    have hne : u.ownBlock ≠ some Bv := acc_ne HACC.out HB.out (by decide)
    have hb1 : w1.heap[Bv]? = some (.cells #[u] 31 (0, 0)) := by
      rw [hg.block Bv (by simp; omega) (fun e => hne e.symm), Below.heap_alloc _ _ _ hBv]; exact HB.out
    have hne1 : (Value.slice A1 n9 c9).ownBlock ≠ some Bv := acc_ne hacc1 hb1 (by decide)
    obtain ⟨c1, f1⟩ := one_cell hb1
    have FIN : InvB B0 Bv (ds ++ [v]) (w1.setCell ⟨Bv, 0, none⟩ (.slice A1 n9 c9)) ∧ Kp w (w1.setCell ⟨Bv, 0, none⟩ (.slice A1 n9 c9)) ∧ Below B0 w (w1.setCell ⟨Bv, 0, none⟩ (.slice A1 n9 c9)) := by
      refine ⟨⟨_, by rw [heap_setCell_same w1 Bv 0 _ _ _ hb1]; rfl, by rw [HN.out]; exact hacc1.kept (grown_put w1 Bv (.slice A1 n9 c9)) hne1⟩, kp_of fun i hi => ?_, ?_⟩
      · by_cases e : i = Bv
        · subst e; exact .inr ⟨_, _, _, HB.out, by decide⟩
        · by_cases e2 : u.ownBlock = some i
          · obtain ⟨cs, z, hh⟩ := acc_kind HACC.out e2
            exact .inr ⟨_, _, _, hh, by decide⟩
          · left
            rw [Below.heap_setCell _ ⟨Bv, 0, none⟩ _ i e, hg.block i (by simp; omega) (fun x => e2 x.symm), Below.heap_alloc _ _ _ hi]
      · exact Below.setCell (p := ⟨Bv, 0, none⟩) ((((Below.refl B0 w).alloc hB _)).grown hg (by simp; omega) (fun k hk => Acc.own HACC.out k hk)) hv _
    have FINH := Lib.hid FIN
    clear FIN hown hg hacc1 hne hne1 hb1 HACC HB HN
    go_wp2_with fail
    go_ret
    exact ⟨rfl, FINH.out⟩
  · obtain ⟨⟨d, hd, hget⟩, hset⟩ := pb_odd ds v (by omega)
    rw [hget] at hset
    have hd16 : d < 16 := hds d hd
    obtain ⟨m, hm⟩ : ∃ m, m = k / 2 := ⟨_, rfl⟩
    rw [hl, ← hm] at hset hget
    have e1 : (k : Int) % 2 = 1 := by omega
    have e2 : (k : Int).tmod 2 = 1 := by rw [Int.tmod_eq_emod_of_nonneg (by omega)]; omega
    have e3 : (k : Int) / 2 = (m : Int) := by omega
    have e4 : (k : Int).tdiv 2 = (m : Int) := by rw [Int.tdiv_eq_ediv_of_nonneg (by omega)]; omega
    have hmn : m < (pb ds).length := by omega
    rcases hacc.2 with ⟨_, h0⟩ | ⟨g, cap, cur, rfl, hbg, hg, hnc, hcm, hcs, ht⟩
    · omega
    obtain ⟨x, hx⟩ : ∃ x, x = 16 * d := ⟨_, rfl⟩
    have vor : bits .or .u8 (x : Int) (v : Int) = ((x + v : Nat) : Int) := by rw [hx]; exact or16 d hd16 v hv16
    rw [← hx] at hset hget
    obtain ⟨n, hn⟩ : ∃ n, n = (pb ds).length := ⟨_, rfl⟩
    rw [← hn] at hmn
    have c1 : w.cell? ⟨g, m, none⟩ = some (.int .u8 (x : Int)) := by
      obtain ⟨b, off, e, _, hc⟩ := (Acc.rd hacc).at_ (by omega)
      injection e with e
      injection e with e1 e2
      subst e1 e2
      have := hc m (by omega)
      rw [Nat.zero_add, hget] at this
      exact this
    have f1 : w.frozen? ⟨g, m, none⟩ = false := frozen_of_row _ _ _ _ _ hg
    have hmn' : (m : Int) < (n : Int) := by omega
    have hne : g ≠ Bv := fun e => by subst e; rw [hg] at hb; injection hb with hb; injection hb with _ h2 _; exact absurd h2 (by decide)
    have FIN : InvB B0 Bv (ds ++ [v]) (w.setCell ⟨g, m, none⟩ (.int .u8 ((x + v : Nat) : Int))) ∧ Kp w (w.setCell ⟨g, m, none⟩ (.int .u8 ((x + v : Nat) : Int))) ∧ Below B0 w (w.setCell ⟨g, m, none⟩ (.int .u8 ((x + v : Nat) : Int))) := by
      refine ⟨⟨_, by rw [Below.heap_setCell _ ⟨g, m, none⟩ _ Bv (fun e => hne e.symm)]; exact hb, by rw [hset]; exact hacc.set m (x + v)⟩, kp_of fun i hi => ?_, (Below.refl B0 w).setCell (p := ⟨g, m, none⟩) hbg _⟩
      by_cases e : i = g
      · subst e; exact .inr ⟨_, _, _, hg, by decide⟩
      · exact .inl (Below.heap_setCell _ ⟨g, m, none⟩ _ i e)
    have FINH := Lib.hid FIN
    rw [← hn] at c0
    clear FIN hb hacc hpl hl hds hset hget hg hnc hcm hcs ht hx hn hd h2 hm
    go_enter Tryd.func68, Tryd.ntmps68
    go_wp2_with fail
    go_ret
    exact ⟨rfl, FINH.out⟩

theorem runesF_len (s : ByteArray) : ∀ f pos, (runesF s f pos).length ≤ f
  | 0, _ => Nat.le_refl _
  | f + 1, pos => by
    unfold runesF
    split
    · have := runesF_len s f (pos + (Utf8.decode s pos).2); simp only [List.length_cons]; omega
    · simp
theorem scan_len {σ : Type} {step : σ → Nat → Nat → Except Nat σ} : ∀ (rs : List Nat) (k : Nat) (x : σ), (scan step rs k x).1.1 ≤ k + rs.length
  | [], k, x => by unfold scan; split <;> simp
  | r :: rs, k, x => by
    unfold scan
    split
    · simp
    · split
      · have := scan_len (step := step) rs (k + 1) x; simp only [List.length_cons]; omega
      · split
        · rename_i y _
          have := scan_len (step := step) rs (k + 1) y; simp only [List.length_cons]; omega
        · simp
/-- The bytes of a text, and what is wrong with it. -/
def bresQ (q : (Nat × Nat × Nat) × List Nat) : List Nat × Nat × Nat := if q.1.2.1 = 0 then (if q.1.1 % 2 = 1 then ([], 2, 2 + q.1.1) else (pb q.2, 0, q.1.2.2)) else ([], q.1.2.1, q.1.2.2)
def bres (s : ByteArray) : List Nat × Nat × Nat := bresQ (scan stepB (runesAt s 0) 0 [])

set_option maxRecDepth 100000 in
set_option maxHeartbeats 6400000 in
theorem bytes_h (s : ByteArray) (w : World) (hs : s.size ≤ 140737488355328) : Calls Tryd.prog 55 #[.string s] w fun e w' =>
    ∃ v, e = .returned (.tuple #[v, .agg #[.int .i64 ((bres s).2.1 : Nat), .int .i64 ((bres s).2.2 : Nat)]]) ∧ Acc w' w.heap.size v (bres s).1 ∧ Below w.heap.size w w' := by
  obtain ⟨i0, hi, hz0, hz1, hz2⟩ := info_parts info8
  obtain ⟨q, hqq⟩ : ∃ q, q = scan stepB (runesAt s 0) 0 [] := ⟨_, rfl⟩
  have hq9 : q.1.1 ≤ 140737488355328 := by
    rw [hqq]
    have := scan_len (step := stepB) (runesAt s 0) 0 []
    have h2 := runesF_len s (s.size - 0) 0
    have : (runesAt s 0).length ≤ s.size := h2
    omega
  have hbr : bres s = bresQ q := by unfold bres; rw [← hqq]
  rw [hbr]
  have HQQ := Lib.hid hqq
  clear hqq hbr
  obtain ⟨m, hm⟩ : ∃ m, m = s.size / 2 := ⟨_, rfl⟩
  have e1 : (s.size : Int) / 2 = (m : Int) := by omega
  have e2 : (s.size : Int).tdiv 2 = (m : Int) := by rw [Int.tdiv_eq_ediv_of_nonneg (by omega)]; omega
  have hmk : ∀ W : World, (Instr.makeSlice 31 (.int .i64 0) (.int .i64 (m : Int))).run Tryd.prog W = .ok (.slice (some ⟨W.heap.size, 0, none⟩) 0 m) (W.alloc (.cells (madeCells #[Value.int .u8 0] m) 5)) := fun W => by
    have h := run_make (P := Tryd.prog) W 31 5 i0 (.int .u8 0) Tryd.underlying31 hi hz0 .i64 .i64 0 m (by omega) (by omega) (by rw [hz2]; omega) (by omega)
    rw [h, hz1]; simp [Value.cells]
  have hm0 : m ≤ 70368744177664 := by omega
  clear hm
  go_enter Tryd.func55, Tryd.ntmps55
  go_upto_region 2 with (fail)
  have b1 := (Below.refl w.heap.size w).alloc (Nat.le_refl _) (.cells #[.int .i64 0, .int .i64 0] 44)
  have b2 := b1.alloc (by simp) (.cells (madeCells #[Value.int .u8 0] m) 5)
  have b3 := b2.alloc (by simp; omega) (.cells #[.slice (some ⟨w.heap.size + 1, 0, none⟩) 0 m] 31)
  have hf : (((w.alloc (.cells #[.int .i64 0, .int .i64 0] 44)).alloc (.cells (madeCells #[Value.int .u8 0] m) 5)).alloc (.cells #[.slice (some ⟨w.heap.size + 1, 0, none⟩) 0 m] 31)).heap[w.heap.size]? = some (.cells #[.int .i64 0, .int .i64 0] 44 (0, 0)) := by
    rw [Below.heap_alloc _ _ _ (by simp; omega), Below.heap_alloc _ _ _ (by simp)]; exact heap_alloc_new w _
  have hg : (((w.alloc (.cells #[.int .i64 0, .int .i64 0] 44)).alloc (.cells (madeCells #[Value.int .u8 0] m) 5)).alloc (.cells #[.slice (some ⟨w.heap.size + 1, 0, none⟩) 0 m] 31)).heap[w.heap.size + 1]? = some (.cells (madeCells #[Value.int .u8 0] m) 5 (0, 0)) := by
    rw [Below.heap_alloc _ _ _ (by simp)]
    have := heap_alloc_new (w.alloc (.cells #[.int .i64 0, .int .i64 0] 44)) (.cells (madeCells #[Value.int .u8 0] m) 5)
    simpa using this
  have hv : (((w.alloc (.cells #[.int .i64 0, .int .i64 0] 44)).alloc (.cells (madeCells #[Value.int .u8 0] m) 5)).alloc (.cells #[.slice (some ⟨w.heap.size + 1, 0, none⟩) 0 m] 31)).heap[w.heap.size + 2]? = some (.cells #[.slice (some ⟨w.heap.size + 1, 0, none⟩) 0 m] 31 (0, 0)) := by
    have := heap_alloc_new ((w.alloc (.cells #[.int .i64 0, .int .i64 0] 44)).alloc (.cells (madeCells #[Value.int .u8 0] m) 5)) (.cells #[.slice (some ⟨w.heap.size + 1, 0, none⟩) 0 m] 31)
    simpa using this
  have hXs : w.heap.size + 3 ≤ (((w.alloc (.cells #[.int .i64 0, .int .i64 0] 44)).alloc (.cells (madeCells #[Value.int .u8 0] m) 5)).alloc (.cells #[.slice (some ⟨w.heap.size + 1, 0, none⟩) 0 m] 31)).heap.size := by simp
  generalize (((w.alloc (.cells #[.int .i64 0, .int .i64 0] 44)).alloc (.cells (madeCells #[Value.int .u8 0] m) 5)).alloc (.cells #[.slice (some ⟨w.heap.size + 1, 0, none⟩) 0 m] 31)) = X at *
  clear b1 b2
  have hI : InvB (w.heap.size + 1) (w.heap.size + 2) [] X := ⟨_, hv, ⟨rfl, .inr ⟨w.heap.size + 1, m, _, rfl, Nat.le_refl _, hg, Nat.zero_le _, by unfold maxLen; omega, by simp [madeCells], by simp [pb, bv]⟩⟩⟩
  have C1 := digits_c (Inv := InvB (w.heap.size + 1) (w.heap.size + 2)) (ok := okB) (step := stepB) (x0 := []) (c := .pointer (some ⟨w.heap.size + 2, 0, none⟩)) s X hs (by omega) (bytes_reader (w.heap.size + 1) (w.heap.size + 2) (by omega)) ⟨rfl, fun x hx => by cases hx⟩ (fun x k v y hv ⟨h1, h2⟩ h => by
      injection h with h; subst h; exact ⟨by simp [h1], fun z hz => by
        rcases List.mem_append.1 hz with hz | hz
        · exact h2 z hz
        · simp at hz; omega⟩) hI (fun x w w' ⟨u, h1, h2⟩ hq => ⟨u, hq.2 _ _ _ _ (by decide) h1, acc_q h2 hq⟩) (fun args w => by go_simp)
  rw [← HQQ.out] at C1
  have C1 := Lib.hid C1
  have HB3 := Lib.hid b3
  have HF := Lib.hid hf
  clear hI hv hg hf b3
  go_wp2_with fail
  (with_reducible refine C1.out.mono ?_)
  rintro e w1 ⟨rfl, hinv, hbel⟩
  have hf1 := (hbel.block w.heap.size (by omega)).trans HF.out
  obtain ⟨c0, c1, f0, f1⟩ := two_cells hf1
  have hs1 : w.heap.size + 3 ≤ w1.heap.size := Nat.le_trans hXs hbel.size
  have HB4 := Lib.hid (HB3.out.trans (hbel.mono (by omega)))
  have HINV := Lib.hid hinv
  have HF1 := Lib.hid hf1
  clear C1 hbel hinv hf1 HF HB3 hmk e1 e2
  by_cases hq0 : q.1.2.1 = 0
  · have HI := Lib.hid (HINV.out hq0)
    clear HINV
    by_cases hodd : q.1.1 % 2 = 1
    · have hbr : bresQ q = ([], 2, 2 + q.1.1) := by unfold bresQ; rw [if_pos hq0, if_pos hodd]
      have hat : q.1.2.2 = q.1.2.2 := rfl
      generalize q.1.1 = n at *
      rw [hq0]
      generalize q.1.2.2 = at_ at *
      have HBR := Lib.hid hbr
      clear hat hq0 HQQ hbr
      have n1 : (n : Int) % 2 = 1 := by omega
      have n2 : (n : Int).tmod 2 = 1 := by rw [Int.tmod_eq_emod_of_nonneg (by omega)]; omega
      clear hodd
      have C2 := Lib.hid (early_c (n : Int) (by omega) (by omega) (w1.alloc (.cells #[.int .i64 0, .int .i64 (at_ : Nat)] 44)))
      have hg1 := heap_alloc_new w1 (.cells #[.int .i64 0, .int .i64 (at_ : Nat)] 44)
      have hf2 := (Below.heap_alloc w1 (.cells #[.int .i64 0, .int .i64 (at_ : Nat)] 44) w.heap.size (by omega)).trans HF1.out
      have HB5 := Lib.hid (HB4.out.alloc (by omega) (.cells #[.int .i64 0, .int .i64 (at_ : Nat)] 44))
      have HS5 := Lib.hid (show (w1.alloc (.cells #[.int .i64 0, .int .i64 (at_ : Nat)] 44)).heap.size = w1.heap.size + 1 by simp)
      have HG1 := Lib.hid hg1
      have HF2 := Lib.hid hf2
      clear hg1 hf2
      go_wp2_with fail
      (with_reducible refine C2.out.mono ?_)
      rintro e w2 ⟨rfl, hb2⟩
      have hg2 := (hb2.block w1.heap.size (by have := HS5.out; omega)).trans HG1.out
      have hf2 := (hb2.block w.heap.size (by have := HS5.out; omega)).trans HF2.out
      have HB6 := Lib.hid (HB5.out.trans (hb2.mono (by have := HS5.out; omega)))
      have hs2 : w1.heap.size + 1 ≤ w2.heap.size := by have := hb2.size; have := HS5.out; omega
      clear c0 c1 f0 f1 C2 hb2 HG1 HF2 HB5 HS5 HI
      obtain ⟨c0, c1, f0, f1⟩ := two_cells hf2
      obtain ⟨d0, d1, g0, g1⟩ := two_cells hg2
      go_wp2_with fail
      go_region
      go_wp2_with fail
      refine bodyPost_ret (v := .tuple #[.slice none 0 0, .agg #[.int .i64 2, .int .i64 (2 + (n : Int))]]) (by simp [results, Tryd.results55, go_sem, c0, c1]) rfl ⟨.slice none 0 0, ?_, ?_, ?_⟩
      · rw [HBR.out]; simp
      · rw [HBR.out]; exact Acc.nil _ _
      · exact ((((HB6.out.setCell (p := ⟨w1.heap.size, 0, none⟩) (by show w.heap.size ≤ w1.heap.size; omega) _).setCell (p := ⟨w1.heap.size, 1, none⟩) (by show w.heap.size ≤ w1.heap.size; omega) _).setCell (p := ⟨w.heap.size, 0, none⟩) (Nat.le_refl _) _).setCell (p := ⟨w.heap.size, 1, none⟩) (Nat.le_refl _) _).trans (Below.drewN_ _ _ 1)
    · have hbr : bresQ q = (pb q.2, 0, q.1.2.2) := by unfold bresQ; rw [if_pos hq0, if_neg hodd]
      have hat : q.1.2.2 = q.1.2.2 := rfl
      generalize q.1.1 = n at *
      rw [hq0]
      generalize q.1.2.2 = at_ at *
      obtain ⟨u, hb, hacc⟩ := HI.out
      generalize pb q.2 = bs at *
      have HBR := Lib.hid hbr
      clear HI hat hq0 HQQ hbr
      have n1 : (n : Int) % 2 = 0 := by omega
      have n2 : (n : Int).tmod 2 = 0 := by rw [Int.tmod_eq_emod_of_nonneg (by omega)]; omega
      clear hodd
      obtain ⟨A, c, rfl⟩ := hacc.form
      obtain ⟨bl, hbl⟩ : ∃ bl, bl = bs.length := ⟨_, rfl⟩
      rw [← hbl] at hb hacc
      have hg1 := heap_alloc_new w1 (.cells #[.int .i64 0, .int .i64 (at_ : Nat)] 44)
      have hb2 := (Below.heap_alloc w1 (.cells #[.int .i64 0, .int .i64 (at_ : Nat)] 44) (w.heap.size + 2) (by omega)).trans hb
      have hf2 := (Below.heap_alloc w1 (.cells #[.int .i64 0, .int .i64 (at_ : Nat)] 44) w.heap.size (by omega)).trans HF1.out
      have HB5 := Lib.hid (HB4.out.alloc (by omega) (.cells #[.int .i64 0, .int .i64 (at_ : Nat)] 44))
      have HACC := Lib.hid (acc_q hacc (kq_alloc w1 (.cells #[.int .i64 0, .int .i64 (at_ : Nat)] 44)))
      have HF2 := Lib.hid hf2
      clear c0 c1 f0 f1 hb hacc hbl
      obtain ⟨c0, c1, f0, f1⟩ := two_cells hf2
      obtain ⟨d0, d1, g0, g1⟩ := two_cells hg1
      obtain ⟨e0, -⟩ := one_cell hb2
      clear hf2 hg1 hb2
      go_wp2_with fail
      go_region
      go_wp2_with fail
      refine bodyPost_ret (v := .tuple #[.slice A bl c, .agg #[.int .i64 0, .int .i64 (at_ : Nat)]]) (by simp [results, Tryd.results55, go_sem, c0, c1]) rfl ⟨.slice A bl c, ?_, ?_, ?_⟩
      · rw [HBR.out]; rfl
      · rw [HBR.out]; exact (acc_q HACC.out ((kq_put2 HF2.out _ _).trans (kq_drew _))).mono (by omega)
      · exact ((HB5.out.setCell (p := ⟨w.heap.size, 0, none⟩) (Nat.le_refl _) _).setCell (p := ⟨w.heap.size, 1, none⟩) (Nat.le_refl _) _).drew
  · have hbr : bresQ q = ([], q.1.2.1, q.1.2.2) := by unfold bresQ; rw [if_neg hq0]
    have hat : q.1.2.2 = q.1.2.2 := rfl
    generalize q.1.1 = n at *
    generalize q.1.2.1 = y at *
    generalize q.1.2.2 = at_ at *
    have HBR := Lib.hid hbr
    clear HINV hat HQQ hbr
    have hne : ((y : Int) == 0) = false := beq_eq_false_iff_ne.2 (by omega)
    have hne2 : ((y : Int) != 0) = true := by simp; omega
    have hne3 : ¬ ((y : Int) = 0) := by omega
    have hg1 := heap_alloc_new w1 (.cells #[.int .i64 (y : Nat), .int .i64 (at_ : Nat)] 44)
    have hf2 := (Below.heap_alloc w1 (.cells #[.int .i64 (y : Nat), .int .i64 (at_ : Nat)] 44) w.heap.size (by omega)).trans HF1.out
    have HB5 := Lib.hid (HB4.out.alloc (by omega) (.cells #[.int .i64 (y : Nat), .int .i64 (at_ : Nat)] 44))
    clear c0 c1 f0 f1
    obtain ⟨c0, c1, f0, f1⟩ := two_cells hf2
    obtain ⟨d0, d1, g0, g1⟩ := two_cells hg1
    clear hf2 hg1 hq0
    go_wp2_with fail
    go_region
    go_wp2_with fail
    refine bodyPost_ret (v := .tuple #[.slice none 0 0, .agg #[.int .i64 (y : Nat), .int .i64 (at_ : Nat)]]) (by simp [results, Tryd.results55, go_sem, c0, c1]) rfl ⟨.slice none 0 0, ?_, ?_, ?_⟩
    · rw [HBR.out]
    · rw [HBR.out]; exact Acc.nil _ _
    · exact ((HB5.out.setCell (p := ⟨w.heap.size, 0, none⟩) (Nat.le_refl _) _).setCell (p := ⟨w.heap.size, 1, none⟩) (Nat.le_refl _) _).drew
end Go.Proofs.YtopeahjdglkheaaDoor
