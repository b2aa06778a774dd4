/- The contracts of package quarryref02's Add and Sub. -/
import Derived.Test.YtiflfcdegpmhnaaRTrim
import Derived.OwnWalk
import Derived.Outline
namespace Go.Proofs.Ytiflfcdegpmhnaa
open Go.RowKit

theorem info32 : (Try.prog.info? 98).map (fun i => (i.zero, i.size, i.bytes)) = some (some (.int .u32 0), 1, 4) := by kernel_rfl
/-- make of digits of 32 bits. -/
theorem mk32 (z : Int) (n : Nat) (hz : z = n) (hn : n ≤ 67108864) (W : World) : (Instr.makeSlice 70 (.int .i64 z) (.int .i64 z)).run Try.prog W =
    .ok (.slice (some ⟨W.heap.size, 0, none⟩) n n) (W.alloc (.cells (madeCells #[Value.int .u32 0] n) 98)) := by
  obtain ⟨i0, hi, hz0, hz1, hz2⟩ := info_parts info32
  subst hz
  have h := run_make (P := Try.prog) W 70 98 i0 (.int .u32 0) Try.underlying70 hi hz0 .i64 .i64 n n (by omega) (by omega) (by rw [hz2]; omega) (by omega)
  rw [h, hz1]
  simp [Value.cells]

set_option maxRecDepth 100000 in
set_option maxHeartbeats 3200000 in
theorem radd_c {A B : Option Addr} {c d a b : Nat} {xs ys : List Nat} (w : World) (h : Rd .u32 w A c xs) (h' : Rd .u32 w B d ys) (hx : Can 4294967296 xs a) (hy : Can 4294967296 ys b) (hl : xs.length ≤ 16777216) (hl' : ys.length ≤ 16777216) :
    Calls Try.prog 47 #[.slice A xs.length c, .slice B ys.length d] w (RetR (fun w' v => Num w' v (a + b) (max xs.length ys.length + 1)) w) := by
  obtain ⟨N, hN⟩ : ∃ N, N = max xs.length ys.length := ⟨_, rfl⟩
  have h1 : xs.length ≤ N := by omega
  have h2 : ys.length ≤ N := by omega
  have h3 : N ≤ 16777216 := by omega
  rcases (show (xs.length < ys.length ∧ N = ys.length) ∨ (ys.length ≤ xs.length ∧ N = xs.length) by omega) with ⟨hc, hN'⟩ | ⟨hc, hN'⟩
  all_goals
    have HN := Lib.hid hN
    have hmk := mk32 ((N : Int) + 1) (N + 1) (by omega) (by omega)
    rw [hN'] at hmk
    have HN' := Lib.hid hN'
    clear hN hN'
    go_enter Try.func47, Try.ntmps47
    go_wp2_with fail
    clear hmk
    have hNa : (if xs.length < ys.length then ys.length else xs.length) = N := by rw [HN'.out]; split <;> omega
    have HNa := Lib.hid hNa
    clear hNa
    go_loopw [7, 8, 9] (fun cr i _ wr => ∃ (k cc : Nat) (zs : List Nat), k ≤ N + 1 ∧ cr = .int .u64 cc ∧ i = .int .i64 k ∧ cc ≤ 1 ∧ zs.length = N + 1 ∧ Ds 4294967296 zs ∧ SumInv 4294967296 xs ys k cc zs ∧ Row .u32 wr w.heap.size 98 zs ∧ Below w.heap.size w wr)
      (fun _ i _ _ => N + 1 - (intOf i).toNat)
    case atStart =>
      refine ⟨0, 0, List.replicate (N + 1) 0, by omega, rfl, rfl, by omega, List.length_replicate, Ds.zeros (by omega) _, by simp [SumInv, dv], ?_, (Below.refl _ _).alloc (Nat.le_refl _) _⟩
      have := Row.made (k := .u32) w 98 (N + 1)
      rw [HN'.out] at this ⊢
      exact this
    case round =>
      obtain ⟨k, cc, zs, hk, rfl, rfl, hc1, hlen, hds, hinv, hrow, hbel⟩ := hrel
      have R1 := Lib.hid (h.below hbel)
      have R2 := Lib.hid (h'.below hbel)
      have X := Lib.hid hx
      have Y := Lib.hid hy
      have HL := Lib.hid hlen
      have hn1 : N ≤ (if xs.length < ys.length then ys.length else xs.length) := by rw [HNa.out]; exact Nat.le_refl _
      clear h h' hx hy hlen hn1
      by_cases hlt : k < N + 1
      · obtain ⟨x, ex⟩ : ∃ x, x = xs.getD k 0 := ⟨_, rfl⟩
        obtain ⟨y, ey⟩ : ∃ y, y = ys.getD k 0 := ⟨_, rfl⟩
        have bx : (x : Int) < 4294967296 := by have := X.out.1.get (by omega) k; omega
        have by_ : (y : Int) < 4294967296 := by have := Y.out.1.get (by omega) k; omega
        have EX := Lib.hid ex
        have EY := Lib.hid ey
        have cz := hrow.cell k (by rw [HL.out]; omega)
        have fz := hrow.frozen k
        clear ex ey
        have hx2 : x = 0 ∨ k < xs.length := by
          rcases Nat.lt_or_ge k xs.length with h | h
          · exact .inr h
          · left; rw [EX.out, List.getD_eq_getElem?_getD, List.getElem?_eq_none h]; rfl
        have hy2 : y = 0 ∨ k < ys.length := by
          rcases Nat.lt_or_ge k ys.length with h | h
          · exact .inr h
          · left; rw [EY.out, List.getD_eq_getElem?_getD, List.getElem?_eq_none h]; rfl
        have HX2 := Lib.hid hx2
        have HY2 := Lib.hid hy2
        have hNN := HN'.out
        have hk2 : (k : Int) < (N : Int) + 1 := by omega
        rw [hNN] at hk2
        clear hx2 hy2 hNN
        by_cases kx : k < xs.length <;> by_cases ky : k < ys.length
        all_goals
          first
          | (exfalso; omega)
          | (
            try (
              obtain ⟨b1, o1, rfl, hb1, hc1⟩ := R1.out.at_ (by omega)
              have cx := hc1 k kx
              rw [← EX.out] at cx
              clear hc1)
            try (
              obtain ⟨b2, o2, rfl, hb2, hc2⟩ := R2.out.at_ (by omega)
              have cy := hc2 k ky
              rw [← EY.out] at cy
              clear hc2)
            go_wp2_with fail
            have hx3 : x = 0 ∨ k < xs.length := HX2.out
            have hy3 : y = 0 ∨ k < ys.length := HY2.out
            go_roundw
            case rel =>
              refine ⟨k + 1, (cc + x + y) / 4294967296, zs.set k ((cc + x + y) % 4294967296), by omega, ?_, by go_num, by omega, by rw [List.length_set]; exact HL.out, hds.set _ _ (by omega), ?_, hrow.set' k _ _ (by omega), hbel.setCell (Nat.le_refl _) _⟩
              · congr 1 <;> omega
              · rw [EX.out, EY.out]; exact sum_step hinv (by rw [HL.out]; omega)
            case measure => simp [intOf] <;> omega)
      · obtain rfl : k = N + 1 := by omega
        have hnl : ¬ ((N : Int) + 1 < (N : Int) + 1) := by omega
        have hNN := HN'.out
        rw [hNN] at hnl
        clear hNN
        go_wp2_with fail
        have he := sum_end (by omega) hinv HL.out X.out.1 Y.out.1 h1 h2
        rw [X.out.2.1, Y.out.2.1] at he
        have hrd := hrow.rd0
        rw [HL.out] at hrd
        have hN2 := HN'.out
        rw [hN2] at hrd
        have hl2 := HL.out
        rw [hN2] at hl2
        refine (rtrim_n _ hrd hl2 hds (by omega)).mono ?_
        rintro e w' ⟨v, rfl, hv, rfl⟩
        rw [he] at hv
        have HV := Lib.hid hv
        have HNN := Lib.hid hN2
        clear hv he hl2 hN2 hrd
        go_wp2_with fail
        go_ret
        exact ⟨v, rfl, by rw [← HN.out]; rw [HNN.out]; exact HV.out, hbel⟩
theorem radd_n {u v : Value} {a b L M : Nat} (w : World) (h : Num w u a L) (h' : Num w v b M) (hL : L ≤ 16777216) (hM : M ≤ 16777216) :
    Calls Try.prog 47 #[u, v] w (RetR (fun w' v => Num w' v (a + b) (max L M + 1)) w) := by
  obtain ⟨A, c, xs, rfl, h1, h2, h3⟩ := h
  obtain ⟨B, d, ys, rfl, g1, g2, g3⟩ := h'
  exact (radd_c w h1 g1 h2 g2 (by omega) (by omega)).mono fun e w' ⟨v, he, hv, hb⟩ => ⟨v, he, hv.mono (by omega), hb⟩
end Go.Proofs.Ytiflfcdegpmhnaa
