/- What package nat tells is the caller's own: each call in one form, whatever comes out; and quarrykeep's Loan and Book beside it. -/
import Derived.Test.YtakojlgoelbjmaaOwClose
import Derived.Test.YtakojlgoelbjmaaNExp
import Derived.Test.YtakojlgoelbjmaaNCmp
import Derived.Test.YtakojlgoelbjmaaNWakes
import Derived.Test.YtakojlgoelbjmaaNFrame
namespace Go.Proofs.Ytakojlgoelbjmaa
open Go.RowKit

def Fact.ob (B : Nat) (bs : List Nat) : Fact := ⟨fun v w => OwnB B w v bs, fun _ _ _ hb h => h.below hb⟩

theorem can_len {zs : List Nat} {n m : Nat} (h : Can 256 zs.reverse n) (hn : n < 256 ^ m) : zs.length ≤ m := by
  have := h.len_le (m := m) (by omega) hn
  rwa [List.length_reverse] at this
theorem dv_lt' {xs : List Nat} (h : Ds 256 xs) {m : Nat} (hl : xs.length ≤ m) : dv 256 xs.reverse < 256 ^ m := by
  have := dv_lt xs.reverse h.reverse
  rw [List.length_reverse] at this
  exact Nat.lt_of_lt_of_le this (Nat.pow_le_pow_right (by omega) hl)
/-- One answer, the caller's own. -/
def OwnOne (w : World) (e : Ending) (w' : World) : Prop := ∃ (v : Value) (zs : List Nat), e = .returned v ∧ OwnB w.heap.size w' v zs ∧ zs.length ≤ 1048576 ∧ Below w.heap.size w w'
/-- .. and a bool. -/
def OwnOneB (w : World) (e : Ending) (w' : World) : Prop := ∃ (v : Value) (b : Bool) (zs : List Nat), e = .returned (.tuple #[v, .bool b]) ∧ OwnB w.heap.size w' v zs ∧ zs.length ≤ 1048576 ∧ Below w.heap.size w w'
/-- Two answers in blocks of their own, and a bool. -/
def OwnTwo (w : World) (e : Ending) (w' : World) : Prop := ∃ (u v : Value) (b : Bool) (xs zs : List Nat), e = .returned (.tuple #[u, v, .bool b]) ∧ OwnB w.heap.size w' u xs ∧ xs.length ≤ 1048576 ∧ OwnB w.heap.size w' v zs ∧ zs.length ≤ 1048576 ∧ (∀ k, u.ownBlock = some k → v.ownBlock ≠ some k) ∧ Below w.heap.size w w'

section
variable {A B C : Option Addr} {c d f : Nat} {xs ys zs : List Nat} {w : World}
theorem trim_any (h : Rd .u8 w A c xs) (hx : Ds 256 xs) (hl : xs.length ≤ 4096) : Calls Try.prog 9 #[.slice A xs.length c] w (OwnOne w) :=
  (trim_o w h hx (by omega)).mono fun _ _ ⟨v, e, ⟨zs, h1, h2⟩, hb⟩ => ⟨v, zs, e, h1, Nat.le_trans (can_len h2 (dv_lt' hx hl)) (by omega), hb⟩
theorem add_any (h : Rd .u8 w A c xs) (k : Rd .u8 w B d ys) (hx : Ds 256 xs) (hy : Ds 256 ys) (hl : xs.length ≤ 4096) (hl' : ys.length ≤ 4096) : Calls Try.prog 11 #[.slice A xs.length c, .slice B ys.length d] w (OwnOne w) :=
  (add_o w h k hx hy (by omega) (by omega)).mono fun _ _ ⟨v, e, ⟨zs, h1, h2⟩, hb⟩ => ⟨v, zs, e, h1, by
    obtain ⟨N, hN⟩ : ∃ N, N = 4096 := ⟨_, rfl⟩
    rw [← hN] at hl hl'
    have := can_len h2 (lt_add256 (dv_lt' hx hl) (dv_lt' hy hl'))
    omega, hb⟩
theorem mul_any (h : Rd .u8 w A c xs) (k : Rd .u8 w B d ys) (hx : Ds 256 xs) (hy : Ds 256 ys) (hl : xs.length ≤ 4096) (hl' : ys.length ≤ 4096) : Calls Try.prog 13 #[.slice A xs.length c, .slice B ys.length d] w (OwnOne w) :=
  (mul_o w h k hx hy (by omega) (by omega)).mono fun _ _ ⟨v, e, ⟨zs, h1, h2⟩, hb⟩ => ⟨v, zs, e, h1, by
    obtain ⟨N, hN⟩ : ∃ N, N = 4096 := ⟨_, rfl⟩
    rw [← hN] at hl hl'
    have := can_len h2 (lt_mul256 (dv_lt' hx hl) (dv_lt' hy hl'))
    omega, hb⟩
theorem sub_any (h : Rd .u8 w A c xs) (k : Rd .u8 w B d ys) (hx : Ds 256 xs) (hy : Ds 256 ys) (hl : xs.length ≤ 4096) (hl' : ys.length ≤ 4096) : Calls Try.prog 12 #[.slice A xs.length c, .slice B ys.length d] w (OwnOneB w) := by
  rcases Nat.lt_or_ge (dv 256 xs.reverse) (dv 256 ys.reverse) with hlt | hge
  · exact (sub_no w h k hx hy (by omega) (by omega) hlt).mono fun _ w' ⟨e, hw⟩ => ⟨_, false, [], e, OwnB.nil _ _, by simp, by rw [hw]; exact Below.refl _ _⟩
  · exact (sub_o w h k hx hy (by omega) (by omega) hge).mono fun _ _ ⟨v, e, ⟨zs, h1, h2⟩, hb⟩ => ⟨v, true, zs, e, h1, Nat.le_trans (can_len h2 (Nat.lt_of_le_of_lt (Nat.sub_le _ _) (dv_lt' hx hl))) (by omega), hb⟩
theorem dm_any (h : Rd .u8 w A c xs) (k : Rd .u8 w B d ys) (hx : Ds 256 xs) (hy : Ds 256 ys) (hl : xs.length ≤ 4096) (hl' : ys.length ≤ 4096) : Calls Try.prog 14 #[.slice A xs.length c, .slice B ys.length d] w (OwnTwo w) := by
  rcases Nat.eq_zero_or_pos (dv 256 ys.reverse) with h0 | h0
  · exact (divmod_no w k hy (by omega) h0).mono fun _ w' ⟨e, hb⟩ => ⟨_, _, false, [], [], e, OwnB.nil _ _, by simp, OwnB.nil _ _, by simp, (fun k h => by cases h), hb⟩
  · exact (divmod_o w h k hx hy (by omega) (by omega) h0).mono fun _ _ ⟨u, v, e, ⟨us, h1, h2⟩, ⟨vs, h3, h4⟩, hne, hb⟩ => ⟨u, v, true, us, vs, e, h1, Nat.le_trans (can_len h2 (Nat.lt_of_le_of_lt (Nat.div_le_self _ _) (dv_lt' hx hl))) (by omega), h3,
      Nat.le_trans (can_len h4 (Nat.lt_of_le_of_lt (Nat.mod_le _ _) (dv_lt' hx hl))) (by omega), hne, hb⟩
theorem exp_any (h : Rd .u8 w A c xs) (k : Rd .u8 w B d ys) (m : Rd .u8 w C f zs) (hx : Ds 256 xs) (hy : Ds 256 ys) (hz : Ds 256 zs) (hl : xs.length ≤ 4096) (hl' : ys.length ≤ 4096) (hl2 : zs.length ≤ 4096) : Calls Try.prog 15 #[.slice A xs.length c, .slice B ys.length d, .slice C zs.length f] w (OwnOne w) := by
  rcases Nat.eq_zero_or_pos (dv 256 zs.reverse) with h0 | h0
  · exact (modexp_no w m hz (by omega) h0).mono fun _ w' ⟨e, hb⟩ => ⟨_, [], e, OwnB.nil _ _, by simp, hb⟩
  · exact (modexp_o w h k m hx hy hz (by omega) (by omega) (by omega) h0).mono fun _ _ ⟨v, e, ⟨vs, h1, h2⟩, hb⟩ => ⟨v, vs, e, h1, Nat.le_trans (can_len h2 (Nat.lt_trans (Nat.mod_lt _ h0) (dv_lt' hz hl2))) (by omega), hb⟩
theorem fill_any (h : Rd .u8 w A c xs) (hx : Ds 256 xs) (hl : xs.length ≤ 4096) : Calls Try.prog 16 #[.slice A xs.length c, .int .i64 (xs.length : Nat)] w (OwnOneB w) :=
  (fill_o w h hx (by omega) xs.length (sd_len xs) (by omega)).mono fun _ _ ⟨v, e, ⟨l, h1, h2, _⟩, hb⟩ => ⟨v, true, l, e, h1, by omega, hb⟩
theorem cmp_any (h : Rd .u8 w A c xs) (k : Rd .u8 w B d ys) (hx : Ds 256 xs) (hy : Ds 256 ys) (hl : xs.length ≤ 4096) (hl' : ys.length ≤ 4096) : Calls Try.prog 17 #[.slice A xs.length c, .slice B ys.length d] w fun e w' => (∃ z : Int, e = .returned (.int .i64 z)) ∧ w' = w :=
  (cmp_n w h k hx hy (by omega) (by omega)).mono fun _ _ ⟨e, hw⟩ => ⟨⟨_, e⟩, hw⟩
theorem bits_any (h : Rd .u8 w A c xs) (hx : Ds 256 xs) (hl : xs.length ≤ 4096) : Calls Try.prog 18 #[.slice A xs.length c] w fun e w' => (∃ z : Int, e = .returned (.int .i64 z)) ∧ w' = w :=
  (bits_n w h hx (by omega)).mono fun _ _ ⟨e, hw⟩ => ⟨⟨_, e⟩, hw⟩
theorem bit_any (h : Rd .u8 w A c xs) (hx : Ds 256 xs) (hl : xs.length ≤ 4096) : Calls Try.prog 19 #[.slice A xs.length c, .int .i64 3] w fun e w' => (∃ z : Int, e = .returned (.int .i64 z)) ∧ w' = w :=
  (show Calls Try.prog 19 #[.slice A xs.length c, .int .i64 3] w _ from bit_n w h hx (by omega) 3 (by omega)).mono fun _ _ ⟨e, hw⟩ => ⟨⟨_, e⟩, hw⟩
set_option maxRecDepth 100000 in
theorem few_o (h : Rd .u8 w A c xs) (hx : Ds 256 xs) : Calls Try.prog 6 #[.slice A xs.length c] w (RetR (fun w' v => OwnB w.heap.size w' v (xs.take 600)) w) := by
  have q : Calls Try.prog 7 #[.slice A xs.length c, .int .i64 600] w (RetR (fun w' v => OwnB w.heap.size w' v (xs.take 600)) w) := twin_o w h hx 600 (by omega) (by omega)
  have C := Lib.hid q
  clear q
  generalize xs.length = L at *
  clear h hx
  go_enter Try.func6, Try.ntmps6
  go_wp2_with fail
  (with_reducible refine C.out.mono ?_)
  rintro e w1 ⟨v, rfl, hv, hb⟩
  go_wp2_with fail
  go_ret
  exact ⟨v, rfl, hv, hb⟩
end
section
variable {base gb gl : Nat} {role : Role} {w : World} {k : Nat}
theorem Keeps.lend0 (h : Keeps base gb gl role w k) (hk : k ≤ 1000000) : Calls Try.prog 10 #[.pointer (some ⟨gl, 0, none⟩), .slice none 0 0] w (Lent base gb gl role w k 0 []) :=
  h.lend (Rd.nil _) Ds.nil (by simp) hk
theorem Keeps.lend1 (h : Keeps base gb gl role w k) (hk : k ≤ 1000000) : Calls Try.prog 10 #[.pointer (some ⟨gl, 0, none⟩), .slice (some ⟨w.heap.size, 0, none⟩) 1 1] (w.alloc (.cells #[.int .u8 1] 5)) (Lent base gb gl role w k 1 [1]) := by
  have hb := (Below.refl w.heap.size w).alloc (Nat.le_refl _) (.cells #[.int .u8 1] 5)
  have hrow : Row .u8 (w.alloc (.cells #[.int .u8 1] 5)) w.heap.size 5 [1] := Row.new (k := .u8) w 5 [1]
  exact ((h.below hb).lend hrow.rd0 (fun z hz => by simp at hz; omega) (by simp) hk).mono fun e w' ⟨role', g, c', j, h1, h2, h3, h4, h5, h6⟩ =>
    ⟨role', g, c', j, h1, h2, h3, fun i hi => h4 i (Nat.lt_of_lt_of_le hi hb.size), (ChgR.of _ role hb).same h5, (hb.mono h.old.1).trans h6⟩
/-- What is lent, or has another role, in later worlds. -/
theorem B8.lent {r : Nat × Nat} {v : Value} {bs : List Nat} {role' : Role} {w' : World} (h : B8 role r w v bs) (hr : 8 ≤ r.1) (hc : ChgR (fun r => r.1 ≤ 7) role w w') (he : Ext role role') : B8 role' r w' v bs := h.keep hc (by show ¬ r.1 ≤ 7; omega) he
theorem B8.same {r : Nat × Nat} {v : Value} {bs : List Nat} {w' : World} (h : B8 role r w v bs) (hb : Below w.heap.size w w') : B8 role r w' v bs := h.keep (P := fun _ => False) (ChgR.of _ role hb) id (Ext.refl _)
theorem Keeps.ext (h : Keeps base gb gl role w k) {role' : Role} (he : ∀ i, i < w.heap.size → role' i = role i) : Ext role role' := ext_of h.old he
/-- What a call has told is nobody's yet, and still is when another list has been kept. -/
theorem Keeps.free (h : Keeps base gb gl role w k) {v : Value} {w2 : World} {bs : List Nat} (ha : OwnB w.heap.size w2 v bs) : ∀ i, v.ownBlock = some i → base ≤ i ∧ role i = none := fun i hi => by
  have h1 := ha.2 i hi
  exact ⟨Nat.le_trans h.old.1 h1, h.old.none h1⟩
theorem free_still {u v : Value} {role' : Role} {w' : World} {bs : List Nat} (hv : AccO w v bs) (hn : ∀ i, v.ownBlock = some i → base ≤ i ∧ role i = none) (hne : ∀ i, u.ownBlock = some i → v.ownBlock ≠ some i) (he : ∀ i, i < w.heap.size → u.ownBlock ≠ some i → role' i = role i) (hc : ChgR (fun r => r.1 ≤ 7) role w w') :
    AccO w' v bs ∧ ∀ i, v.ownBlock = some i → base ≤ i ∧ role' i = none :=
  ⟨hv.move hc.size fun i hi => hc.block i (hv.lt i hi) fun r e => (by rw [(hn i hi).2] at e; cases e), fun i hi => ⟨(hn i hi).1, by rw [he i (hv.lt i hi) (fun h => hne i h hi)]; exact (hn i hi).2⟩⟩
end
end Go.Proofs.Ytakojlgoelbjmaa
