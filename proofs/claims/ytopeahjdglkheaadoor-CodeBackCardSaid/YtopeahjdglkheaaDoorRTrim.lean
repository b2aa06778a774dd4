/- The contracts of package quarryref02's smallest functions: trim, Of, From. -/
import Derived.Test.YtopeahjdglkheaaDoorProg
import Derived.Test.YtopeahjdglkheaaDoorDig
import Derived.Deep.QuietTactic
import Derived.BigQuiet
import Derived.OwnWalk
import Derived.Laws.OwnMore
import Derived.Laws.AppendOwnNone
namespace Go.Proofs.YtopeahjdglkheaaDoor
open Go.RowKit

/-- The call returns a value of which R says what it is, and the world is as it was. -/
def RetS (R : Value → Prop) (w : World) (e : Ending) (w' : World) : Prop := ∃ v, e = .returned v ∧ R v ∧ w' = w

end Go.Proofs.YtopeahjdglkheaaDoor
/- The contract of package quarryref02's Cmp. -/
namespace Go.Proofs.YtopeahjdglkheaaDoor
open Go.RowKit

/-- The call returns v; the world is as it was but for draws. -/
def RetD (v : Value) (w : World) (e : Ending) (w' : World) : Prop := e = .returned v ∧ ∃ n, w' = w.drewN n

theorem dr2 (w : World) (a b : Nat) : ∃ m, (w.drewN a).drewN b = w.drewN m := ⟨_, World.drewN_drewN w a b⟩
theorem dr3 (w : World) (a b c : Nat) : ∃ m, ((w.drewN a).drewN b).drewN c = w.drewN m := ⟨_, by rw [World.drewN_drewN, World.drewN_drewN]⟩
theorem RetD.below {v : Value} {w w' : World} {e : Ending} (h : RetD v w e w') : e = .returned v ∧ Below w.heap.size w w' := by
  obtain ⟨rfl, n, rfl⟩ := h
  exact ⟨rfl, ⟨rfl, rfl, rfl, Nat.le_refl _, fun _ _ => rfl⟩⟩

end Go.Proofs.YtopeahjdglkheaaDoor
/- Bytes that a call gathers by append. -/
namespace Go.Proofs.YtopeahjdglkheaaDoor
open Go.RowKit

theorem info8 : (Tryd.prog.info? 5).map (fun i => (i.zero, i.size, i.bytes)) = some (some (.int .u8 0), 1, 1) := by kernel_rfl
/-- Bytes as values. -/
def bv (bs : List Nat) : List Value := bs.map fun n : Nat => Value.int .u8 (n : Int)
theorem bv_length (bs : List Nat) : (bv bs).length = bs.length := by simp [bv]
theorem bv_append (bs cs : List Nat) : bv (bs ++ cs) = bv bs ++ bv cs := by simp [bv]
theorem bv_get (bs : List Nat) (j : Nat) (h : j < bs.length) : (bv bs)[j]? = some (.int .u8 (bs.getD j 0 : Nat)) := by simp [bv, List.getElem?_eq_getElem h]
theorem bv_one (bs : List Nat) : ∀ u ∈ bv bs, u.oneCell' = true := fun u hu => by
  simp only [bv, List.mem_map] at hu
  obtain ⟨n, _, rfl⟩ := hu
  rfl
/-- The slice v owns the bytes bs, in a block from base on. -/
def Acc (w : World) (base : Nat) (v : Value) (bs : List Nat) : Prop := w.ownsRow base 5 1 v bs.length (bv bs)

section
variable {w w' : World} {base n c : Nat} {A : Option Addr} {v : Value} {bs : List Nat}
theorem Acc.nil (w : World) (base : Nat) : Acc w base (.slice none 0 0) [] := World.ownsRow_nil _ _ _ _
theorem Acc.form (h : Acc w base v bs) : ∃ A c, v = .slice A bs.length c := by
  rcases h.2 with ⟨e, h0⟩ | ⟨g, cap, cur, e, _⟩
  · exact ⟨none, 0, by rw [e, h0]⟩
  · exact ⟨_, _, e⟩
theorem Acc.rd (h : Acc w base (.slice A n c) bs) : Rd .u8 w A c bs := by
  rcases h.2 with ⟨e, h0⟩ | ⟨g, cap, cur, e, hb, hh, hc, _, hs, ht⟩
  · injection e with e1 e2 e3
    have : bs = [] := List.eq_nil_of_length_eq_zero h0
    subst e1 e3 this
    exact Rd.nil _
  · injection e with e1 e2 e3
    subst e1 e3
    refine ⟨hc, (fun h => by cases h), fun _ => ⟨g, 0, rfl, ?_, fun j hj => ?_⟩⟩
    · rcases Nat.lt_or_ge g w.heap.size with hlt | hge
      · exact hlt
      · rw [Array.getElem?_eq_none hge] at hh; cases hh
    · have := World.ownsRow.cells h (g := g) rfl j _ (bv_get bs j hj)
      rw [Nat.zero_add]
      have e : (⟨g, 0, none⟩ : Addr).add j = ⟨g, j, none⟩ := by unfold Addr.add; by_cases h : j = 0 <;> simp [h]
      rwa [e] at this
theorem Acc.byt (h : Acc w base v bs) (hd : Ds 256 bs) : Byt w v bs := by
  obtain ⟨A, c, rfl⟩ := h.form
  exact ⟨A, c, rfl, h.rd, hd⟩
theorem Acc.own (h : Acc w base v bs) : ∀ k, v.ownBlock = some k → base ≤ k := fun k hk => by
  rcases h.2 with ⟨e, h0⟩ | ⟨g, cap, cur, e, hb, _⟩
  · rw [e] at hk; simp [Value.ownBlock] at hk
  · rw [e] at hk; simp [Value.ownBlock] at hk; omega
end
/-- The new cells of an append of one byte. -/
theorem one_cells {w : World} {c : Nat} : ∀ j u, ([Value.int .u8 (c : Int)] : List Value)[j]? = some u → (w.alloc (.cells #[.int .u8 (c : Int)] 5)).cell? ((⟨w.heap.size, 0, none⟩ : Addr).add j) = some u := by
  intro j u hj
  match j, hj with
  | 0, hj =>
    simp at hj
    subst hj
    have h := cell_of_row (w.alloc (.cells #[.int .u8 (c : Int)] 5)) w.heap.size 0 #[.int .u8 (c : Int)] 5 (0, 0) (heap_alloc_new w _)
    exact h
/-- make of bytes. -/
theorem mk8 (z : Int) (n : Nat) (hz : z = n) (hn : n ≤ 67108864) (W : World) : (Instr.makeSlice 31 (.int .i64 z) (.int .i64 z)).run Tryd.prog W =
    .ok (.slice (some ⟨W.heap.size, 0, none⟩) n n) (W.alloc (.cells (madeCells #[Value.int .u8 0] n) 5)) := by
  obtain ⟨i0, hi, hz0, hz1, hz2⟩ := info_parts info8
  subst hz
  have h := run_make (P := Tryd.prog) W 31 5 i0 (.int .u8 0) Tryd.underlying31 hi hz0 .i64 .i64 n n (by omega) (by omega) (by rw [hz2]; omega) (by omega)
  rw [h, hz1]
  simp [Value.cells]
/-- A block of bytes that is known whole is owned. -/
theorem Acc.of_row {w : World} {base g : Nat} {bs : List Nat} (h : Row .u8 w g 5 bs) (hb : base ≤ g) (hl : bs.length ≤ 67108864) : Acc w base (.slice (some ⟨g, 0, none⟩) bs.length bs.length) bs := by
  refine ⟨by simp [bv], .inr ⟨g, bs.length, (bv bs).toArray, rfl, hb, h, Nat.le_refl _, by unfold maxLen; omega, by simp [bv], ?_⟩⟩
  simp [bv, List.take_of_length_le]
theorem Rd.news {w : World} {ad : Addr} {c : Nat} {bs : List Nat} (h : Rd .u8 w (some ad) c bs) : ∀ j u, (bv bs)[j]? = some u → w.cell? (ad.add j) = some u := by
  intro j u hu
  have hj : j < bs.length := by
    rcases Nat.lt_or_ge j bs.length with h | h
    · exact h
    · rw [List.getElem?_eq_none (by rw [bv_length]; exact h)] at hu; cases hu
  rw [bv_get bs j hj] at hu
  injection hu with hu
  obtain ⟨b, off, e, _, hc⟩ := h.at_ (by omega)
  injection e with e
  subst e
  have e2 : (⟨b, off, none⟩ : Addr).add j = ⟨b, off + j, none⟩ := by unfold Addr.add; by_cases h : j = 0 <;> simp [h]
  rw [e2, hc j hj, hu]
end Go.Proofs.YtopeahjdglkheaaDoor
