/- The contracts of the reference's digit, Runes and fault: layer 4. -/
import Derived.Test.YtopeahjdglkheaaDoorHDigits
import Derived.Test.YtopeahjdglkheaaDoorRTrim
namespace Go.Proofs.YtopeahjdglkheaaDoor
open Go.RowKit

/-- Numbers of one kind as values; a slice that owns them, in a block from base on. -/
def gv (k : IntKind) (xs : List Nat) : List Value := xs.map fun n : Nat => Value.int k (n : Int)
theorem gv_length (k : IntKind) (xs : List Nat) : (gv k xs).length = xs.length := by simp [gv]
theorem gv_append (k : IntKind) (xs ys : List Nat) : gv k (xs ++ ys) = gv k xs ++ gv k ys := by simp [gv]
theorem gv_get (k : IntKind) (xs : List Nat) (j : Nat) (h : j < xs.length) : (gv k xs)[j]? = some (.int k (xs.getD j 0 : Nat)) := by simp [gv, List.getElem?_eq_getElem h]
def AccG (k : IntKind) (t : TypeId) (w : World) (base : Nat) (v : Value) (xs : List Nat) : Prop := w.ownsRow base t 1 v xs.length (gv k xs)
section
variable {k : IntKind} {t : TypeId} {w w' : World} {base n c : Nat} {A : Option Addr} {v : Value} {xs : List Nat}
theorem AccG.nil (w : World) (base : Nat) : AccG k t w base (.slice none 0 0) [] := World.ownsRow_nil _ _ _ _
theorem AccG.form (h : AccG k t w base v xs) : ∃ A c, v = .slice A xs.length c := by
  rcases h.2 with ⟨e, h0⟩ | ⟨g, cap, cur, e, _⟩
  · exact ⟨none, 0, by rw [e, h0]⟩
  · exact ⟨_, _, e⟩
theorem AccG.rd (h : AccG k t w base (.slice A n c) xs) : Rd k w A c xs := by
  rcases h.2 with ⟨e, h0⟩ | ⟨g, cap, cur, e, hb, hh, hc, _, hs, ht⟩
  · injection e with e1 e2 e3
    have : xs = [] := List.eq_nil_of_length_eq_zero h0
    subst e1 e3 this
    exact Rd.nil _
  · injection e with e1 e2 e3
    subst e1 e3
    refine ⟨hc, (fun h => by cases h), fun _ => ⟨g, 0, rfl, ?_, fun j hj => ?_⟩⟩
    · rcases Nat.lt_or_ge g w.heap.size with hlt | hge
      · exact hlt
      · rw [Array.getElem?_eq_none hge] at hh; cases hh
    · have := World.ownsRow.cells h (g := g) rfl j _ (gv_get k xs j hj)
      rw [Nat.zero_add]
      have e : (⟨g, 0, none⟩ : Addr).add j = ⟨g, j, none⟩ := by unfold Addr.add; by_cases h : j = 0 <;> simp [h]
      rwa [e] at this
theorem AccG.own (h : AccG k t w base v xs) : ∀ b, v.ownBlock = some b → base ≤ b := fun b hk => by
  rcases h.2 with ⟨e, h0⟩ | ⟨g, cap, cur, e, hb, _⟩
  · rw [e] at hk; simp [Value.ownBlock] at hk
  · rw [e] at hk; simp [Value.ownBlock] at hk; omega
end
/-- The new cell of an append of one number. -/
theorem one_cellG {w : World} {k : IntKind} {t : TypeId} {c : Nat} : ∀ j u, ([Value.int k (c : Int)] : List Value)[j]? = some u → (w.alloc (.cells #[.int k (c : Int)] t)).cell? ((⟨w.heap.size, 0, none⟩ : Addr).add j) = some u := by
  intro j u hj
  match j, hj with
  | 0, hj =>
    simp at hj
    subst hj
    have h := cell_of_row (w.alloc (.cells #[.int k (c : Int)] t)) w.heap.size 0 #[.int k (c : Int)] t (0, 0) (heap_alloc_new w _)
    exact h
theorem infoR : (Tryd.prog.info? 21).map (fun i => (i.zero, i.size, i.bytes)) = some (some (.int .i32 0), 1, 4) := by kernel_rfl
theorem infoI : (Tryd.prog.info? 3).map (fun i => (i.zero, i.size, i.bytes)) = some (some (.int .i64 0), 1, 8) := by kernel_rfl
theorem infoG {t : TypeId} {z : Value} {s b : Nat} (h : (Tryd.prog.info? t).map (fun i => (i.zero, i.size, i.bytes)) = some (some z, s, b)) : ∃ i, Tryd.prog.info? t = some i ∧ i.zero = some z ∧ i.size = s ∧ i.bytes = b := by
  obtain ⟨i, hi, he⟩ := Option.map_eq_some_iff.1 h
  injection he with h1 h2
  injection h2 with h2 h3
  exact ⟨i, hi, h1, h2, h3⟩

/-- What the reference's digit tells. -/
def rdig (r : Int) : Int := if digOk r = true then (digN r : Int) else -1
theorem runesAt_len (s : ByteArray) (pos : Nat) : (runesAt s pos).length ≤ s.size - pos := by
  have : ∀ f pos, (runesF s f pos).length ≤ f := by
    intro f
    induction f with
    | zero => intro _; exact Nat.le_refl _
    | succ f ih =>
      intro pos
      unfold runesF
      split
      · have := ih (pos + (Utf8.decode s pos).2); simp only [List.length_cons]; omega
      · simp
  exact this _ _

end Go.Proofs.YtopeahjdglkheaaDoor
