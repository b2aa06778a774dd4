/- The contract of package word's divide where the divisor has one limb. -/
import Derived.Test.YtgmpoefgcimaiaaDivLimb
import Derived.BigQuiet
namespace Go.Proofs.Ytgmpoefgcimaiaa
open Go.RowKit

theorem isTop_unique {xs : List Nat} {j k : Nat} (hj : IsTop xs j) (hk : IsTop xs k) : j = k := by
  rcases Nat.lt_trichotomy j k with h | h | h
  · exact absurd (hj.2.1 (k - 1) (by omega)) (hk.2.2 (by omega))
  · exact h
  · exact absurd (hk.2.1 (j - 1) (by omega)) (hj.2.2 (by omega))
theorem isTop_exists (xs : List Nat) : ∃ k, IsTop xs k := by
  induction xs with
  | nil => exact ⟨0, by simp, by simp, fun h => absurd h (by omega)⟩
  | cons x xs ih =>
    obtain ⟨k, h1, h2, h3⟩ := ih
    by_cases hk : k = 0
    · subst hk
      by_cases hx : x = 0
      · exact ⟨0, by simp, fun j _ => by
          cases j with
          | zero => simpa using hx
          | succ j => simpa using h2 j (by omega), fun h => absurd h (by omega)⟩
      · exact ⟨1, by simp, fun j hj => by
          cases j with
          | zero => omega
          | succ j => simpa using h2 j (by omega), fun _ => by simpa using hx⟩
    · exact ⟨k + 1, by simp; omega, fun j hj => by
        cases j with
        | zero => omega
        | succ j => simpa using h2 j (by omega), fun _ => by
        have := h3 (by omega)
        obtain ⟨m, rfl⟩ : ∃ m, k = m + 1 := ⟨k - 1, by omega⟩
        simpa using this⟩
theorem limbs_k {g : Nat} {t : TypeId} {xs : List Nat} {k : Nat} (w : World) (h : Arr w g t xs) (hl : xs.length ≤ 9) (hk : IsTop xs k) (n : Nat) (hn : n = xs.length) :
    Calls Try.prog 67 #[.slice (some ⟨g, 0, none⟩) n n] w fun e w' => e = .returned (.int .i64 k) ∧ w' = w := by
  subst hn
  exact (limbs_c w h hl).mono fun e w' ⟨j, he, hj, hw⟩ => ⟨by rw [he, isTop_unique hj hk], hw.symm⟩

/-- What divide lays: the boxes of its two numbers, the places of its results. -/
theorem startD (w : World) (tl tw : TypeId) (x0 x1 x2 x3 x4 x5 x6 x7 d0 d1 d2 d3 : Nat) (X : World)
    (hX : X = (((w.alloc (.cells #[.int .u64 (x0 : Nat), .int .u64 (x1 : Nat), .int .u64 (x2 : Nat), .int .u64 (x3 : Nat), .int .u64 (x4 : Nat), .int .u64 (x5 : Nat), .int .u64 (x6 : Nat), .int .u64 (x7 : Nat)] tl)).alloc (.cells #[.int .u64 (d0 : Nat), .int .u64 (d1 : Nat), .int .u64 (d2 : Nat), .int .u64 (d3 : Nat)] tw)).alloc
      (.cells #[.int .u64 0, .int .u64 0, .int .u64 0, .int .u64 0, .int .u64 0, .int .u64 0, .int .u64 0, .int .u64 0] tl)).alloc (.cells #[.int .u64 0, .int .u64 0, .int .u64 0, .int .u64 0] tw)) :
    Arr X w.heap.size tl [x0, x1, x2, x3, x4, x5, x6, x7] ∧ Arr X (w.heap.size + 1) tw [d0, d1, d2, d3] ∧ Arr X (w.heap.size + 1 + 1) tl [0, 0, 0, 0, 0, 0, 0, 0] ∧ Arr X (w.heap.size + 1 + 1 + 1) tw [0, 0, 0, 0] ∧ Below w.heap.size w X := by
  subst hX
  refine ⟨(((Arr.new8 w tl x0 x1 x2 x3 x4 x5 x6 x7).alloc _).alloc _).alloc _, ?_, ?_, ?_, ((((Below.refl _ _).alloc (Nat.le_refl _) _).alloc (by simp) _).alloc (by simp; omega) _).alloc (by simp; omega) _⟩
  · have h := ((Arr.new4 (w.alloc (.cells #[.int .u64 (x0 : Nat), .int .u64 (x1 : Nat), .int .u64 (x2 : Nat), .int .u64 (x3 : Nat), .int .u64 (x4 : Nat), .int .u64 (x5 : Nat), .int .u64 (x6 : Nat), .int .u64 (x7 : Nat)] tl)) tw d0 d1 d2 d3).alloc (.cells #[.int .u64 0, .int .u64 0, .int .u64 0, .int .u64 0, .int .u64 0, .int .u64 0, .int .u64 0, .int .u64 0] tl)).alloc (.cells #[.int .u64 0, .int .u64 0, .int .u64 0, .int .u64 0] tw)
    simpa using h
  · have h := (Arr.new8z ((w.alloc (.cells #[.int .u64 (x0 : Nat), .int .u64 (x1 : Nat), .int .u64 (x2 : Nat), .int .u64 (x3 : Nat), .int .u64 (x4 : Nat), .int .u64 (x5 : Nat), .int .u64 (x6 : Nat), .int .u64 (x7 : Nat)] tl)).alloc (.cells #[.int .u64 (d0 : Nat), .int .u64 (d1 : Nat), .int .u64 (d2 : Nat), .int .u64 (d3 : Nat)] tw)) tl).alloc (.cells #[.int .u64 0, .int .u64 0, .int .u64 0, .int .u64 0] tw)
    simpa using h
  · have h := Arr.new4z (((w.alloc (.cells #[.int .u64 (x0 : Nat), .int .u64 (x1 : Nat), .int .u64 (x2 : Nat), .int .u64 (x3 : Nat), .int .u64 (x4 : Nat), .int .u64 (x5 : Nat), .int .u64 (x6 : Nat), .int .u64 (x7 : Nat)] tl)).alloc (.cells #[.int .u64 (d0 : Nat), .int .u64 (d1 : Nat), .int .u64 (d2 : Nat), .int .u64 (d3 : Nat)] tw)).alloc (.cells #[.int .u64 0, .int .u64 0, .int .u64 0, .int .u64 0, .int .u64 0, .int .u64 0, .int .u64 0, .int .u64 0] tl)) tw
    simpa using h

theorem below_drewN (B : Nat) (w : World) (n : Nat) : Below B w (w.drewN n) := ⟨rfl, rfl, rfl, Nat.le_refl _, fun _ _ => rfl⟩
/-- Eight limbs and four are written. -/
theorem put12 {w w2 : World} {B f1 f2 : Nat} {tl tw : TypeId} {c0 c1 c2 c3 c4 c5 c6 c7 e0 e1 e2 e3 : Nat} (k1 : Arr w2 f1 tl [c0, c1, c2, c3, c4, c5, c6, c7]) (k2 : Arr w2 f2 tw [e0, e1, e2, e3]) (hne : f1 ≠ f2) (hB : Below B w w2) (h1 : B ≤ f1) (h2 : B ≤ f2)
    (q0 q1 q2 q3 q4 q5 q6 q7 r0 r1 r2 r3 : Nat) (X : World) (hX : X = ((((((((((((w2.setCell ⟨f1, 0, none⟩ (.int .u64 (q0 : Int))).setCell ⟨f1, 1, none⟩ (.int .u64 (q1 : Int))).setCell ⟨f1, 2, none⟩ (.int .u64 (q2 : Int))).setCell ⟨f1, 3, none⟩ (.int .u64 (q3 : Int))).setCell ⟨f1, 4, none⟩ (.int .u64 (q4 : Int))).setCell ⟨f1, 5, none⟩ (.int .u64 (q5 : Int))).setCell ⟨f1, 6, none⟩ (.int .u64 (q6 : Int))).setCell ⟨f1, 7, none⟩ (.int .u64 (q7 : Int))).setCell ⟨f2, 0, none⟩ (.int .u64 (r0 : Int))).setCell ⟨f2, 1, none⟩ (.int .u64 (r1 : Int))).setCell ⟨f2, 2, none⟩ (.int .u64 (r2 : Int))).setCell ⟨f2, 3, none⟩ (.int .u64 (r3 : Int)))) :
    Arr X f1 tl [q0, q1, q2, q3, q4, q5, q6, q7] ∧ Arr X f2 tw [r0, r1, r2, r3] ∧ Below B w X := by
  subst hX
  exact ⟨(k1.put8 q0 q1 q2 q3 q4 q5 q6 q7).far4 hne _ _ _ _, (k2.far8 (Ne.symm hne) _ _ _ _ _ _ _ _).put4 r0 r1 r2 r3, below_put4 (below_put8 hB h1 _ _ _ _ _ _ _ _) h2 _ _ _ _⟩

end Go.Proofs.Ytgmpoefgcimaiaa
