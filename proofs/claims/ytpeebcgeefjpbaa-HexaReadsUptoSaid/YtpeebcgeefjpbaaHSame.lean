/- Package hexa's Bytes and the reference's tell the same. -/
import Derived.Test.YtpeebcgeefjpbaaHRef3
import Derived.Test.YtpeebcgeefjpbaaHNum
namespace Go.Proofs.Ytpeebcgeefjpbaa
open Go.RowKit

theorem scan_rscan : ∀ (rs : List Nat) (k : Nat) (x : List Nat), x.length = k - 2 →
    (0 ≤ (rscan rs k x).2 ∧ ∃ y, scan stepB rs k x = ((0, 2, (rscan rs k x).2.toNat), y)) ∨ ((rscan rs k x).2 = -1 ∧ scan stepB rs k x = (((rscan rs k x).1.length, 0, 0), (rscan rs k x).1))
  | [], k, x, h => by
    unfold scan rscan
    by_cases hk : k < 2
    · rw [if_pos hk, if_pos hk]; exact .inl ⟨by simp, x, by simp⟩
    · rw [if_neg hk, if_neg hk]; exact .inr ⟨rfl, by rw [h]⟩
  | r :: rs, k, x, h => by
    unfold scan rscan
    by_cases hb : badAt k r = true
    · rw [if_pos hb, if_pos hb]; exact .inl ⟨by simp, x, by simp⟩
    · rw [if_neg hb, if_neg hb]
      by_cases hk : k < 2
      · rw [if_pos hk, if_pos hk]; exact scan_rscan rs (k + 1) x (by omega)
      · rw [if_neg hk, if_neg hk]
        exact scan_rscan rs (k + 1) (x ++ [digN r]) (by rw [List.length_append, h]; simp; omega)
theorem bytes_same (s : ByteArray) : (rres s).1 = (bres s).1 ∧ (rres s).2.1 = ((bres s).2.1 : Int) ∧ (rres s).2.2 = ((bres s).2.2 : Int) := by
  unfold rres bres
  rcases scan_rscan (runesAt s 0) 0 [] rfl with ⟨h, y, e⟩ | ⟨h, e⟩
  · rw [e]
    unfold rresQ bresQ
    rw [if_pos h, if_neg (show ¬ (2 = 0) by decide)]
    exact ⟨rfl, rfl, (Int.toNat_of_nonneg h).symm⟩
  · rw [e]
    unfold rresQ bresQ
    generalize rscan (runesAt s 0) 0 [] = q at *
    rw [if_neg (by omega), if_pos rfl]
    by_cases ho : q.1.length % 2 = 1
    · rw [if_pos ho, if_pos ho]; exact ⟨rfl, rfl, by simp; omega⟩
    · rw [if_neg ho, if_neg ho]; exact ⟨rfl, rfl, rfl⟩
/-- The reference's Bytes, told as package hexa's. -/
theorem rbytes_h (s : ByteArray) (w : World) (hs : s.size ≤ 1073741824) : Calls Try.prog 8 #[.string s] w fun e w' =>
    ∃ v, e = .returned (.tuple #[v, .agg #[.int .i64 ((bres s).2.1 : Nat), .int .i64 ((bres s).2.2 : Nat)]]) ∧ Acc w' w.heap.size v (bres s).1 ∧ Below w.heap.size w w' := by
  obtain ⟨h1, h2, h3⟩ := bytes_same s
  have h := rbytes4_c s w hs
  rw [h1, h2, h3] at h
  exact h

/-- The reference's Number. -/
def rnumQ (q : List Nat × Int) : Nat × Int × Int :=
  if 1 < q.1.length ∧ q.1.getD 0 0 = 0 then (0, 2, 3) else if 64 < q.1.length then (0, 3, 66) else if 0 ≤ q.2 then (0, 2, q.2) else if q.1.length = 0 then (0, 2, 2) else (dv 16 q.1.reverse, 0, 0)

theorem rscan_pre : ∀ (rs : List Nat) (k : Nat) (x : List Nat), 2 ≤ k → ∃ t, (rscan rs k x).1 = x ++ t
  | [], k, x, h => by unfold rscan; rw [if_neg (by omega)]; exact ⟨[], by simp⟩
  | r :: rs, k, x, h => by
    unfold rscan
    split
    · exact ⟨[], by simp⟩
    · rw [if_neg (by omega)]
      obtain ⟨t, ht⟩ := rscan_pre rs (k + 1) (x ++ [digN r]) (by omega)
      exact ⟨digN r :: t, by rw [ht]; simp⟩
theorem scan_num : ∀ (rs : List Nat) (k : Nat) (x : List Nat), x.length = k - 2 → x.length ≤ 64 → (1 < x.length → x.getD 0 0 ≠ 0) →
    ∃ y, scan stepN rs k (dv 16 x.reverse) = ((if 1 < (rscan rs k x).1.length ∧ (rscan rs k x).1.getD 0 0 = 0 then (0, 2, 3) else if 64 < (rscan rs k x).1.length then (0, 3, 66) else if 0 ≤ (rscan rs k x).2 then (0, 2, (rscan rs k x).2.toNat) else ((rscan rs k x).1.length, 0, 0)), y) ∧
      (¬ (1 < (rscan rs k x).1.length ∧ (rscan rs k x).1.getD 0 0 = 0) → ¬ 64 < (rscan rs k x).1.length → ¬ 0 ≤ (rscan rs k x).2 → y = dv 16 (rscan rs k x).1.reverse)
  | [], k, x, h, h64, h0 => by
    unfold scan rscan
    by_cases hk : k < 2
    · rw [if_pos hk, if_pos hk]
      refine ⟨dv 16 x.reverse, ?_, fun _ _ h => absurd (by simp) h⟩
      rw [if_neg (by simp), if_neg (by simp), if_pos (by simp)]; simp
    · rw [if_neg hk, if_neg hk]
      refine ⟨dv 16 x.reverse, ?_, fun _ _ _ => rfl⟩
      rw [if_neg (by intro ⟨a, b⟩; exact h0 a b), if_neg (by simp; omega), if_neg (by simp)]
      show ((k - 2, 0, 0), _) = ((x.length, 0, 0), _)
      rw [h]
  | r :: rs, k, x, h, h64, h0 => by
    unfold scan rscan
    by_cases hb : badAt k r = true
    · rw [if_pos hb, if_pos hb]
      refine ⟨dv 16 x.reverse, ?_, fun _ _ h => absurd (by simp) h⟩
      rw [if_neg (by intro ⟨a, b⟩; exact h0 a b), if_neg (by simp; omega), if_pos (by simp)]; simp
    · rw [if_neg hb, if_neg hb]
      by_cases hk : k < 2
      · rw [if_pos hk, if_pos hk]; exact scan_num rs (k + 1) x (by omega) h64 h0
      · rw [if_neg hk, if_neg hk]
        obtain ⟨t, ht⟩ := rscan_pre rs (k + 1) (x ++ [digN r]) (by omega)
        have hlen : (rscan rs (k + 1) (x ++ [digN r])).1.length = x.length + 1 + t.length := by rw [ht]; simp; omega
        have hget : 0 < x.length → (rscan rs (k + 1) (x ++ [digN r])).1.getD 0 0 = x.getD 0 0 := fun hp => by
          rw [ht]
          cases x with
          | nil => simp at hp
          | cons a t => simp
        by_cases h1 : k - 2 = 1 ∧ dv 16 x.reverse = 0
        · have hx0 : x.getD 0 0 = 0 := by
            obtain ⟨a, b⟩ := h1
            match x, h with
            | [y], _ => simpa [dv] using b
            | [], h => rw [a] at h; simp at h
            | _ :: _ :: _, h => rw [a] at h; simp at h
          have e : stepN (dv 16 x.reverse) (k - 2) (digN r) = .error 2 := by unfold stepN; rw [if_pos h1]
          rw [e]
          refine ⟨dv 16 x.reverse, ?_, fun hn => absurd ⟨by omega, by rw [hget (by omega), hx0]⟩ hn⟩
          rw [if_pos ⟨by omega, by rw [hget (by omega), hx0]⟩]
          show ((0, 2, k), _) = _
          rw [show k = 3 by omega]
        · by_cases h2 : k - 2 = 64
          · have e : stepN (dv 16 x.reverse) (k - 2) (digN r) = .error 3 := by unfold stepN; rw [if_neg h1, if_pos h2]
            have hn : ¬ (1 < (rscan rs (k + 1) (x ++ [digN r])).1.length ∧ (rscan rs (k + 1) (x ++ [digN r])).1.getD 0 0 = 0) := by
              intro ⟨_, b⟩; rw [hget (by omega)] at b; exact h0 (by omega) b
            rw [e]
            refine ⟨dv 16 x.reverse, ?_, fun _ hn => absurd (by omega) hn⟩
            rw [if_neg hn, if_pos (by omega)]
            show ((0, 3, k), _) = _
            rw [show k = 66 by omega]
          · have e : stepN (dv 16 x.reverse) (k - 2) (digN r) = .ok (dv 16 (x ++ [digN r]).reverse) := by
              unfold stepN; rw [if_neg h1, if_neg h2, List.reverse_append]
              show _ = Except.ok (digN r + 16 * dv 16 x.reverse)
              rw [Nat.add_comm]
            rw [e]
            refine scan_num rs (k + 1) (x ++ [digN r]) (by rw [List.length_append, h]; simp; omega) (by rw [List.length_append]; simp; omega) fun hl => ?_
            rw [List.length_append] at hl
            simp only [List.length_cons, List.length_nil] at hl
            match x, h, h0, h1 with
            | [], _, _, _ => simp at hl
            | [y], h, _, h1 =>
              intro hy
              exact h1 ⟨by simp at h; omega, by simpa [dv] using hy⟩
            | y :: z :: t, _, h0, _ =>
              intro hy
              exact h0 (by simp) (by simpa using hy)
theorem num_same (s : ByteArray) : (rnumQ (rscan (runesAt s 0) 0 [])).1 = (nres s).1 ∧ (rnumQ (rscan (runesAt s 0) 0 [])).2.1 = ((nres s).2.1 : Int) ∧ (rnumQ (rscan (runesAt s 0) 0 [])).2.2 = ((nres s).2.2 : Int) := by
  obtain ⟨y, e, hy⟩ := scan_num (runesAt s 0) 0 [] rfl (by decide) (fun h => by simp at h)
  have e' : scan stepN (runesAt s 0) 0 0 = _ := e
  unfold nres
  rw [e']
  clear e e'
  generalize rscan (runesAt s 0) 0 [] = q at *
  unfold rnumQ numQ
  by_cases h1 : 1 < q.1.length ∧ q.1.getD 0 0 = 0
  · rw [if_pos h1, if_pos h1, if_neg (show ¬ (2 = 0) by decide)]; exact ⟨rfl, rfl, rfl⟩
  · rw [if_neg h1, if_neg h1]
    by_cases h2 : 64 < q.1.length
    · rw [if_pos h2, if_pos h2, if_neg (show ¬ (3 = 0) by decide)]; exact ⟨rfl, rfl, rfl⟩
    · rw [if_neg h2, if_neg h2]
      by_cases h3 : 0 ≤ q.2
      · rw [if_pos h3, if_pos h3, if_neg (show ¬ (2 = 0) by decide)]; exact ⟨rfl, rfl, (Int.toNat_of_nonneg h3).symm⟩
      · rw [if_neg h3, if_neg h3, if_pos (show (0 : Nat) = 0 from rfl)]
        by_cases h4 : q.1.length = 0
        · rw [if_pos h4, if_pos h4]; exact ⟨rfl, rfl, rfl⟩
        · rw [if_neg h4, if_neg h4]; exact ⟨(hy h1 h2 h3).symm, rfl, rfl⟩
end Go.Proofs.Ytpeebcgeefjpbaa
