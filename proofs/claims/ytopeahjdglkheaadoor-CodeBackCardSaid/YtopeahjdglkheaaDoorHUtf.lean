/- A rune's bytes, decoded wherever they stand. -/
import Derived.Test.YtopeahjdglkheaaDoorHBytes
import Derived.Test.YtopeahjdglkheaaDoorHText
namespace Go.Proofs.YtopeahjdglkheaaDoor
open Go.RowKit

/-- These bytes stand in the text from there on. -/
def HasB (s : ByteArray) (i : Nat) (l : List Nat) : Prop := ∀ k, k < l.length → i + k < s.size ∧ (s.get! (i + k)).toNat = l.getD k 0
def vcp (c : Nat) : Prop := c < 55296 ∨ (57344 ≤ c ∧ c ≤ 1114111)
/-- The bytes of a rune that is one. -/
def encL (c : Nat) : List Nat := if c < 128 then [c] else if c < 2048 then [192 + c / 64, 128 + c % 64] else if c < 65536 then [224 + c / 4096, 128 + c / 64 % 64, 128 + c % 64] else [240 + c / 262144, 128 + c / 4096 % 64, 128 + c / 64 % 64, 128 + c % 64]
theorem valid_of {c : Nat} (h : vcp c) : Utf8.valid (c : Int) = true := by
  unfold vcp at h
  unfold Utf8.valid
  simp only [Bool.or_eq_true, Bool.and_eq_true, decide_eq_true_eq]
  omega
theorem decode_has {s : ByteArray} {i c : Nat} (hc : vcp c) (h : HasB s i (encL c)) : Utf8.decode s i = (c, (encL c).length) := by
  have hv := valid_of hc
  have hcb : c ≤ 1114111 := by unfold vcp at hc; omega
  unfold encL at h ⊢
  by_cases h1 : c < 128
  · rw [if_pos h1] at h ⊢
    obtain ⟨_, a0⟩ := h 0 (by simp)
    have a0 : (s.get! (i + 0)).toNat = c := a0
    unfold Utf8.decode
    simp only [a0, if_pos (show c < 0x80 from h1)]
    rfl
  rw [if_neg h1] at h ⊢
  by_cases h2 : c < 2048
  · rw [if_pos h2] at h ⊢
    obtain ⟨_, a0⟩ := h 0 (by simp)
    obtain ⟨s1, a1⟩ := h 1 (by simp)
    have a0 : (s.get! (i + 0)).toNat = 192 + c / 64 := a0
    have a1 : (s.get! (i + 1)).toNat = 128 + c % 64 := a1
    unfold Utf8.decode
    simp only [a0, a1, s1, decide_true, Bool.true_and]
    rw [if_neg (by omega), if_pos (by
      simp only [Bool.and_eq_true, beq_iff_eq]
      omega), if_pos (by omega)]
    have e : (192 + c / 64) % 32 * 64 + (128 + c % 64) % 64 = c := by omega
    rw [e]; rfl
  rw [if_neg h2] at h ⊢
  by_cases h3 : c < 65536
  · rw [if_pos h3] at h ⊢
    obtain ⟨_, a0⟩ := h 0 (by simp)
    obtain ⟨s1, a1⟩ := h 1 (by simp)
    obtain ⟨s2, a2⟩ := h 2 (by simp)
    have a0 : (s.get! (i + 0)).toNat = 224 + c / 4096 := a0
    have a1 : (s.get! (i + 1)).toNat = 128 + c / 64 % 64 := a1
    have a2 : (s.get! (i + 2)).toNat = 128 + c % 64 := a2
    have e : (224 + c / 4096) % 16 * 4096 + (128 + c / 64 % 64) % 64 * 64 + (128 + c % 64) % 64 = c := by omega
    unfold Utf8.decode
    simp only [a0, a1, a2, s1, s2, decide_true, Bool.true_and, e, hv]
    rw [if_neg (by omega), if_neg (by simp only [Bool.and_eq_true, beq_iff_eq]; omega), if_pos (by
      simp only [Bool.and_eq_true, beq_iff_eq]
      omega), if_pos (by simp; omega)]
    rfl
  · rw [if_neg h3] at h ⊢
    obtain ⟨_, a0⟩ := h 0 (by simp)
    obtain ⟨s1, a1⟩ := h 1 (by simp)
    obtain ⟨s2, a2⟩ := h 2 (by simp)
    obtain ⟨s3, a3⟩ := h 3 (by simp)
    have a0 : (s.get! (i + 0)).toNat = 240 + c / 262144 := a0
    have a1 : (s.get! (i + 1)).toNat = 128 + c / 4096 % 64 := a1
    have a2 : (s.get! (i + 2)).toNat = 128 + c / 64 % 64 := a2
    have a3 : (s.get! (i + 3)).toNat = 128 + c % 64 := a3
    have e : (240 + c / 262144) % 8 * 262144 + (128 + c / 4096 % 64) % 64 * 4096 + (128 + c / 64 % 64) % 64 * 64 + (128 + c % 64) % 64 = c := by omega
    unfold Utf8.decode
    simp only [a0, a1, a2, a3, s1, s2, s3, decide_true, Bool.true_and, e, hv]
    rw [if_neg (by omega), if_neg (by simp only [Bool.and_eq_true, beq_iff_eq]; omega), if_neg (by simp only [Bool.and_eq_true, beq_iff_eq]; omega), if_pos (by
      simp only [Bool.and_eq_true, beq_iff_eq]
      omega), if_pos (by simp; omega)]
    rfl
/-- The rune that a number stands for. -/
def rn (z : Int) : Nat := if Utf8.valid z = true then z.toNat else 65533
theorem rn_ok (z : Int) : vcp (rn z) := by
  unfold rn vcp
  split
  · rename_i h
    unfold Utf8.valid at h
    simp only [Bool.or_eq_true, Bool.and_eq_true, decide_eq_true_eq] at h
    omega
  · omega
theorem encode_rn (z : Int) : (Utf8.encode z).data.toList.map (·.toNat) = encL (rn z) := by
  have hc := rn_ok z
  obtain ⟨c, hcc⟩ : ∃ c, c = rn z := ⟨_, rfl⟩
  have e : (if Utf8.valid z = true then z.toNat else Utf8.runeError) = c := by rw [hcc]; rfl
  rw [← hcc] at hc ⊢
  have hb : c ≤ 1114111 := by unfold vcp at hc; omega
  unfold Utf8.encode encL
  simp only [e]
  by_cases h1 : c < 128
  · rw [if_pos h1, if_pos h1]; simp; omega
  rw [if_neg h1, if_neg h1]
  by_cases h2 : c < 2048
  · rw [if_pos h2, if_pos h2]; simp; omega
  rw [if_neg h2, if_neg h2]
  by_cases h3 : c < 65536
  · rw [if_pos h3, if_pos h3]; simp; omega
  · rw [if_neg h3, if_neg h3]; simp; omega
theorem get_list (s : ByteArray) (k : Nat) (h : k < s.data.toList.length) : k < s.size ∧ s.get! k = s.data.toList[k] := by
  obtain ⟨⟨l⟩⟩ := s
  have h' : k < l.length := h
  refine ⟨h', ?_⟩
  simp [ByteArray.get!, h']
theorem HasB.of {s : ByteArray} {p l q : List UInt8} (h : s.data.toList = p ++ (l ++ q)) : HasB s p.length (l.map (·.toNat)) := fun k hk => by
  rw [List.length_map] at hk
  have hl : p.length + k < s.data.toList.length := by rw [h]; simp only [List.length_append]; omega
  obtain ⟨h1, h2⟩ := get_list s (p.length + k) hl
  refine ⟨h1, ?_⟩
  rw [h2]
  have e : s.data.toList[p.length + k] = l[k] := by
    have : s.data.toList[p.length + k]? = l[k]? := by
      rw [h, List.getElem?_append_right (by omega), show p.length + k - p.length = k by omega, List.getElem?_append_left hk]
    rw [List.getElem?_eq_getElem hl, List.getElem?_eq_getElem hk] at this
    injection this
  rw [e]
  simp [List.getD_eq_getElem?_getD, hk]
theorem runesAt_ascii (s : ByteArray) : ∀ (l : List Nat) (i : Nat), HasB s i l → (∀ x ∈ l, x < 128) → runesAt s i = l ++ runesAt s (i + l.length)
  | [], i, _, _ => by simp
  | x :: l, i, h, hx => by
    have hx0 : x < 128 := hx x List.mem_cons_self
    have h0 := h 0 (by simp)
    have hd : Utf8.decode s i = (x, 1) := by
      have := decode_has (s := s) (i := i) (c := x) (.inl (by omega)) (by
        unfold encL
        rw [if_pos hx0]
        intro k hk
        have : k = 0 := by simp at hk; exact hk
        subst this
        exact h0)
      unfold encL at this
      rwa [if_pos hx0] at this
    have ih := runesAt_ascii s l (i + 1) (fun k hk => by
      have := h (k + 1) (by simp; omega)
      rw [show i + (k + 1) = i + 1 + k by omega] at this
      simpa using this) (fun y hy => hx y (List.mem_cons_of_mem _ hy))
    rw [runesAt_cons s i (by have := h0.1; omega), hd]
    simp only [ih, List.cons_append, List.length_cons]
    rw [show i + 1 + l.length = i + (l.length + 1) by omega]
/-- What digits tells of digits, and then a rune that is none. -/
theorem scan_bad2 {σ : Type} (step : σ → Nat → Nat → Except Nat σ) (hs : ∀ x k v, ∃ y, step x k v = .ok y) : ∀ (l : List Nat) (c : Nat) (rest : List Nat) (k : Nat) (x : σ), 2 ≤ k → (∀ r ∈ l, digOk (r : Int) = true) → digOk (c : Int) = false →
    ∃ y, scan step (l ++ c :: rest) k x = ((0, 2, k + l.length), y)
  | [], c, rest, k, x, hk, _, hc => by
    refine ⟨x, ?_⟩
    rw [List.nil_append, scan]
    have : badAt k (c : Int) = true := by unfold badAt; rw [if_neg (by omega), if_neg (by omega), hc]; rfl
    rw [if_pos this]; rfl
  | r :: l, c, rest, k, x, hk, hl, hc => by
    have hr := hl r List.mem_cons_self
    have hb : ¬ badAt k (r : Int) = true := by unfold badAt; rw [if_neg (by omega), if_neg (by omega), hr]; decide
    obtain ⟨y, hy⟩ := hs x (k - 2) (digN r)
    obtain ⟨z, hz⟩ := scan_bad2 step hs l c rest (k + 1) y (by omega) (fun q hq => hl q (List.mem_cons_of_mem _ hq)) hc
    refine ⟨z, ?_⟩
    rw [List.cons_append, scan, if_neg hb, if_neg (by omega), hy]
    simp only [hz, List.length_cons]
    rw [show k + 1 + l.length = k + (l.length + 1) by omega]
theorem hx_dig {d : Nat} (h : d < 16) : (hx d).toNat < 128 ∧ digOk ((hx d).toNat : Int) = true := by
  have : ∀ d : Fin 16, (hx d.1).toNat < 128 ∧ digOk ((hx d.1).toNat : Int) = true := by decide
  exact this ⟨d, h⟩
theorem hxs_dig {bs : List Nat} (h : Ds 256 bs) : ∀ x : Nat, x ∈ (hxs bs).map (·.toNat) → x < 128 ∧ digOk (x : Int) = true := by
  intro x hx'
  simp only [List.mem_map, hxs, List.mem_flatMap] at hx'
  obtain ⟨b, ⟨n, hn, hb⟩, rfl⟩ := hx'
  have := h n hn
  simp at hb
  rcases hb with rfl | rfl
  · exact hx_dig (d := n / 16) (by omega)
  · exact hx_dig (d := n % 16) (by omega)
/-- A text's first runes are right, and then comes one that is no digit: it is refused there. -/
theorem bres_bad {s : ByteArray} {bs : List Nat} {odd : Bool} {z : Int} {q : List UInt8} (h : Ds 256 bs) (hs : s.data.toList = (htext bs ++ (if odd = true then [102] else [])) ++ ((Utf8.encode z).data.toList ++ q)) (hz : digOk (rn z : Int) = false) :
    bres s = ([], 2, 2 + 2 * bs.length + (if odd = true then 1 else 0)) := by
  obtain ⟨tl, htl⟩ : ∃ tl, tl = hxs bs ++ (if odd = true then [102] else []) := ⟨_, rfl⟩
  have ht : htext bs ++ (if odd = true then [102] else []) = 48 :: 120 :: tl := by rw [htl]; rfl
  have htd : ∀ x : Nat, x ∈ tl.map (·.toNat) → x < 128 ∧ digOk (x : Int) = true := by
    intro x hx
    rw [htl, List.map_append, List.mem_append] at hx
    rcases hx with hx | hx
    · exact hxs_dig h x hx
    · cases odd with
      | false => simp at hx
      | true => simp at hx; subst hx; decide
  have htlen : tl.length = 2 * bs.length + (if odd = true then 1 else 0) := by
    rw [htl, List.length_append, hxs_len]; cases odd <;> rfl
  rw [ht] at hs
  have hA : HasB s 0 ((48 :: 120 :: tl).map (·.toNat)) := HasB.of (p := []) (by rw [hs]; rfl)
  have hB : HasB s (48 :: 120 :: tl).length (encL (rn z)) := by rw [← encode_rn]; exact HasB.of hs
  have hr := runesAt_ascii s _ 0 hA (by
    intro x hx2
    simp only [List.map_cons, List.mem_cons] at hx2
    rcases hx2 with rfl | rfl | hx2
    · decide
    · decide
    · exact (htd x hx2).1)
  rw [List.length_map, Nat.zero_add] at hr
  have hlt : (48 :: 120 :: tl).length < s.size := by
    have := (hB 0 (by unfold encL; split <;> (try split) <;> (try split) <;> simp)).1
    rwa [Nat.add_zero] at this
  rw [runesAt_cons s _ hlt, decode_has (rn_ok z) hB] at hr
  obtain ⟨rest, hrest⟩ : ∃ r, r = runesAt s ((48 :: 120 :: tl).length + (encL (rn z)).length) := ⟨_, rfl⟩
  simp only [← hrest] at hr
  have hsc : ∃ y, scan stepB (runesAt s 0) 0 [] = ((0, 2, 2 + tl.length), y) := by
    rw [hr]
    simp only [List.map_cons, List.cons_append]
    rw [scan, if_neg (by decide), if_pos (by decide), scan, if_neg (by decide), if_pos (by decide)]
    obtain ⟨y, hy⟩ := scan_bad2 stepB (fun x k v => ⟨_, rfl⟩) (tl.map (·.toNat)) (rn z) rest 2 [] (by omega) (fun r hr => (htd r hr).2) hz
    rw [List.length_map] at hy
    exact ⟨y, hy⟩
  obtain ⟨y, hy⟩ := hsc
  unfold bres
  rw [hy]
  unfold bresQ
  rw [if_neg (show ¬ ((2 : Nat) = 0) by decide)]
  simp only [htlen]
  rw [show 2 + (2 * bs.length + (if odd = true then 1 else 0)) = 2 + 2 * bs.length + (if odd = true then 1 else 0) by omega]
end Go.Proofs.YtopeahjdglkheaaDoor
