/- The lines of a code, read again: the pieces of a line, and what its bytes say. No program is walked here. -/
import Derived.Test.YtopeahjdglkheaaDoorHFields
import Derived.Test.YtopeahjdglkheaaDoorHUtf
import Derived.Test.YtopeahjdglkheaaDoorCdTx
namespace Go.Proofs.YtopeahjdglkheaaDoor
open Go.RowKit

/-- Bytes as a text. -/
def tx (l : List UInt8) : ByteArray := ⟨l.toArray⟩
theorem tx_list (l : List UInt8) : (tx l).data.toList = l := rfl
theorem tx_of {s : ByteArray} {l : List UInt8} (h : s.data.toList = l) : s = tx l := by
  subst h; rfl
/-- Words with a blank between. -/
def joinB : List (List UInt8) → List UInt8
  | [] => []
  | [w] => w
  | w :: v :: r => w ++ 32 :: joinB (v :: r)
def vis (c : UInt8) : Prop := 33 ≤ c.toNat ∧ c.toNat < 127
theorem dec1 {s : ByteArray} {p q : List UInt8} {c : UInt8} (h : s.data.toList = p ++ c :: q) (hc : c.toNat < 128) : p.length < s.size ∧ Utf8.decode s p.length = (c.toNat, 1) := by
  have hb := HasB.of (s := s) (p := p) (l := [c]) (q := q) (by simpa using h)
  have h0 := (hb 0 (by simp)).1
  refine ⟨by omega, ?_⟩
  have := decode_has (s := s) (i := p.length) (c := c.toNat) (.inl (by omega)) (by unfold encL; rw [if_pos hc]; exact hb)
  unfold encL at this
  rwa [if_pos hc] at this
theorem size_of {s : ByteArray} {l : List UInt8} (h : s.data.toList = l) : s.size = l.length := by
  rw [← h, Array.length_toList]; rfl
theorem ext_at {s : ByteArray} {p w q : List UInt8} (h : s.data.toList = p ++ (w ++ q)) {e : Nat} (he : e = p.length + w.length) : s.extract p.length e = tx w := by
  subst he
  apply ByteArray.ext
  apply Array.toList_inj.1
  rw [ByteArray.data_extract, Array.toList_extract, h, List.extract_eq_take_drop, tx_list]
  rw [Nat.add_sub_cancel_left, List.drop_left, List.take_left]
theorem wh_vis {c : UInt8} (h : vis c) : wh c.toNat = false := by
  unfold vis at h
  unfold wh
  rw [decide_eq_false_iff_not]; omega
theorem flds_run (s : ByteArray) (a : Nat) : ∀ (w p q : List UInt8), s.data.toList = p ++ (w ++ q) → (∀ c ∈ w, vis c) → flds s p.length (some a) = flds s (p.length + w.length) (some a)
  | [], p, q, _, _ => by simp
  | c :: w, p, q, h, hv => by
    have hc := hv c List.mem_cons_self
    obtain ⟨h1, h2⟩ := dec1 (s := s) (p := p) (c := c) (q := w ++ q) (by simpa using h) (by unfold vis at hc; omega)
    rw [flds_cons s p.length (some a) h1, h2]
    simp only [wh_vis hc]
    have ih := flds_run s a w (p ++ [c]) q (by rw [h]; simp) fun x hx => hv x (List.mem_cons_of_mem _ hx)
    rw [List.length_append, List.length_singleton] at ih
    rw [ih, List.length_cons]
    congr 1
    omega
theorem flds_words (s : ByteArray) : ∀ (ws : List (List UInt8)) (p : List UInt8), s.data.toList = p ++ joinB ws → (∀ w ∈ ws, w ≠ [] ∧ ∀ c ∈ w, vis c) → flds s p.length none = ws.map tx
  | [], p, h, _ => by
    have := size_of h
    rw [flds_end s p.length none (by simp only [joinB, List.append_nil] at this; omega)]
    rfl
  | [w], p, h, hw => by
    obtain ⟨hne, hv⟩ := hw w List.mem_cons_self
    obtain ⟨c, t, rfl⟩ : ∃ c t, w = c :: t := by cases w with | nil => exact absurd rfl hne | cons c t => exact ⟨c, t, rfl⟩
    have hc := hv c List.mem_cons_self
    simp only [joinB] at h
    obtain ⟨h1, h2⟩ := dec1 h (by unfold vis at hc; omega)
    rw [flds_cons s p.length none h1, h2]
    simp only [wh_vis hc]
    have hr := flds_run s p.length t (p ++ [c]) [] (by rw [h]; simp) fun x hx => hv x (List.mem_cons_of_mem _ hx)
    rw [List.length_append, List.length_singleton] at hr
    have hs := size_of h
    rw [List.length_append, List.length_cons] at hs
    rw [hr, flds_end s _ _ (by omega)]
    simp only [List.map_cons, List.map_nil]
    rw [ext_at (s := s) (p := p) (w := c :: t) (q := []) (by rw [h]; simp) (by rw [hs, List.length_cons])]
  | w :: v :: r, p, h, hw => by
    obtain ⟨hne, hv⟩ := hw w List.mem_cons_self
    obtain ⟨c, t, rfl⟩ : ∃ c t, w = c :: t := by cases w with | nil => exact absurd rfl hne | cons c t => exact ⟨c, t, rfl⟩
    have hc := hv c List.mem_cons_self
    simp only [joinB] at h
    obtain ⟨h1, h2⟩ := dec1 (s := s) (p := p) (c := c) (q := t ++ 32 :: joinB (v :: r)) (by rw [h]; simp) (by unfold vis at hc; omega)
    rw [flds_cons s p.length none h1, h2]
    simp only [wh_vis hc]
    have hr := flds_run s p.length t (p ++ [c]) (32 :: joinB (v :: r)) (by rw [h]; simp) fun x hx => hv x (List.mem_cons_of_mem _ hx)
    rw [List.length_append, List.length_singleton] at hr
    rw [hr]
    obtain ⟨h3, h4⟩ := dec1 (s := s) (p := p ++ (c :: t)) (c := 32) (q := joinB (v :: r)) (by rw [h]; simp) (by decide)
    have e : (p ++ c :: t).length = p.length + 1 + t.length := by rw [List.length_append, List.length_cons]; omega
    rw [e] at h3 h4
    rw [flds_cons s _ (some p.length) h3, h4]
    simp only [show wh (32 : UInt8).toNat = true from rfl]
    rw [ext_at (s := s) (p := p) (w := c :: t) (q := 32 :: joinB (v :: r)) (by rw [h]) (by rw [List.length_cons]; omega)]
    have ih := flds_words s (v :: r) (p ++ (c :: t) ++ [32]) (by rw [h]; simp) fun x hx => hw x (List.mem_cons_of_mem _ hx)
    rw [List.length_append, List.length_singleton, e] at ih
    rw [ih]
    rfl
/-- The digits of bytes. -/
def nibs (bs : List Nat) : List Nat := bs.flatMap fun b => [b / 16, b % 16]
theorem pb_nibs : ∀ bs : List Nat, pb (nibs bs) = bs
  | [] => rfl
  | b :: r => by
    show pb (b / 16 :: b % 16 :: nibs r) = b :: r
    rw [pb, pb_nibs r]
    congr 1
    omega
theorem nibs_len (bs : List Nat) : (nibs bs).length = 2 * bs.length := by
  induction bs with
  | nil => rfl
  | cons b r ih => unfold nibs at ih ⊢; rw [List.flatMap_cons, List.length_append, ih]; simp; omega
theorem scan_pure : ∀ (ds : List Nat) (k : Nat) (x : List Nat), 2 ≤ k → (∀ d ∈ ds, d < 16) → scan stepB (ds.map fun d => (hx d).toNat) k x = ((k + ds.length - 2, 0, 0), x ++ ds)
  | [], k, x, hk, _ => by
    simp only [List.map_nil, scan, if_neg (show ¬ k < 2 by omega), List.length_nil, Nat.add_zero, List.append_nil]
  | d :: ds, k, x, hk, hd => by
    have h16 := hd d List.mem_cons_self
    have ok := (hx_dig h16).2
    have hv : digN ((hx d).toNat : Int) = d := by
      have : ∀ d : Nat, d < 16 → digN ((hx d).toNat : Int) = d := by decide
      exact this d h16
    have hb : badAt k ((hx d).toNat : Int) = false := by
      unfold badAt
      rw [if_neg (by omega), if_neg (by omega), ok]; rfl
    have ih := scan_pure ds (k + 1) (x ++ [d]) (by omega) fun y hy => hd y (List.mem_cons_of_mem _ hy)
    simp only [List.map_cons, scan, hb, if_neg (show ¬ k < 2 by omega), stepB, hv, Bool.false_eq_true, if_false]
    rw [ih, List.length_cons]
    simp only [List.append_assoc, List.singleton_append]
    congr 2
    omega
theorem hxs_nibs (bs : List Nat) : (hxs bs).map (·.toNat) = (nibs bs).map fun d => (hx d).toNat := by
  unfold hxs nibs
  induction bs with
  | nil => rfl
  | cons b r ih => simp only [List.flatMap_cons, List.map_append, ih, List.map_cons, List.map_nil]
/-- What is written as bytes is read as these bytes. -/
theorem bres_text {bs : List Nat} (h : Ds 256 bs) : bres (sOf (textL bs)) = (bs, 0, 0) := by
  have hl := textL_htext h
  generalize sOf (textL bs) = s at *
  have hb := HasB.of (s := s) (p := []) (l := htext bs) (q := []) (by rw [hl]; simp)
  have hs := size_of hl
  have hr := runesAt_ascii s ((htext bs).map (·.toNat)) 0 hb (by
    intro x hx
    unfold htext at hx
    simp only [List.map_cons, List.mem_cons] at hx
    rcases hx with rfl | rfl | hx
    · decide
    · decide
    · exact (hxs_dig h x hx).1)
  rw [runesAt_nil s (0 + ((htext bs).map (·.toNat)).length) (by rw [hs, List.length_map]; omega), List.append_nil] at hr
  unfold bres
  rw [hr]
  unfold htext
  simp only [List.map_cons, scan, show badAt 0 (((48 : UInt8).toNat : Nat) : Int) = false from rfl, show badAt (0 + 1) (((120 : UInt8).toNat : Nat) : Int) = false from rfl, Bool.false_eq_true, if_false, if_pos (show 0 < 2 by omega), if_pos (show 0 + 1 < 2 by omega)]
  rw [hxs_nibs, scan_pure (nibs bs) (0 + 1 + 1) [] (by omega) (fun d hd => by
    unfold nibs at hd
    simp only [List.mem_flatMap, List.mem_cons, List.not_mem_nil, or_false] at hd
    obtain ⟨b, hb, rfl | rfl⟩ := hd
    · have := h b hb; omega
    · omega), nibs_len]
  unfold bresQ
  simp only [List.nil_append, if_true]
  rw [if_neg (by omega), pb_nibs]

theorem decF_dig : ∀ k n : Nat, decF k n ≠ [] ∧ ∀ x ∈ decF k n, 48 ≤ x ∧ x ≤ 57
  | 0, n => by
    rw [decF]
    exact ⟨by simp, fun x hx => by simp at hx; omega⟩
  | k + 1, n => by
    have ih := decF_dig k (n / 10)
    rw [decF]
    split
    · exact ⟨by simp, fun x hx => by simp at hx; omega⟩
    · refine ⟨by simp, fun x hx => ?_⟩
      rw [List.mem_append] at hx
      rcases hx with hx | hx
      · exact ih.2 x hx
      · simp at hx; omega
theorem vis_nat {x : Nat} (h0 : 33 ≤ x) (h1 : x < 127) : vis (UInt8.ofNat x) := by
  unfold vis
  rw [UInt8.toNat_ofNat_of_lt' (by show x < 256; omega)]
  exact ⟨h0, h1⟩
theorem name_vis : ∀ late : Bool, ∀ n : Nat, n < 256 → opFirst n ≠ 99 → (rowN late n).1.data.toList ≠ [] ∧ ∀ c ∈ (rowN late n).1.data.toList, 33 ≤ c.toNat ∧ c.toNat < 127 := by decide +kernel
theorem nameZ_vis {f : Int} {n : Nat} (h : opZ f n = true) : (nameZ f n).data.toList ≠ [] ∧ ∀ c ∈ (nameZ f n).data.toList, vis c := by
  obtain ⟨h1, h2, h3⟩ := opZ_there h
  unfold nameZ
  rw [if_pos h, Int.toNat_natCast]
  exact name_vis _ n (by omega) h1
theorem nameZ_cases {f : Int} {n : Nat} (h : nameZ f n ≠ ⟨#[]⟩) : opZ f n = true := by
  cases ho : opZ f n with
  | true => rfl
  | false => exact absurd (nameZ_none ho) h
/-- The words of a line. -/
def wordsZ (f : Int) (i b : Nat) (r : List Nat) : List (List UInt8) :=
  if nameZ f b = ⟨#[]⟩ then [(decL i).map UInt8.ofNat, [73, 78, 86, 65, 76, 73, 68], htext [b]]
  else if 0 < ownZ b then [(decL i).map UInt8.ofNat, (nameZ f b).data.toList, htext (r.take (ownZ b))] else [(decL i).map UInt8.ofNat, (nameZ f b).data.toList]
theorem line_join {f : Int} {i b : Nat} {r : List Nat} (hb : b < 256) (hr : Ds 256 r) : (lineZ f i b r).data.toList = joinB (wordsZ f i b r) := by
  have h1 : Ds 256 [b] := fun x hx => by simp at hx; omega
  have h2 : Ds 256 (r.take (ownZ b)) := fun x hx => hr x (List.mem_of_mem_take hx)
  unfold lineZ wordsZ
  split
  · simp only [ByteArray.data_append, Array.toList_append, textL_htext h1, sOf_list, joinB]
    simp
  · split
    · simp only [ByteArray.data_append, Array.toList_append, textL_htext h2, sOf_list, joinB]
      simp
    · simp only [ByteArray.data_append, Array.toList_append, sOf_list, joinB]
      simp
theorem words_vis {f : Int} {i b : Nat} {r : List Nat} (hb : b < 256) (hr : Ds 256 r) : ∀ w ∈ wordsZ f i b r, w ≠ [] ∧ ∀ c ∈ w, vis c := by
  have hd : (decL i).map UInt8.ofNat ≠ [] ∧ ∀ c ∈ (decL i).map UInt8.ofNat, vis c := by
    obtain ⟨h1, h2⟩ := decF_dig 9 i
    refine ⟨fun e => h1 (List.map_eq_nil_iff.1 e), fun c hc => ?_⟩
    obtain ⟨x, hx, rfl⟩ := List.mem_map.1 hc
    have := h2 x hx
    exact vis_nat (by omega) (by omega)
  have ht : ∀ bs : List Nat, Ds 256 bs → htext bs ≠ [] ∧ ∀ c ∈ htext bs, vis c := fun bs hbs => by
    refine ⟨by simp [htext], fun c hc => ?_⟩
    have hm : c.toNat ∈ (htext bs).map (·.toNat) := List.mem_map.2 ⟨c, hc, rfl⟩
    unfold htext at hm
    simp only [List.map_cons, List.mem_cons] at hm
    unfold vis
    rcases hm with h | h | h
    · rw [h]; decide
    · rw [h]; decide
    · have h3 := (hxs_dig hbs _ h).2
      unfold digOk at h3
      simp only [Bool.or_eq_true, decide_eq_true_eq] at h3
      omega
  have h1 := ht [b] fun x hx => by simp at hx; omega
  have h2 := ht (r.take (ownZ b)) fun x hx => hr x (List.mem_of_mem_take hx)
  intro w hw
  unfold wordsZ at hw
  split at hw
  · simp only [List.mem_cons, List.not_mem_nil, or_false] at hw
    rcases hw with rfl | rfl | rfl
    · exact hd
    · exact ⟨by simp, by unfold vis; decide⟩
    · exact h1
  · rename_i hn
    have h3 := nameZ_vis (nameZ_cases hn)
    split at hw
    · simp only [List.mem_cons, List.not_mem_nil, or_false] at hw
      rcases hw with rfl | rfl | rfl
      · exact hd
      · exact h3
      · exact h2
    · simp only [List.mem_cons, List.not_mem_nil, or_false] at hw
      rcases hw with rfl | rfl
      · exact hd
      · exact h3
/-- The pieces of a line. -/
theorem flds_line {f : Int} {i b : Nat} {r : List Nat} (hb : b < 256) (hr : Ds 256 r) : flds (lineZ f i b r) 0 none = (wordsZ f i b r).map tx :=
  flds_words (lineZ f i b r) (wordsZ f i b r) [] (by rw [line_join hb hr]; rfl) (words_vis hb hr)
theorem joinB_low : ∀ ws : List (List UInt8), (∀ w ∈ ws, w ≠ [] ∧ ∀ c ∈ w, vis c) → ∀ c ∈ joinB ws, 32 ≤ c.toNat ∧ c.toNat < 127
  | [], _, c, hc => by simp [joinB] at hc
  | [w], h, c, hc => by
    have := (h w List.mem_cons_self).2 c hc
    unfold vis at this; omega
  | w :: v :: r, h, c, hc => by
    simp only [joinB, List.mem_append, List.mem_cons] at hc
    rcases hc with hc | rfl | hc
    · have := (h w List.mem_cons_self).2 c hc
      unfold vis at this; omega
    · decide
    · exact joinB_low (v :: r) (fun x hx => h x (List.mem_cons_of_mem _ hx)) c hc
/-- A line has no end of a line in it. -/
theorem line_low {f : Int} {i b : Nat} {r : List Nat} (hb : b < 256) (hr : Ds 256 r) : ∀ c ∈ (lineZ f i b r).data.toList, 32 ≤ c.toNat ∧ c.toNat < 127 := by
  rw [line_join hb hr]; exact joinB_low _ (words_vis hb hr)
end Go.Proofs.YtopeahjdglkheaaDoor
