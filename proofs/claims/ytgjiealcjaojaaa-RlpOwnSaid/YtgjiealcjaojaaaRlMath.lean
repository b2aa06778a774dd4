/- Forms and reading, of bytes: what is written is read again, and what is read is written again. -/
import Derived.Test.YtgjiealcjaojaaaRlEncode
import Derived.Test.YtgjiealcjaojaaaRlRead
namespace Go.Proofs.Ytgjiealcjaojaaa
open Go.RowKit

theorem lastB_be_take (n k : Nat) : ∀ m, m ≤ k → be ((lastB n k).take m) = n / 256 ^ (k - m) % 256 ^ m := by
  intro m
  induction m with
  | zero => intro _; simp [be, dv, Nat.mod_one]
  | succ m ih =>
    intro h
    rw [be_take (by rw [lastB_len]; omega), ih (by omega)]
    have e1 : (lastB n k).getD m 0 = n / 256 ^ (k - (m + 1)) % 256 := by
      rw [List.getD_eq_getElem?_getD, List.getElem?_eq_getElem (by rw [lastB_len]; omega)]
      simp [lastB, show k - 1 - m = k - (m + 1) by omega]
    rw [e1]
    have e2 : n / 256 ^ (k - m) = n / 256 ^ (k - (m + 1)) / 256 := by
      rw [Nat.div_div_eq_div_mul, ← Nat.pow_succ, show (k - (m + 1)).succ = k - m by omega]
    rw [e2, Nat.pow_succ 256 m, Nat.mul_comm (256 ^ m) 256, Nat.mod_mul]
    omega
theorem lastB_be {n k : Nat} (h : n < 256 ^ k) : be (lastB n k) = n := by
  have := lastB_be_take n k k (Nat.le_refl _)
  rw [List.take_of_length_le (by rw [lastB_len]; omega), Nat.sub_self, Nat.pow_zero, Nat.div_one, Nat.mod_eq_of_lt h] at this
  exact this
theorem lsz_spec {n : Nat} (h0 : 0 < n) (h : n ≤ 1099511627776) : n < 256 ^ lsz n ∧ 1 ≤ lsz n ∧ 256 ^ (lsz n - 1) ≤ n := by
  obtain ⟨h1, -, h2⟩ := bitLen_is n (by unfold Lim; omega)
  obtain ⟨h3, h4⟩ := h2 (by omega)
  unfold lsz
  have e : ∀ j, (256 : Nat) ^ j = 2 ^ (8 * j) := fun j => by rw [Nat.pow_mul]
  refine ⟨?_, by omega, ?_⟩
  · rw [e]
    exact Nat.lt_of_lt_of_le h1 (Nat.pow_le_pow_right (by omega) (by omega))
  · rw [e]
    exact Nat.le_trans (Nat.pow_le_pow_right (by omega) (by omega)) h4
theorem lsz_uniq {n k : Nat} (h0 : 0 < n) (h : n ≤ 1099511627776) (h1 : n < 256 ^ k) (hk : 1 ≤ k) (h2 : 256 ^ (k - 1) ≤ n) : lsz n = k := by
  obtain ⟨a, b, c⟩ := lsz_spec h0 h
  have lt : ∀ {i j : Nat}, 256 ^ i < 256 ^ j → i < j := fun {i j} hh => by
    apply Classical.byContradiction
    intro hn
    exact absurd (Nat.pow_le_pow_right (show 0 < 256 by omega) (show j ≤ i by omega)) (by omega)
  have x1 := lt (Nat.lt_of_le_of_lt h2 a)
  have x2 := lt (Nat.lt_of_le_of_lt c h1)
  omega
/-- A length's own bytes are read as that length. -/
theorem lenS_form {n : Nat} (r : List Nat) (h : n ≤ 1099511627776) (h1 : 55 < n) : lenS (55 + lsz n) (lastB n (lsz n) ++ r) = some (n, r) := by
  obtain ⟨a, b, c⟩ := lsz_spec (by omega) h
  unfold lenS
  have hl := lastB_len n (lsz n)
  have e0 : (lastB n (lsz n) ++ r).getD 0 0 = n / 256 ^ (lsz n - 1) % 256 := by
    rw [List.getD_eq_getElem?_getD, List.getElem?_append_left (by omega), List.getElem?_eq_getElem (by omega)]
    simp [lastB]
  have e1 : n / 256 ^ (lsz n - 1) < 256 := by
    rw [Nat.div_lt_iff_lt_mul (Nat.pow_pos (by omega)), Nat.mul_comm, ← Nat.pow_succ, show (lsz n - 1).succ = lsz n by omega]; exact a
  have e2 : 0 < n / 256 ^ (lsz n - 1) := Nat.div_pos c (Nat.pow_pos (by omega))
  rw [if_neg (by omega), show 55 + lsz n - 55 = lsz n by omega, if_neg (by rw [e0, Nat.mod_eq_of_lt e1, List.length_append]; omega)]
  rw [List.take_left' hl, lastB_be a, if_neg (by omega), List.drop_left' hl]
/-- A head and its payload, read. -/
theorem lenS_head {base : Nat} (p r : List Nat) (h : p.length ≤ 1099511627776) : (hdB base p.length ++ p ++ r).length ≠ 0 ∧ ∃ a, (hdB base p.length ++ p ++ r).getD 0 0 = base + a ∧ a ≤ 61 ∧ lenS a ((hdB base p.length ++ p ++ r).drop 1) = some (p.length, p ++ r) := by
  unfold hdB
  split
  · rename_i h1
    refine ⟨by simp, p.length, by simp, by omega, ?_⟩
    simp [lenS, h1]
  · rename_i h1
    have := lsz_le h
    refine ⟨by simp, 55 + lsz p.length, by simp; omega, by omega, ?_⟩
    simp only [List.cons_append, List.drop_succ_cons, List.drop_zero, List.append_assoc]
    exact lenS_form _ h (by omega)
theorem fstS_text (bs r : List Nat) (h : bs.length ≤ 1099511627776) : fstS (formT bs ++ r) = some (false, bs, r) := by
  unfold formT
  split
  · rename_i hb
    obtain ⟨h1, h2⟩ := of_decide_eq_true hb
    match bs, h1 with
    | [x], _ =>
      have h2 : x < 128 := h2
      simp [fstS, h2]
  · rename_i hb
    obtain ⟨h0, a, ha, h1, h2⟩ := lenS_head (base := 128) bs r h
    unfold fstS
    rw [if_neg h0, ha, if_neg (by omega), if_neg (by omega), show 128 + a - 128 = a by omega, h2]
    simp only [List.length_append]
    rw [if_neg (by omega), if_neg (by omega), List.take_left' rfl, if_neg hb, List.drop_left' rfl]
theorem fstS_list (p r : List Nat) (h : p.length ≤ 1099511627776) : fstS (hdB 192 p.length ++ p ++ r) = some (true, p, r) := by
  obtain ⟨h0, a, ha, h1, h2⟩ := lenS_head (base := 192) p r h
  unfold fstS
  rw [if_neg h0, ha, if_neg (by omega), if_pos (by omega), show 192 + a - 192 = a by omega, h2]
  simp only [List.length_append]
  rw [if_neg (by omega), if_pos (by omega), List.take_left' rfl, List.drop_left' rfl]
mutual
/-- An item as it is read: a list without bytes, a text without items. -/
def plainI : Itm → Itm
  | .mk l bs xs => if l = true then .mk true [] (plainL xs) else .mk false bs []
def plainL : List Itm → List Itm
  | [] => []
  | x :: xs => plainI x :: plainL xs
end
def FormRead (x : Itm) : Prop := ∀ (d n : Nat) (r : List Nat), okN x n = true → n + d = 1024 → fsz x ≤ 1099511627776 → ReadR (form x ++ r) d (.ok (plainI x, r))
theorem row_form : ∀ (xs : List Itm), (∀ (j : Nat) (x : Itm), xs[j]? = some x → FormRead x) → ∀ (d n : Nat), okL xs n = true → n + d = 1024 → psz xs ≤ 1099511627776 → RowR (formL xs) d (.ok (plainL xs))
  | [], _, d, _, _, _, _ => by rw [formL, plainL]; exact .nil
  | x :: xs, ih, d, n, hk, hd, hs => by
    rw [okL, Bool.and_eq_true] at hk
    rw [psz] at hs
    rw [formL, plainL]
    refine .cons ?_ (ih 0 x rfl d n _ hk.1 hd (by omega)) (row_form xs (fun j y hj => ih (j + 1) y (by simpa using hj)) d n hk.2 hd (by omega))
    rw [List.length_append, form_len]
    have := fsz_pos x
    omega
theorem read_form : ∀ x, FormRead x := Itm.ind fun l bs xs ih d n r hk hd hs => by
  rw [form, plainI]
  rw [fsz] at hs
  rw [okN.eq_def] at hk
  dsimp only at hk
  cases l with
  | true =>
    rw [if_pos rfl] at hk hs ⊢
    rw [if_pos rfl]
    match n, hk with
    | n + 1, hk =>
      have hk : okL xs n = true := hk
      have hl : (formL xs).length = psz xs := formL_len xs
      have := fstS_list (formL xs) r (by omega)
      rw [hl] at this
      exact .list this (by omega) (row_form xs ih (d + 1) n hk (by omega) (by omega))
  | false =>
    rw [if_neg (by simp)] at hs ⊢
    rw [if_neg (by simp)]
    refine .text (fstS_text bs r ?_)
    unfold tsz at hs
    split at hs
    · rename_i hb
      have := (of_decide_eq_true hb).1
      omega
    · omega

/-! Back: what is read is written again. -/
theorem lastB_of {p : List Nat} (hd : Ds 256 p) : lastB (be p) p.length = p := by
  apply List.ext_getElem
  · rw [lastB_len]
  · intro i h1 h2
    simp only [lastB, List.getElem_map, List.getElem_range]
    unfold be
    rw [dv_digit hd.reverse (by omega)]
    rw [List.getD_eq_getElem?_getD, List.getElem?_eq_getElem (by rw [List.length_reverse]; omega)]
    simp only [Option.getD_some, List.getElem_reverse]
    congr 1
    omega
theorem be_ge {p : List Nat} (h0 : 0 < p.length) (hz : p.getD 0 0 ≠ 0) : 256 ^ (p.length - 1) ≤ be p := by
  match p, h0 with
  | x :: xs, _ =>
    have hz : x ≠ 0 := hz
    unfold be
    rw [List.reverse_cons, dv_append]
    simp only [List.length_cons, List.length_reverse, dv, Nat.add_sub_cancel]
    have : 256 ^ xs.length * 1 ≤ 256 ^ xs.length * (x + 256 * 0) := Nat.mul_le_mul_left _ (by omega)
    omega
theorem lenS_back {a n : Nat} {raw u : List Nat} {base : Nat} (h : lenS a raw = some (n, u)) (hd : Ds 256 raw) (hn : n ≤ 1099511627776) : (base + a) :: raw = hdB base n ++ u ∧ n ≤ 1099511627776 := by
  refine ⟨?_, hn⟩
  unfold lenS at h
  split at h
  · rename_i h1
    injection h with h; injection h with e1 e2; subst e1 e2
    unfold hdB; rw [if_pos h1]; rfl
  · rename_i h1
    split at h
    · cases h
    · rename_i h2
      split at h
      · cases h
      · rename_i h3
        injection h with h; injection h with e1 e2
        have hl : (raw.take (a - 55)).length = a - 55 := by rw [List.length_take]; omega
        have g0 : (raw.take (a - 55)).getD 0 0 = raw.getD 0 0 := by
          rw [List.getD_eq_getElem?_getD, List.getElem?_take_of_lt (by omega), List.getD_eq_getElem?_getD]
        have hlt := be_lt (hd.take (a - 55))
        have hge := be_ge (p := raw.take (a - 55)) (by omega) (by rw [g0]; omega)
        have hlb := lastB_of (hd.take (a - 55))
        rw [hl, e1] at hlt hge hlb
        have hu := lsz_uniq (by omega) hn hlt (by omega) hge
        unfold hdB
        rw [if_neg (by omega), hu, hlb, ← e2, List.cons_append, List.take_append_drop, show base + 55 + (a - 55) = base + a by omega]
theorem lenS_ds {a n : Nat} {raw u : List Nat} (h : lenS a raw = some (n, u)) (hd : Ds 256 raw) : Ds 256 u := by
  unfold lenS at h
  split at h
  · injection h with h; injection h with _ e; rw [← e]; exact hd
  · split at h
    · cases h
    · split at h
      · cases h
      · injection h with h; injection h with _ e; rw [← e]; exact hd.drop _
theorem fstS_back {raw u r : List Nat} {l : Bool} (h : fstS raw = some (l, u, r)) (hd : Ds 256 raw) (hr : raw.length ≤ 1099511627776) : raw = (if l = true then hdB 192 u.length ++ u else formT u) ++ r ∧ Ds 256 u ∧ Ds 256 r := by
  match raw, hr with
  | [], _ => simp [fstS] at h
  | x :: xs, hr =>
    unfold fstS at h
    rw [if_neg (by simp)] at h
    simp only [List.getD_cons_zero, List.drop_succ_cons, List.drop_zero, List.take_succ_cons, List.take_zero] at h
    split at h
    · rename_i h1
      injection h with h; injection h with e1 e2; injection e2 with e2 e3
      subst e1 e2 e3
      refine ⟨?_, Ds.mk hd.cons.1 Ds.nil, hd.cons.2⟩
      rw [if_neg (by simp)]
      unfold formT
      rw [if_pos (by unfold bareB; simpa using h1)]
      rfl
    · rename_i h1
      split at h
      · cases h
      · rename_i n v hl
        split at h
        · cases h
        · rename_i h2
          have hn : n ≤ 1099511627776 := by
            have := lenS_len hl (Nat.le_refl _)
            simp only [List.length_cons] at hr
            omega
          have hv : Ds 256 v := lenS_ds hl hd.cons.2
          have htl : (v.take n).length = n := by rw [List.length_take]; omega
          split at h
          · rename_i h3
            injection h with h; injection h with e1 e2; injection e2 with e2 e3
            subst e1 e2 e3
            refine ⟨?_, hv.take _, hv.drop _⟩
            rw [if_pos h3] at hl
            have := (lenS_back (base := 192) hl hd.cons.2 hn).1
            rw [show 192 + (x - 192) = x by omega] at this
            rw [if_pos rfl, htl, List.append_assoc, List.take_append_drop, this]
          · rename_i h3
            split at h
            · cases h
            · rename_i h4
              injection h with h; injection h with e1 e2; injection e2 with e2 e3
              subst e1 e2 e3
              refine ⟨?_, hv.take _, hv.drop _⟩
              rw [if_neg h3] at hl
              have := (lenS_back (base := 128) hl hd.cons.2 hn).1
              rw [show 128 + (x - 128) = x by omega] at this
              rw [if_neg (by simp)]
              unfold formT
              rw [if_neg h4, htl, List.append_assoc, List.take_append_drop, this]
/-- What is read is written again, and by the rules of depth. -/
def BackR (raw : List Nat) (d : Nat) (a : Except Nat (Itm × List Nat)) : Prop := Ds 256 raw → raw.length ≤ 1099511627776 → d ≤ 1024 → ∀ x r, a = .ok (x, r) → raw = form x ++ r ∧ okN x (1024 - d) = true ∧ plainI x = x
def BackW (raw : List Nat) (d : Nat) (a : Except Nat (List Itm)) : Prop := Ds 256 raw → raw.length ≤ 1099511627776 → d ≤ 1024 → ∀ l, a = .ok l → raw = formL l ∧ okL l (1024 - d) = true ∧ plainL l = l
mutual
theorem read_back {raw d a} (h : ReadR raw d a) : BackR raw d a := by
  match h with
  | .bad _ => intro _ _ _ x r e; cases e
  | .deep _ => intro _ _ _ x r e; cases e
  | .wrong _ _ _ => intro _ _ _ x r e; cases e
  | .text hf =>
    intro hd hl h1 x r e
    injection e with e; injection e with e1 e2; subst e1 e2
    obtain ⟨e, -, -⟩ := fstS_back hf hd hl
    rw [if_neg (by simp)] at e
    refine ⟨?_, ?_, ?_⟩
    · rw [form, if_neg (by simp)]; exact e
    · rw [okN.eq_def]; rfl
    · rw [plainI, if_neg (by simp)]
  | .list (l := l) hf hn hw =>
    intro hd hl h1 x r e
    injection e with e; injection e with e1 e2; subst e1 e2
    obtain ⟨e, hu, -⟩ := fstS_back hf hd hl
    rw [if_pos rfl] at e
    have hlen := (fstS_len hf).2 rfl
    obtain ⟨g1, g2, g3⟩ := row_back hw hu (by omega) (by omega) l rfl
    refine ⟨?_, ?_, ?_⟩
    · rw [form, if_pos rfl, ← formL_len, ← g1]; exact e
    · rw [okN.eq_def, show 1024 - d = (1024 - (d + 1)) + 1 by omega]
      exact g2
    · rw [plainI, if_pos rfl, g3]
theorem row_back {raw d a} (h : RowR raw d a) : BackW raw d a := by
  match h with
  | .nil => intro _ _ _ l e; injection e with e; subst e; exact ⟨by rw [formL], by rw [okL], by rw [plainL]⟩
  | .here _ _ => intro _ _ _ x e; cases e
  | .behind _ _ _ => intro _ _ _ x e; cases e
  | .cons (x := y) (r := r) (l := l) hp hx hw =>
    intro hd hl h1 l' e
    injection e with e; subst e
    obtain ⟨e, k1, k2⟩ := read_back hx hd hl h1 y r rfl
    have hr : Ds 256 r := fun z hz => hd z (by rw [e]; exact List.mem_append_right _ hz)
    have hrl : r.length ≤ 1099511627776 := by have := congrArg List.length e; rw [List.length_append] at this; omega
    obtain ⟨g1, g2, g3⟩ := row_back hw hr hrl h1 l rfl
    refine ⟨?_, ?_, ?_⟩
    · rw [formL, ← g1]; exact e
    · rw [okL, k1, g2]; rfl
    · rw [plainL, k2, g3]
end
/-- Behind a whole form nothing may stand; a form and more is a form and more. -/
theorem read_form0 {x : Itm} (r : List Nat) (hk : okN x 1024 = true) (hs : fsz x ≤ 1099511627776) : ReadR (form x ++ r) 0 (.ok (plainI x, r)) := read_form x 0 1024 r hk rfl hs
theorem read_back0 {raw r : List Nat} {x : Itm} (h : ReadR raw 0 (.ok (x, r))) (hd : Ds 256 raw) (hl : raw.length ≤ 1099511627776) : raw = form x ++ r ∧ okN x 1024 = true ∧ plainI x = x := read_back h hd hl (by omega) x r rfl
end Go.Proofs.Ytgjiealcjaojaaa
