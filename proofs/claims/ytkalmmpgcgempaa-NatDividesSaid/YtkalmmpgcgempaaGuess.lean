/- The contract of package word's guess: a digit by the three highest limbs of what is left and the two highest of the divisor. -/
import Derived.Test.YtkalmmpgcgempaaDiv64
import Derived.Test.YtkalmmpgcgempaaWordLeaf
import Derived.Test.YtkalmmpgcgempaaWordMath
import Derived.Deep.Quiet
namespace Go.Proofs.Ytkalmmpgcgempaa
open Go.RowKit

/-- What guess reckons. -/
def guessF (n2 n1 n0 d1 d0 : Nat) : Nat :=
  if d1 ≤ n2 then 18446744073709551615
  else if (n2 * 18446744073709551616 + n1) % d1 * 18446744073709551616 + n0 < (n2 * 18446744073709551616 + n1) / d1 * d0 then (n2 * 18446744073709551616 + n1) / d1 - 1
  else (n2 * 18446744073709551616 + n1) / d1
def RetDrewV (v : Value) (w : World) (e : Ending) (w' : World) : Prop := e = .returned v ∧ ∃ n, w' = w.drewN n

theorem wrap_pred {q : Nat} (lq : Lim q) (h : 1 ≤ q) : IntKind.u64.wrap ((q : Int) - 1) = ((q - 1 : Nat) : Int) := by
  unfold Lim at lq
  rw [IntKind.wrap_u64]; omega
theorem two_cmp {h l r n0 p : Nat} (e : l + 18446744073709551616 * h = p) (hl : l < 18446744073709551616) (hn : n0 < 18446744073709551616) : (r * 18446744073709551616 + n0 < p) ↔ (r < h ∨ (h = r ∧ n0 < l)) := by omega

set_option maxRecDepth 100000 in
set_option maxHeartbeats 1600000 in
theorem guess_c (n2 n1 n0 d1 d0 : Nat) (h1 : Lim n1) (h0 : Lim n0) (g1 : Lim d1) (g0 : Lim d0) (w : World) :
    Calls Try.prog 159 #[.int .u64 n2, .int .u64 n1, .int .u64 n0, .int .u64 d1, .int .u64 d0] w (RetDrewV (.int .u64 (guessF n2 n1 n0 d1 d0 : Nat)) w) := by
  by_cases hge : (d1 : Int) ≤ (n2 : Int)
  · go_enter Try.func159, Try.ntmps159
    go_wp2_with fail
    go_ret
    exact ⟨by unfold guessF; rw [if_pos (by omega)]; rfl, 0, rfl⟩
  · go_enter Try.func159, Try.ntmps159
    go_wp2_with fail
    refine (div64_c n2 n1 d1 h1 g1 (by omega) _).mono ?_
    rintro e w1 ⟨q, r, n, rfl, eq, er, lq, rfl⟩
    have EQ := Lib.hid eq
    have ER := Lib.hid er
    clear eq er
    have lr : Lim r := by rw [ER.out]; exact Nat.lt_trans (Nat.mod_lt _ (by omega)) g1
    go_wp2_with fail
    refine (mul64_c q d0 lq g0 _).mono ?_
    rintro e w2 ⟨h, l, rfl, hP, rfl⟩
    have hc := two_cmp (r := r) (n0 := n0) hP.1 hP.2.1 h0
    have HP := Lib.hid hP
    have hq1 : r < h ∨ (h = r ∧ n0 < l) → 1 ≤ q := fun hh => by
      have := hc.2 hh
      rcases Nat.eq_zero_or_pos q with rfl | h'
      · rw [Nat.zero_mul] at this; omega
      · exact h'
    have hF : ∀ t, (r < h ∨ (h = r ∧ n0 < l)) → t = q - 1 → guessF n2 n1 n0 d1 d0 = t := fun t hh ht => by
      unfold guessF
      rw [if_neg (by omega), ← EQ.out, ← ER.out, if_pos (hc.2 hh), ht]
    have hG : ¬ (r < h ∨ (h = r ∧ n0 < l)) → guessF n2 n1 n0 d1 d0 = q := fun hh => by
      unfold guessF
      rw [if_neg (by omega), ← EQ.out, ← ER.out, if_neg (fun h' => hh (hc.1 h'))]
    have HF := Lib.hid hF
    have HG := Lib.hid hG
    have HQ := Lib.hid hq1
    clear hP hc hF hG hq1
    by_cases c1 : (r : Int) < (h : Int)
    · have hq : 1 ≤ (q : Int) := by have := HQ.out (.inl (by omega)); omega
      go_wp2_with fail
      go_ret
      exact ⟨by rw [HF.out (q - 1) (.inl (by omega)) rfl, wrap_pred lq (HQ.out (.inl (by omega)))]; rfl, n, rfl⟩
    · by_cases c2 : h = r
      · subst c2
        by_cases c3 : (n0 : Int) < (l : Int)
        · have hq : 1 ≤ (q : Int) := by have := HQ.out (.inr ⟨by trivial, by omega⟩); omega
          go_wp2_with fail
          go_ret
          exact ⟨by rw [HF.out (q - 1) (.inr ⟨by trivial, by omega⟩) rfl, wrap_pred lq (HQ.out (.inr ⟨by trivial, by omega⟩))]; rfl, n, rfl⟩
        · go_wp2_with fail
          go_ret
          exact ⟨by rw [HG.out (by omega)]; rfl, n, rfl⟩
      · have hb : ((h : Int) == r) = false := by simp; omega
        go_wp2_with fail
        go_ret
        exact ⟨by rw [HG.out (by omega)]; rfl, n, rfl⟩
end Go.Proofs.Ytkalmmpgcgempaa
/- The contracts of package word's takeAway and giveBack: digit times d is taken from a row of limbs; d is given back. -/
namespace Go.Proofs.Ytkalmmpgcgempaa
open Go.RowKit

/-- Block g alone may have changed. -/
structure Touch (g : Nat) (w w' : World) : Prop where
  os : w'.os = w.os
  tape : w'.tape = w.tape
  output : w'.output = w.output
  size : w'.heap.size = w.heap.size
  block : ∀ k, k ≠ g → w'.heap[k]? = w.heap[k]?
theorem Touch.refl (g : Nat) (w : World) : Touch g w w := ⟨rfl, rfl, rfl, rfl, fun _ _ => rfl⟩
theorem Touch.trans {g : Nat} {a b c : World} (h : Touch g a b) (k : Touch g b c) : Touch g a c :=
  ⟨k.os.trans h.os, k.tape.trans h.tape, k.output.trans h.output, k.size.trans h.size, fun i hi => (k.block i hi).trans (h.block i hi)⟩
theorem Touch.put (g i : Nat) (w : World) (v : Value) : Touch g w (w.setCell ⟨g, i, none⟩ v) :=
  ⟨rfl, rfl, rfl, by simp [World.setCell], fun k hk => Below.heap_setCell w ⟨g, i, none⟩ v k hk⟩
theorem Touch.drewN (g : Nat) (w : World) (n : Nat) : Touch g w (w.drewN n) := ⟨rfl, rfl, rfl, rfl, fun _ _ => rfl⟩
theorem Touch.arr {g f : Nat} {w w' : World} {t : TypeId} {xs : List Nat} (h : Touch g w w') (a : Arr w f t xs) (hf : f ≠ g) : Arr w' f t xs := (h.block f hf).trans a
theorem Touch.below {g B : Nat} {a w w' : World} (h : Touch g w w') (b : Below B a w) (hg : B ≤ g) : Below B a w' :=
  b.trans ⟨h.os, h.tape, h.output, by rw [h.size]; exact Nat.le_refl _, fun k hk => h.block k (by omega)⟩

/-- Within takeAway, k limbs done: c is carried, b borrowed. -/
def TakeInv (xs ys : List Nat) (off digit k c b : Nat) (zs : List Nat) : Prop := vl zs + 18446744073709551616 ^ off * (digit * vl (ys.take k)) = vl xs + 18446744073709551616 ^ (off + k) * (c + b)
theorem take_step {xs ys zs : List Nat} {off digit k c b c' lo s b' : Nat} (h : TakeInv xs ys off digit k c b zs) (hk : off + k < zs.length) (hy : k < ys.length)
    (hM : MulA (ys.getD k 0) digit c 0 c' lo) (hS : SubC (zs.getD (off + k) 0) lo b s b') : TakeInv xs ys off digit (k + 1) c' b' (zs.set (off + k) s) := by
  unfold TakeInv at *
  have e1 := val_set zs (off + k) s hk
  rw [val_take_succ ys k hy, ← Nat.add_assoc, Nat.pow_succ]
  rw [Nat.pow_add] at *
  obtain ⟨m, _, _⟩ := hM
  obtain ⟨q, _, _⟩ := hS
  generalize 18446744073709551616 ^ off = P at *
  generalize 18446744073709551616 ^ k = J at *
  generalize vl (zs.set (off + k) s) = Z' at *
  generalize vl (ys.take k) = Y at *
  generalize vl zs = Z at *
  generalize vl xs = X at *
  generalize zs.getD (off + k) 0 = x at *
  generalize ys.getD k 0 = y at *
  have f1 : P * J * (s + lo + b) = P * J * (x + 18446744073709551616 * b') := by rw [q]
  have f2 : P * J * (lo + 18446744073709551616 * c') = P * J * (y * digit + c + 0) := by rw [m]
  clear hk hy m q
  grind
theorem take_end {xs ys zs : List Nat} {off digit n c b s b' : Nat} (h : TakeInv xs ys off digit n c b zs) (hk : off + n < zs.length) (hS : SubC (zs.getD (off + n) 0) c b s b') :
    vl (zs.set (off + n) s) + 18446744073709551616 ^ off * (digit * vl (ys.take n)) = vl xs + 18446744073709551616 ^ (off + n + 1) * b' := by
  unfold TakeInv at *
  have e1 := val_set zs (off + n) s hk
  rw [Nat.pow_succ]
  obtain ⟨q, _, _⟩ := hS
  generalize 18446744073709551616 ^ (off + n) = J at *
  generalize vl (zs.set (off + n) s) = Z' at *
  generalize 18446744073709551616 ^ off * (digit * vl (ys.take n)) = Y at *
  generalize vl zs = Z at *
  generalize vl xs = X at *
  generalize zs.getD (off + n) 0 = x at *
  have f1 : J * (s + c + b) = J * (x + 18446744073709551616 * b') := by rw [q]
  clear hk q
  grind

/-- What takeAway tells and leaves. -/
def RetTake (g : Nat) (t : TypeId) (xs ys : List Nat) (off n digit : Nat) (w : World) (e : Ending) (w' : World) : Prop :=
  ∃ (b : Nat) (zs : List Nat), e = .returned (.bool ((b : Int) == 1)) ∧ b ≤ 1 ∧ zs.length = xs.length ∧ Lims zs ∧ vl zs + 18446744073709551616 ^ off * (digit * vl (ys.take n)) = vl xs + 18446744073709551616 ^ (off + n + 1) * b ∧
    (∀ j, off + n + 1 ≤ j → zs.getD j 0 = xs.getD j 0) ∧ Arr w' g t zs ∧ Touch g w w'

set_option maxRecDepth 100000 in
set_option maxHeartbeats 1600000 in
theorem take_c {g f : Nat} {tl td : TypeId} {xs ys : List Nat} {off n cl cd digit : Nat} (w : World) (hx : Arr w g tl xs) (hy : Arr w f td ys) (hne : f ≠ g) (lx : Lims xs) (ly : Lims ys) (hd : Lim digit)
    (hn : n ≤ ys.length) (hys : ys.length ≤ 9) (hoff : off + n < xs.length) (hxs : xs.length ≤ 9) :
    Calls Try.prog 160 #[.slice (some ⟨g, off, none⟩) (n + 1) cl, .slice (some ⟨f, 0, none⟩) n cd, .int .u64 digit] w (RetTake g tl xs ys off n digit w) := by
  have l0 : Lim 0 := by unfold Lim; omega
  have hn9 : (n : Int) ≤ 9 := by omega
  go_enter Try.func160, Try.ntmps160
  go_wp2_with fail
  go_loopw [7, 8, 14] (fun a b i wr => ∃ (k c br : Nat) (zs : List Nat), k ≤ n ∧ a = .int .u64 c ∧ b = .int .u64 br ∧ i = .int .i64 k ∧ Lim c ∧ br ≤ 1 ∧ zs.length = xs.length ∧ Lims zs ∧ TakeInv xs ys off digit k c br zs ∧
      Hid (∀ j, off + k ≤ j → zs.getD j 0 = xs.getD j 0) ∧ Arr wr g tl zs ∧ Touch g w wr)
    (fun _ _ i _ => n - (intOf i).toNat)
  case atStart => exact ⟨0, 0, 0, xs, Nat.zero_le _, rfl, rfl, rfl, l0, by omega, rfl, lx, by simp [TakeInv, vl], fun _ _ => rfl, hx, Touch.refl _ _⟩
  case round =>
    obtain ⟨k, c, br, zs, hk, rfl, rfl, rfl, lc, hbr, hlen, hlim, hinv, htail, harr, htouch⟩ := hrel
    have HL := Lib.hid hlen
    clear hlen
    have harr2 := htouch.arr hy hne
    by_cases hlt : k < n
    · have cx := harr.cell (off + k) (by rw [HL.out]; omega)
      have fx := harr.frozen (off + k)
      have cy := harr2.cell k (by omega)
      obtain ⟨x, ex⟩ : ∃ x, x = zs.getD (off + k) 0 := ⟨_, rfl⟩
      obtain ⟨y, ey⟩ : ∃ y, y = ys.getD k 0 := ⟨_, rfl⟩
      rw [← ex] at cx
      rw [← ey] at cy
      have lx2 : Lim x := by rw [ex]; exact hlim.get _
      have ly2 : Lim y := by rw [ey]; exact ly.get _
      have EX := Lib.hid ex
      have EY := Lib.hid ey
      clear ex ey
      go_wp2_with fail
      refine (mulAdd_c y digit c 0 ly2 hd lc l0 _).mono ?_
      rintro e w1 ⟨h, lo, rfl, hM, rfl⟩
      go_wp2_with fail
      refine upon_sub x lo br hbr _ lx2 hM.2.1 ?_
      intro s b' hS hb' ls
      go_wp2_with fail
      go_roundw
      case rel =>
        rw [EY.out] at hM
        rw [EX.out] at hS
        exact ⟨k + 1, h, b', zs.set (off + k) s, by omega, rfl, rfl, by go_num, hM.2.2, hb', by rw [List.length_set]; exact HL.out, hlim.set _ _ ls, take_step hinv (by rw [HL.out]; omega) (by omega) hM hS,
          fun j hj => by rw [List.getD_eq_getElem?_getD, List.getElem?_set_ne (by omega), ← List.getD_eq_getElem?_getD]; exact htail.out j (by omega), harr.set _ _, htouch.trans (Touch.put _ _ _ _)⟩
      case measure => simp [intOf]; omega
    · obtain rfl : k = n := by omega
      have cx := harr.cell (off + k) (by rw [HL.out]; omega)
      have fx := harr.frozen (off + k)
      obtain ⟨x, ex⟩ : ∃ x, x = zs.getD (off + k) 0 := ⟨_, rfl⟩
      rw [← ex] at cx
      have lx2 : Lim x := by rw [ex]; exact hlim.get _
      have EX := Lib.hid ex
      clear ex
      go_wp2_with fail
      refine upon_sub x c br hbr _ lx2 lc ?_
      intro s b' hS hb' ls
      go_wp2_with fail
      go_ret
      rw [EX.out] at hS
      exact ⟨b', zs.set (off + k) s, rfl, hb', by rw [List.length_set]; exact HL.out, hlim.set _ _ ls, take_end hinv (by rw [HL.out]; omega) hS,
        fun j hj => by rw [List.getD_eq_getElem?_getD, List.getElem?_set_ne (by omega), ← List.getD_eq_getElem?_getD]; exact htail.out j (by omega), harr.set _ _, htouch.trans (Touch.put _ _ _ _)⟩

/-- Within giveBack, k limbs done: c is carried. -/
def GiveInv (xs ys : List Nat) (off k c : Nat) (zs : List Nat) : Prop := vl zs + 18446744073709551616 ^ (off + k) * c = vl xs + 18446744073709551616 ^ off * vl (ys.take k)
theorem give_step {xs ys zs : List Nat} {off k c s c' : Nat} (h : GiveInv xs ys off k c zs) (hk : off + k < zs.length) (hy : k < ys.length)
    (hS : AddC (zs.getD (off + k) 0) (ys.getD k 0) c s c') : GiveInv xs ys off (k + 1) c' (zs.set (off + k) s) := by
  unfold GiveInv at *
  have e1 := val_set zs (off + k) s hk
  rw [val_take_succ ys k hy, ← Nat.add_assoc, Nat.pow_succ]
  rw [Nat.pow_add] at *
  obtain ⟨q, _, _⟩ := hS
  generalize 18446744073709551616 ^ off = P at *
  generalize 18446744073709551616 ^ k = J at *
  generalize vl (zs.set (off + k) s) = Z' at *
  generalize vl (ys.take k) = Y at *
  generalize vl zs = Z at *
  generalize vl xs = X at *
  generalize zs.getD (off + k) 0 = x at *
  generalize ys.getD k 0 = y at *
  have f1 : P * J * (s + 18446744073709551616 * c') = P * J * (x + y + c) := by rw [q]
  clear hk hy q
  grind
theorem give_end {xs ys zs : List Nat} {off n c : Nat} (h : GiveInv xs ys off n c zs) (hk : off + n < zs.length) :
    vl (zs.set (off + n) ((zs.getD (off + n) 0 + c) % 18446744073709551616)) + 18446744073709551616 ^ (off + n + 1) * ((zs.getD (off + n) 0 + c) / 18446744073709551616) = vl xs + 18446744073709551616 ^ off * vl (ys.take n) := by
  unfold GiveInv at *
  have e1 := val_set zs (off + n) ((zs.getD (off + n) 0 + c) % 18446744073709551616) hk
  have q := Nat.mod_add_div (zs.getD (off + n) 0 + c) 18446744073709551616
  rw [Nat.pow_succ]
  generalize 18446744073709551616 ^ (off + n) = J at *
  generalize zs.getD (off + n) 0 = x at *
  generalize (x + c) % 18446744073709551616 = s at *
  generalize (x + c) / 18446744073709551616 = d at *
  generalize vl (zs.set (off + n) s) = Z' at *
  generalize 18446744073709551616 ^ off * vl (ys.take n) = Y at *
  generalize vl zs = Z at *
  generalize vl xs = X at *
  have f1 : J * (s + 18446744073709551616 * d) = J * (x + c) := by rw [q]
  clear hk q
  grind
/-- What giveBack leaves. -/
def RetGive (g : Nat) (t : TypeId) (xs ys : List Nat) (off n : Nat) (w : World) (e : Ending) (w' : World) : Prop :=
  ∃ (c : Nat) (zs : List Nat), e = .returned (.tuple #[]) ∧ zs.length = xs.length ∧ Lims zs ∧ vl zs + 18446744073709551616 ^ (off + n + 1) * c = vl xs + 18446744073709551616 ^ off * vl (ys.take n) ∧
    (∀ j, off + n + 1 ≤ j → zs.getD j 0 = xs.getD j 0) ∧ Arr w' g t zs ∧ Touch g w w'

set_option maxRecDepth 100000 in
set_option maxHeartbeats 1600000 in
theorem give_c {g f : Nat} {tl td : TypeId} {xs ys : List Nat} {off n cl cd : Nat} (w : World) (hx : Arr w g tl xs) (hy : Arr w f td ys) (hne : f ≠ g) (lx : Lims xs) (ly : Lims ys)
    (hn : n ≤ ys.length) (hys : ys.length ≤ 9) (hoff : off + n < xs.length) (hxs : xs.length ≤ 9) :
    Calls Try.prog 161 #[.slice (some ⟨g, off, none⟩) (n + 1) cl, .slice (some ⟨f, 0, none⟩) n cd] w (RetGive g tl xs ys off n w) := by
  have l0 : Lim 0 := by unfold Lim; omega
  have hn9 : (n : Int) ≤ 9 := by omega
  go_enter Try.func161, Try.ntmps161
  go_wp2_with fail
  go_loopw [4, 9] (fun a i wr => ∃ (k c : Nat) (zs : List Nat), k ≤ n ∧ a = .int .u64 c ∧ i = .int .i64 k ∧ c ≤ 1 ∧ zs.length = xs.length ∧ Lims zs ∧ GiveInv xs ys off k c zs ∧
      Hid (∀ j, off + k ≤ j → zs.getD j 0 = xs.getD j 0) ∧ Arr wr g tl zs ∧ Touch g w wr)
    (fun _ i _ => n - (intOf i).toNat)
  case atStart => exact ⟨0, 0, xs, Nat.zero_le _, rfl, rfl, by omega, rfl, lx, by simp [GiveInv, vl], fun _ _ => rfl, hx, Touch.refl _ _⟩
  case round =>
    obtain ⟨k, c, zs, hk, rfl, rfl, hc1, hlen, hlim, hinv, htail, harr, htouch⟩ := hrel
    have HL := Lib.hid hlen
    clear hlen
    have harr2 := htouch.arr hy hne
    have cx := harr.cell (off + k) (by rw [HL.out]; omega)
    have fx := harr.frozen (off + k)
    obtain ⟨x, ex⟩ : ∃ x, x = zs.getD (off + k) 0 := ⟨_, rfl⟩
    rw [← ex] at cx
    have lx2 : Lim x := by rw [ex]; exact hlim.get _
    have EX := Lib.hid ex
    clear ex
    by_cases hlt : k < n
    · have cy := harr2.cell k (by omega)
      obtain ⟨y, ey⟩ : ∃ y, y = ys.getD k 0 := ⟨_, rfl⟩
      rw [← ey] at cy
      have ly2 : Lim y := by rw [ey]; exact ly.get _
      have EY := Lib.hid ey
      clear ey
      go_wp2_with fail
      refine upon_add x y c hc1 _ lx2 ly2 ?_
      intro s b' hS hb' ls
      go_wp2_with fail
      go_roundw
      case rel =>
        rw [EX.out, EY.out] at hS
        exact ⟨k + 1, b', zs.set (off + k) s, by omega, rfl, by go_num, hb', by rw [List.length_set]; exact HL.out, hlim.set _ _ ls, give_step hinv (by rw [HL.out]; omega) (by omega) hS,
          fun j hj => by rw [List.getD_eq_getElem?_getD, List.getElem?_set_ne (by omega), ← List.getD_eq_getElem?_getD]; exact htail.out j (by omega), harr.set _ _, htouch.trans (Touch.put _ _ _ _)⟩
      case measure => simp [intOf]; omega
    · obtain rfl : k = n := by omega
      have hsum : IntKind.u64.wrap ((x : Int) + c) = (((x + c) % 18446744073709551616 : Nat) : Int) := by rw [addN, wrapU]
      obtain ⟨s, es⟩ : ∃ s, s = (x + c) % 18446744073709551616 := ⟨_, rfl⟩
      rw [← es] at hsum
      have ES := Lib.hid es
      clear es
      go_wp2_with fail
      go_end0
      have he := give_end hinv (by rw [HL.out]; omega)
      rw [← EX.out, ← ES.out] at he
      exact ⟨_, zs.set (off + k) s, rfl, by rw [List.length_set]; exact HL.out, hlim.set _ _ (by rw [ES.out]; unfold Lim; omega), he,
        fun j hj => by rw [List.getD_eq_getElem?_getD, List.getElem?_set_ne (by omega), ← List.getD_eq_getElem?_getD]; exact htail.out j (by omega), harr.set _ _, htouch.trans (Touch.put _ _ _ _)⟩
end Go.Proofs.Ytkalmmpgcgempaa
