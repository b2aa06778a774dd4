/- The contract of package word's guess: a digit by the three highest limbs of what is left and the two highest of the divisor. -/
import Derived.Test.YteaafnjflghlhaaDoorDiv64
import Derived.Test.YteaafnjflghlhaaDoorWordLeaf
import Derived.Test.YteaafnjflghlhaaDoorWordMath
import Derived.Deep.Quiet
namespace Go.Proofs.YteaafnjflghlhaaDoor
open Go.RowKit

/-- What guess reckons. -/
def guessF (n2 n1 n0 d1 d0 : Nat) : Nat :=
  if d1 ≤ n2 then 18446744073709551615
  else if (n2 * 18446744073709551616 + n1) % d1 * 18446744073709551616 + n0 < (n2 * 18446744073709551616 + n1) / d1 * d0 then (n2 * 18446744073709551616 + n1) / d1 - 1
  else (n2 * 18446744073709551616 + n1) / d1
def RetDrewV (v : Value) (w : World) (e : Ending) (w' : World) : Prop := e = .returned v ∧ ∃ n, w' = w.drewN n

theorem wrap_pred {q : Nat} (lq : Lim q) (h : 1 ≤ q) : IntKind.u64.wrap ((q : Int) - 1) = ((q - 1 : Nat) : Int) := by
  unfold Lim at lq
  rw [IntKind.wrap_u64]; omega
theorem two_cmp {h l r n0 p : Nat} (e : l + 18446744073709551616 * h = p) (hl : l < 18446744073709551616) (hn : n0 < 18446744073709551616) : (r * 18446744073709551616 + n0 < p) ↔ (r < h ∨ (h = r ∧ n0 < l)) := by omega

end Go.Proofs.YteaafnjflghlhaaDoor
/- The contracts of package word's takeAway and giveBack: digit times d is taken from a row of limbs; d is given back. -/
namespace Go.Proofs.YteaafnjflghlhaaDoor
open Go.RowKit

/-- Block g alone may have changed. -/
structure Touch (g : Nat) (w w' : World) : Prop where
  os : w'.os = w.os
  tape : w'.tape = w.tape
  output : w'.output = w.output
  size : w'.heap.size = w.heap.size
  block : ∀ k, k ≠ g → w'.heap[k]? = w.heap[k]?
theorem Touch.refl (g : Nat) (w : World) : Touch g w w := ⟨rfl, rfl, rfl, rfl, fun _ _ => rfl⟩
theorem Touch.trans {g : Nat} {a b c : World} (h : Touch g a b) (k : Touch g b c) : Touch g a c :=
  ⟨k.os.trans h.os, k.tape.trans h.tape, k.output.trans h.output, k.size.trans h.size, fun i hi => (k.block i hi).trans (h.block i hi)⟩
theorem Touch.put (g i : Nat) (w : World) (v : Value) : Touch g w (w.setCell ⟨g, i, none⟩ v) :=
  ⟨rfl, rfl, rfl, by simp [World.setCell], fun k hk => Below.heap_setCell w ⟨g, i, none⟩ v k hk⟩
theorem Touch.drewN (g : Nat) (w : World) (n : Nat) : Touch g w (w.drewN n) := ⟨rfl, rfl, rfl, rfl, fun _ _ => rfl⟩
theorem Touch.arr {g f : Nat} {w w' : World} {t : TypeId} {xs : List Nat} (h : Touch g w w') (a : Arr w f t xs) (hf : f ≠ g) : Arr w' f t xs := (h.block f hf).trans a
theorem Touch.below {g B : Nat} {a w w' : World} (h : Touch g w w') (b : Below B a w) (hg : B ≤ g) : Below B a w' :=
  b.trans ⟨h.os, h.tape, h.output, by rw [h.size]; exact Nat.le_refl _, fun k hk => h.block k (by omega)⟩

/-- Within takeAway, k limbs done: c is carried, b borrowed. -/
def TakeInv (xs ys : List Nat) (off digit k c b : Nat) (zs : List Nat) : Prop := vl zs + 18446744073709551616 ^ off * (digit * vl (ys.take k)) = vl xs + 18446744073709551616 ^ (off + k) * (c + b)
theorem take_step {xs ys zs : List Nat} {off digit k c b c' lo s b' : Nat} (h : TakeInv xs ys off digit k c b zs) (hk : off + k < zs.length) (hy : k < ys.length)
    (hM : MulA (ys.getD k 0) digit c 0 c' lo) (hS : SubC (zs.getD (off + k) 0) lo b s b') : TakeInv xs ys off digit (k + 1) c' b' (zs.set (off + k) s) := by
  unfold TakeInv at *
  have e1 := val_set zs (off + k) s hk
  rw [val_take_succ ys k hy, ← Nat.add_assoc, Nat.pow_succ]
  rw [Nat.pow_add] at *
  obtain ⟨m, _, _⟩ := hM
  obtain ⟨q, _, _⟩ := hS
  generalize 18446744073709551616 ^ off = P at *
  generalize 18446744073709551616 ^ k = J at *
  generalize vl (zs.set (off + k) s) = Z' at *
  generalize vl (ys.take k) = Y at *
  generalize vl zs = Z at *
  generalize vl xs = X at *
  generalize zs.getD (off + k) 0 = x at *
  generalize ys.getD k 0 = y at *
  have f1 : P * J * (s + lo + b) = P * J * (x + 18446744073709551616 * b') := by rw [q]
  have f2 : P * J * (lo + 18446744073709551616 * c') = P * J * (y * digit + c + 0) := by rw [m]
  clear hk hy m q
  grind
theorem take_end {xs ys zs : List Nat} {off digit n c b s b' : Nat} (h : TakeInv xs ys off digit n c b zs) (hk : off + n < zs.length) (hS : SubC (zs.getD (off + n) 0) c b s b') :
    vl (zs.set (off + n) s) + 18446744073709551616 ^ off * (digit * vl (ys.take n)) = vl xs + 18446744073709551616 ^ (off + n + 1) * b' := by
  unfold TakeInv at *
  have e1 := val_set zs (off + n) s hk
  rw [Nat.pow_succ]
  obtain ⟨q, _, _⟩ := hS
  generalize 18446744073709551616 ^ (off + n) = J at *
  generalize vl (zs.set (off + n) s) = Z' at *
  generalize 18446744073709551616 ^ off * (digit * vl (ys.take n)) = Y at *
  generalize vl zs = Z at *
  generalize vl xs = X at *
  generalize zs.getD (off + n) 0 = x at *
  have f1 : J * (s + c + b) = J * (x + 18446744073709551616 * b') := by rw [q]
  clear hk q
  grind

/-- What takeAway tells and leaves. -/
def RetTake (g : Nat) (t : TypeId) (xs ys : List Nat) (off n digit : Nat) (w : World) (e : Ending) (w' : World) : Prop :=
  ∃ (b : Nat) (zs : List Nat), e = .returned (.bool ((b : Int) == 1)) ∧ b ≤ 1 ∧ zs.length = xs.length ∧ Lims zs ∧ vl zs + 18446744073709551616 ^ off * (digit * vl (ys.take n)) = vl xs + 18446744073709551616 ^ (off + n + 1) * b ∧
    (∀ j, off + n + 1 ≤ j → zs.getD j 0 = xs.getD j 0) ∧ Arr w' g t zs ∧ Touch g w w'

/-- Within giveBack, k limbs done: c is carried. -/
def GiveInv (xs ys : List Nat) (off k c : Nat) (zs : List Nat) : Prop := vl zs + 18446744073709551616 ^ (off + k) * c = vl xs + 18446744073709551616 ^ off * vl (ys.take k)
theorem give_step {xs ys zs : List Nat} {off k c s c' : Nat} (h : GiveInv xs ys off k c zs) (hk : off + k < zs.length) (hy : k < ys.length)
    (hS : AddC (zs.getD (off + k) 0) (ys.getD k 0) c s c') : GiveInv xs ys off (k + 1) c' (zs.set (off + k) s) := by
  unfold GiveInv at *
  have e1 := val_set zs (off + k) s hk
  rw [val_take_succ ys k hy, ← Nat.add_assoc, Nat.pow_succ]
  rw [Nat.pow_add] at *
  obtain ⟨q, _, _⟩ := hS
  generalize 18446744073709551616 ^ off = P at *
  generalize 18446744073709551616 ^ k = J at *
  generalize vl (zs.set (off + k) s) = Z' at *
  generalize vl (ys.take k) = Y at *
  generalize vl zs = Z at *
  generalize vl xs = X at *
  generalize zs.getD (off + k) 0 = x at *
  generalize ys.getD k 0 = y at *
  have f1 : P * J * (s + 18446744073709551616 * c') = P * J * (x + y + c) := by rw [q]
  clear hk hy q
  grind
theorem give_end {xs ys zs : List Nat} {off n c : Nat} (h : GiveInv xs ys off n c zs) (hk : off + n < zs.length) :
    vl (zs.set (off + n) ((zs.getD (off + n) 0 + c) % 18446744073709551616)) + 18446744073709551616 ^ (off + n + 1) * ((zs.getD (off + n) 0 + c) / 18446744073709551616) = vl xs + 18446744073709551616 ^ off * vl (ys.take n) := by
  unfold GiveInv at *
  have e1 := val_set zs (off + n) ((zs.getD (off + n) 0 + c) % 18446744073709551616) hk
  have q := Nat.mod_add_div (zs.getD (off + n) 0 + c) 18446744073709551616
  rw [Nat.pow_succ]
  generalize 18446744073709551616 ^ (off + n) = J at *
  generalize zs.getD (off + n) 0 = x at *
  generalize (x + c) % 18446744073709551616 = s at *
  generalize (x + c) / 18446744073709551616 = d at *
  generalize vl (zs.set (off + n) s) = Z' at *
  generalize 18446744073709551616 ^ off * vl (ys.take n) = Y at *
  generalize vl zs = Z at *
  generalize vl xs = X at *
  have f1 : J * (s + 18446744073709551616 * d) = J * (x + c) := by rw [q]
  clear hk q
  grind
/-- What giveBack leaves. -/
def RetGive (g : Nat) (t : TypeId) (xs ys : List Nat) (off n : Nat) (w : World) (e : Ending) (w' : World) : Prop :=
  ∃ (c : Nat) (zs : List Nat), e = .returned (.tuple #[]) ∧ zs.length = xs.length ∧ Lims zs ∧ vl zs + 18446744073709551616 ^ (off + n + 1) * c = vl xs + 18446744073709551616 ^ off * vl (ys.take n) ∧
    (∀ j, off + n + 1 ≤ j → zs.getD j 0 = xs.getD j 0) ∧ Arr w' g t zs ∧ Touch g w w'

end Go.Proofs.YteaafnjflghlhaaDoor
