/- Contracts of the smallest functions of package word and of math/bits: sums with carry, wide products, plus, Add, Sub. -/
import Derived.Test.YtopeahjdglkheaaDoorProg
import Derived.Test.YtopeahjdglkheaaDoorWordMath
import Derived.WalkKit
import Derived.Lib.Hide
import Derived.Laws.Bits64b
import Derived.Deep.RegionWith
import Derived.Laws.DeepNot64
namespace Go.Proofs.YtopeahjdglkheaaDoor
open Go.RowKit

section
variable {o : Oper} {a : Act} {K : Act → World → Prop} {Q : Exit → Act → World → Prop}

def sub64E : Array Value → Sem Value := fun args => do
  let (x, y, b) ← Extern.MathBitsCarry.three "Sub64" args
  pure (Extern.MathBitsCarry.pair ((x + Extern.MathBitsCarry.m64 - y - b) % Extern.MathBitsCarry.m64) (if x < y + b then 1 else 0))
set_option maxRecDepth 100000 in
theorem run_sub64E (x y b : Nat) (hb : b ≤ 1) (w : World) :
    (sub64E #[.int .u64 x, .int .u64 y, .int .u64 b]).run Tryd.prog w =
      .ok (.tuple #[.int .u64 (((x + 18446744073709551616 - y - b) % 18446744073709551616 : Nat) : Int), .int .u64 ((if x < y + b then 1 else 0 : Nat) : Int)]) w := by
  have : b = 0 ∨ b = 1 := by omega
  rcases this with rfl | rfl <;> rfl
end

/-- The sum of two words, and its carry. -/
def RetPlus (n : Nat) (w : World) (e : Ending) (w' : World) : Prop := ∃ s0 s1 s2 s3 k, e = .returned (.tuple #[W4 s0 s1 s2 s3, .int .u64 (k : Nat)]) ∧
  IsW s0 s1 s2 s3 (n % 115792089237316195423570985008687907853269984665640564039457584007913129639936) ∧ k = n / 115792089237316195423570985008687907853269984665640564039457584007913129639936 ∧ Below w.heap.size w w'

/-- x * y + c + d in two limbs. -/
def RetPair (P : Nat → Nat → Prop) (w : World) (e : Ending) (w' : World) : Prop := ∃ h l : Nat, e = .returned (.tuple #[.int .u64 h, .int .u64 l]) ∧ P h l ∧ w = w'

end Go.Proofs.YtopeahjdglkheaaDoor
/- Contracts of package word's Add, Sub, Of, low and neg. -/
namespace Go.Proofs.YtopeahjdglkheaaDoor
open Go.RowKit

end Go.Proofs.YtopeahjdglkheaaDoor
/- The contract of package word's Mul: the product modulo 2^256, for any two words. -/
namespace Go.Proofs.YtopeahjdglkheaaDoor
open Go.RowKit

theorem index4 (a0 a1 a2 a3 i : Nat) (hi : i < 4) (w : World) : (Instr.index 34 (W4 a0 a1 a2 a3) (.int .i64 (i : Nat))).run Tryd.prog w = .ok (.int .u64 (([a0, a1, a2, a3].getD i 0 : Nat) : Int)) w := by
  rcases (show i = 0 ∨ i = 1 ∨ i = 2 ∨ i = 3 by omega) with rfl | rfl | rfl | rfl <;> kernel_rfl

/-- What stands in memory while Mul runs: the product's limbs, the other word, the result's place. -/
def MulMem (w wr : World) (ys cs : List Nat) : Prop := Arr wr (w.heap.size + 1 + 1 + 1) 34 cs ∧ Arr wr (w.heap.size + 1) 34 ys ∧ Arr wr (w.heap.size + 1 + 1) 34 [0, 0, 0, 0] ∧ Below w.heap.size w wr

theorem MulMem.step {w wr : World} {ys cs : List Nat} (h : MulMem w wr ys cs) (j l : Nat) : MulMem w (wr.setCell ⟨w.heap.size + 1 + 1 + 1, j, none⟩ (.int .u64 (l : Int))).drew ys (cs.set j l) :=
  ⟨(h.1.set j l).drew, (h.2.1.far (p := ⟨w.heap.size + 1 + 1 + 1, j, none⟩) (by simp) _).drew, (h.2.2.1.far (p := ⟨w.heap.size + 1 + 1 + 1, j, none⟩) (by simp) _).drew,
    (h.2.2.2.setCell (p := ⟨w.heap.size + 1 + 1 + 1, j, none⟩) (by simp; omega) _).drew⟩

end Go.Proofs.YtopeahjdglkheaaDoor
/- The contract of package word's Not. -/
namespace Go.Proofs.YtopeahjdglkheaaDoor
open Go.RowKit
theorem u64_not (a : Nat) (ha : Lim a) : bits .xor .u64 IntKind.u64.max (a : Int) = ((18446744073709551615 - a : Nat) : Int) := by
  unfold Lim at ha
  show IntKind.u64.wrap ((BitVec.ofInt 64 IntKind.u64.max ^^^ BitVec.ofInt 64 (a : Int)).toNat : Int) = _
  have h1 : BitVec.ofInt 64 IntKind.u64.max = BitVec.allOnes 64 := by decide
  rw [h1, BitVec.allOnes_xor, BitVec.toNat_not, ofInt_u64 a (by omega)]
  simp [IntKind.wrap, IntKind.bits, IntKind.signed]
  omega
end Go.Proofs.YtopeahjdglkheaaDoor
