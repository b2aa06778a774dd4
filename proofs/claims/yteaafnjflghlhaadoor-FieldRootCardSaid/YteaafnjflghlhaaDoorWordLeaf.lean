/- Contracts of the smallest functions of package word and of math/bits: sums with carry, wide products, plus, Add, Sub. -/
import Derived.Test.YteaafnjflghlhaaDoorProg
import Derived.Test.YteaafnjflghlhaaDoorWordMath
import Derived.WalkKit
import Derived.Lib.Hide
import Derived.Laws.Bits64b
import Derived.Deep.RegionWith
import Derived.Laws.DeepNot64
namespace Go.Proofs.YteaafnjflghlhaaDoor
open Go.RowKit

section
variable {o : Oper} {a : Act} {K : Act → World → Prop} {Q : Exit → Act → World → Prop}

set_option maxRecDepth 100000 in
theorem run_add (x y c : Nat) (hc : c ≤ 1) (w : World) :
    (callFunc 59 #[.int .u64 x, .int .u64 y, .int .u64 c]).run Tryd.prog w =
      .ok (.value (.tuple #[.int .u64 (((x + y + c) % 18446744073709551616 : Nat) : Int), .int .u64 (((x + y + c) / 18446744073709551616 : Nat) : Int)])) w := by
  rw [run_callFunc_extern Tryd.func59 (by kernel_rfl) (by kernel_rfl) (by kernel_rfl) (e := add64Entry) (by kernel_rfl), run_add64 x y c (by omega) (by omega) (by omega) (by omega), (castMod x y c).1, (castMod x y c).2]
  simp only [Result.andThen]
set_option maxRecDepth 100000 in
theorem upon_add (x y c : Nat) (hc : c ≤ 1) (w : World) (hx : Lim x) (hy : Lim y)
    (h : ∀ s k : Nat, AddC x y c s k → k ≤ 1 → Lim s → K (a.put o.dst (.tuple #[.int .u64 s, .int .u64 k])) w) :
    Oper.upon Tryd.prog o a K Q ((callFunc 59 #[.int .u64 x, .int .u64 y, .int .u64 c]).run Tryd.prog w) := by
  obtain ⟨h1, h2, h3⟩ := addC_of x y c hc hx hy
  have g := h _ _ h1 h2 h3
  rw [run_add x y c hc w, Oper.upon_value]
  exact g
set_option maxRecDepth 100000 in
theorem upon_add0 (x y : Nat) (w : World) (hx : Lim x) (hy : Lim y)
    (h : ∀ s k : Nat, AddC x y 0 s k → k ≤ 1 → Lim s → K (a.put o.dst (.tuple #[.int .u64 s, .int .u64 k])) w) :
    Oper.upon Tryd.prog o a K Q ((callFunc 59 #[.int .u64 x, .int .u64 y, .int .u64 0]).run Tryd.prog w) :=
  upon_add x y 0 (by omega) w hx hy h

def sub64E : Array Value → Sem Value := fun args => do
  let (x, y, b) ← Extern.MathBitsCarry.three "Sub64" args
  pure (Extern.MathBitsCarry.pair ((x + Extern.MathBitsCarry.m64 - y - b) % Extern.MathBitsCarry.m64) (if x < y + b then 1 else 0))
set_option maxRecDepth 100000 in
theorem run_sub64E (x y b : Nat) (hb : b ≤ 1) (w : World) :
    (sub64E #[.int .u64 x, .int .u64 y, .int .u64 b]).run Tryd.prog w =
      .ok (.tuple #[.int .u64 (((x + 18446744073709551616 - y - b) % 18446744073709551616 : Nat) : Int), .int .u64 ((if x < y + b then 1 else 0 : Nat) : Int)]) w := by
  have : b = 0 ∨ b = 1 := by omega
  rcases this with rfl | rfl <;> rfl
set_option maxRecDepth 100000 in
theorem run_sub (x y c : Nat) (hc : c ≤ 1) (w : World) :
    (callFunc 73 #[.int .u64 x, .int .u64 y, .int .u64 c]).run Tryd.prog w =
      .ok (.value (.tuple #[.int .u64 (((x + 18446744073709551616 - y - c) % 18446744073709551616 : Nat) : Int), .int .u64 ((if x < y + c then 1 else 0 : Nat) : Int)])) w := by
  rw [run_callFunc_extern Tryd.func73 (by kernel_rfl) (by kernel_rfl) (by kernel_rfl) (e := sub64E) (by kernel_rfl), run_sub64E x y c hc w]
  simp only [Result.andThen]
set_option maxRecDepth 100000 in
theorem upon_sub (x y c : Nat) (hc : c ≤ 1) (w : World) (hx : Lim x) (hy : Lim y)
    (h : ∀ s k : Nat, SubC x y c s k → k ≤ 1 → Lim s → K (a.put o.dst (.tuple #[.int .u64 s, .int .u64 k])) w) :
    Oper.upon Tryd.prog o a K Q ((callFunc 73 #[.int .u64 x, .int .u64 y, .int .u64 c]).run Tryd.prog w) := by
  rw [run_sub x y c hc w, Oper.upon_value]
  by_cases hlt : x < y + c
  · obtain ⟨h1, h2⟩ := subC_lt x y c hc hx hy hlt
    have g := h _ _ h1 (by omega) h2
    rw [if_pos hlt]
    exact g
  · obtain ⟨h1, h2⟩ := subC_ge x y c hc hx hy hlt
    have g := h _ _ h1 (by omega) h2
    rw [if_neg hlt]
    exact g
set_option maxRecDepth 100000 in
theorem upon_sub0 (x y : Nat) (w : World) (hx : Lim x) (hy : Lim y)
    (h : ∀ s k : Nat, SubC x y 0 s k → k ≤ 1 → Lim s → K (a.put o.dst (.tuple #[.int .u64 s, .int .u64 k])) w) :
    Oper.upon Tryd.prog o a K Q ((callFunc 73 #[.int .u64 x, .int .u64 y, .int .u64 0]).run Tryd.prog w) :=
  upon_sub x y 0 (by omega) w hx hy h
end

/-- The sum of two words, and its carry. -/
def RetPlus (n : Nat) (w : World) (e : Ending) (w' : World) : Prop := ∃ s0 s1 s2 s3 k, e = .returned (.tuple #[W4 s0 s1 s2 s3, .int .u64 (k : Nat)]) ∧
  IsW s0 s1 s2 s3 (n % 115792089237316195423570985008687907853269984665640564039457584007913129639936) ∧ k = n / 115792089237316195423570985008687907853269984665640564039457584007913129639936 ∧ Below w.heap.size w w'

/-- x * y + c + d in two limbs. -/
def RetPair (P : Nat → Nat → Prop) (w : World) (e : Ending) (w' : World) : Prop := ∃ h l : Nat, e = .returned (.tuple #[.int .u64 h, .int .u64 l]) ∧ P h l ∧ w = w'

set_option maxHeartbeats 1000000 in
theorem mul64_c (x y : Nat) (hx : Lim x) (hy : Lim y) (w : World) :
    Calls Tryd.prog 74 #[.int .u64 x, .int .u64 y] w (RetPair (fun h l => l + 18446744073709551616 * h = x * y ∧ l < 18446744073709551616 ∧ h ≤ 18446744073709551614) w) := by
  obtain ⟨bd, bt, bw, hhi⟩ := Lib.mul64_hi x y hx hy
  have ba := Lib.half_mul_le (a := x / 4294967296) (b := y / 4294967296) (by unfold Lim at *; omega) (by unfold Lim at *; omega)
  have bb := Lib.half_mul_le (a := x / 4294967296) (b := y % 4294967296) (by unfold Lim at *; omega) (by omega)
  have bc := Lib.half_mul_le (a := x % 4294967296) (b := y / 4294967296) (by omega) (by unfold Lim at *; omega)
  have ba' : x / 4294967296 * (y / 4294967296) < 18446744073709551616 := by omega
  have bb' : x / 4294967296 * (y % 4294967296) < 18446744073709551616 := by omega
  have bc' : x % 4294967296 * (y / 4294967296) < 18446744073709551616 := by omega
  have bh1 : x / 4294967296 * (y / 4294967296) + (x / 4294967296 * (y % 4294967296) + x % 4294967296 * (y % 4294967296) / 4294967296) / 4294967296 < 18446744073709551616 := by omega
  have bh : x / 4294967296 * (y / 4294967296) + (x / 4294967296 * (y % 4294967296) + x % 4294967296 * (y % 4294967296) / 4294967296) / 4294967296 + ((x / 4294967296 * (y % 4294967296) + x % 4294967296 * (y % 4294967296) / 4294967296) % 4294967296 + x % 4294967296 * (y / 4294967296)) / 4294967296 < 18446744073709551616 := by omega
  go_enter Tryd.func74, Tryd.ntmps74
  go_wp2
  simp only [maskN x hx, maskN y hy, divN, mulN, addN, wrapN _ bd, wrapN _ bb', wrapN _ bt, maskN _ bt, wrapN _ bc', wrapN _ bw, wrapN _ ba', wrapN _ bh1, wrapN _ bh, wrapU (x * y)]
  rw [hhi]
  go_ret2
  exact ⟨_, _, rfl, mul_hi hx hy rfl rfl, rfl⟩

end Go.Proofs.YteaafnjflghlhaaDoor
/- Contracts of package word's Add, Sub, Of, low and neg. -/
namespace Go.Proofs.YteaafnjflghlhaaDoor
open Go.RowKit

end Go.Proofs.YteaafnjflghlhaaDoor
/- The contract of package word's Mul: the product modulo 2^256, for any two words. -/
namespace Go.Proofs.YteaafnjflghlhaaDoor
open Go.RowKit

end Go.Proofs.YteaafnjflghlhaaDoor
/- The contract of package word's Not. -/
namespace Go.Proofs.YteaafnjflghlhaaDoor
open Go.RowKit
theorem u64_not (a : Nat) (ha : Lim a) : bits .xor .u64 IntKind.u64.max (a : Int) = ((18446744073709551615 - a : Nat) : Int) := by
  unfold Lim at ha
  show IntKind.u64.wrap ((BitVec.ofInt 64 IntKind.u64.max ^^^ BitVec.ofInt 64 (a : Int)).toNat : Int) = _
  have h1 : BitVec.ofInt 64 IntKind.u64.max = BitVec.allOnes 64 := by decide
  rw [h1, BitVec.allOnes_xor, BitVec.toNat_not, ofInt_u64 a (by omega)]
  simp [IntKind.wrap, IntKind.bits, IntKind.signed]
  omega
end Go.Proofs.YteaafnjflghlhaaDoor
