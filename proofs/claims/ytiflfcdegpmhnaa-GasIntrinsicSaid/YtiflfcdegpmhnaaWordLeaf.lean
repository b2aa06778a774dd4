/- Contracts of the smallest functions of package word and of math/bits: sums with carry, wide products, plus, Add, Sub. -/
import Derived.Test.YtiflfcdegpmhnaaProg
import Derived.Test.YtiflfcdegpmhnaaWordMath
import Derived.WalkKit
import Derived.Lib.Hide
import Derived.Laws.Bits64b
import Derived.Deep.RegionWith
import Derived.Laws.DeepNot64
namespace Go.Proofs.Ytiflfcdegpmhnaa
open Go.RowKit

section
variable {o : Oper} {a : Act} {K : Act → World → Prop} {Q : Exit → Act → World → Prop}

set_option maxRecDepth 100000 in
theorem run_add (x y c : Nat) (hc : c ≤ 1) (w : World) :
    (callFunc 88 #[.int .u64 x, .int .u64 y, .int .u64 c]).run Try.prog w =
      .ok (.value (.tuple #[.int .u64 (((x + y + c) % 18446744073709551616 : Nat) : Int), .int .u64 (((x + y + c) / 18446744073709551616 : Nat) : Int)])) w := by
  rw [run_callFunc_extern Try.func88 (by kernel_rfl) (by kernel_rfl) (by kernel_rfl) (e := add64Entry) (by kernel_rfl), run_add64 x y c (by omega) (by omega) (by omega) (by omega), (castMod x y c).1, (castMod x y c).2]
  simp only [Result.andThen]
set_option maxRecDepth 100000 in
theorem upon_add (x y c : Nat) (hc : c ≤ 1) (w : World) (hx : Lim x) (hy : Lim y)
    (h : ∀ s k : Nat, AddC x y c s k → k ≤ 1 → Lim s → K (a.put o.dst (.tuple #[.int .u64 s, .int .u64 k])) w) :
    Oper.upon Try.prog o a K Q ((callFunc 88 #[.int .u64 x, .int .u64 y, .int .u64 c]).run Try.prog w) := by
  obtain ⟨h1, h2, h3⟩ := addC_of x y c hc hx hy
  have g := h _ _ h1 h2 h3
  rw [run_add x y c hc w, Oper.upon_value]
  exact g
set_option maxRecDepth 100000 in
theorem upon_add0 (x y : Nat) (w : World) (hx : Lim x) (hy : Lim y)
    (h : ∀ s k : Nat, AddC x y 0 s k → k ≤ 1 → Lim s → K (a.put o.dst (.tuple #[.int .u64 s, .int .u64 k])) w) :
    Oper.upon Try.prog o a K Q ((callFunc 88 #[.int .u64 x, .int .u64 y, .int .u64 0]).run Try.prog w) :=
  upon_add x y 0 (by omega) w hx hy h

def sub64E : Array Value → Sem Value := fun args => do
  let (x, y, b) ← Extern.MathBitsCarry.three "Sub64" args
  pure (Extern.MathBitsCarry.pair ((x + Extern.MathBitsCarry.m64 - y - b) % Extern.MathBitsCarry.m64) (if x < y + b then 1 else 0))
set_option maxRecDepth 100000 in
theorem run_sub64E (x y b : Nat) (hb : b ≤ 1) (w : World) :
    (sub64E #[.int .u64 x, .int .u64 y, .int .u64 b]).run Try.prog w =
      .ok (.tuple #[.int .u64 (((x + 18446744073709551616 - y - b) % 18446744073709551616 : Nat) : Int), .int .u64 ((if x < y + b then 1 else 0 : Nat) : Int)]) w := by
  have : b = 0 ∨ b = 1 := by omega
  rcases this with rfl | rfl <;> rfl
end

/-- The sum of two words, and its carry. -/
def RetPlus (n : Nat) (w : World) (e : Ending) (w' : World) : Prop := ∃ s0 s1 s2 s3 k, e = .returned (.tuple #[W4 s0 s1 s2 s3, .int .u64 (k : Nat)]) ∧
  IsW s0 s1 s2 s3 (n % 115792089237316195423570985008687907853269984665640564039457584007913129639936) ∧ k = n / 115792089237316195423570985008687907853269984665640564039457584007913129639936 ∧ Below w.heap.size w w'

set_option maxRecDepth 100000 in
set_option maxHeartbeats 1000000 in
theorem plus_c {a0 a1 a2 a3 b0 b1 b2 b3 a b : Nat} (ha : IsW a0 a1 a2 a3 a) (hb : IsW b0 b1 b2 b3 b) (w : World) :
    Calls Try.prog 79 #[W4 a0 a1 a2 a3, W4 b0 b1 b2 b3] w (RetPlus (a + b) w) := by
  obtain ⟨la0, la1, la2, la3⟩ := ha.lims
  obtain ⟨lb0, lb1, lb2, lb3⟩ := hb.lims
  go_enter Try.func79, Try.ntmps79
  go_wp2_with fail
  refine upon_add0 _ _ _ la0 lb0 ?_
  intro s0 k0 A0 hk0 ls0
  go_wp2_with fail
  refine upon_add _ _ _ hk0 _ la1 lb1 ?_
  intro s1 k1 A1 hk1 ls1
  go_wp2_with fail
  refine upon_add _ _ _ hk1 _ la2 lb2 ?_
  intro s2 k2 A2 hk2 ls2
  go_wp2_with fail
  refine upon_add _ _ _ hk2 _ la3 lb3 ?_
  intro s3 k3 A3 hk3 ls3
  go_wp2_with fail
  obtain ⟨r, q⟩ := add4 ha hb A0 A1 A2 A3
  exact bodyPost_ret (v := .tuple #[W4 s0 s1 s2 s3, .int .u64 k3]) (by simp [results, Try.results79, go_sem]) rfl
    ⟨s0, s1, s2, s3, k3, rfl, r, q, (((Below.refl _ _).alloc (Nat.le_refl _) _).alloc (by simp) _).alloc (by simp; omega) _⟩

/-- x * y + c + d in two limbs. -/
def RetPair (P : Nat → Nat → Prop) (w : World) (e : Ending) (w' : World) : Prop := ∃ h l : Nat, e = .returned (.tuple #[.int .u64 h, .int .u64 l]) ∧ P h l ∧ w = w'

set_option maxHeartbeats 1000000 in
theorem mul64_c (x y : Nat) (hx : Lim x) (hy : Lim y) (w : World) :
    Calls Try.prog 70 #[.int .u64 x, .int .u64 y] w (RetPair (fun h l => l + 18446744073709551616 * h = x * y ∧ l < 18446744073709551616 ∧ h ≤ 18446744073709551614) w) := by
  obtain ⟨bd, bt, bw, hhi⟩ := Lib.mul64_hi x y hx hy
  have ba := Lib.half_mul_le (a := x / 4294967296) (b := y / 4294967296) (by unfold Lim at *; omega) (by unfold Lim at *; omega)
  have bb := Lib.half_mul_le (a := x / 4294967296) (b := y % 4294967296) (by unfold Lim at *; omega) (by omega)
  have bc := Lib.half_mul_le (a := x % 4294967296) (b := y / 4294967296) (by omega) (by unfold Lim at *; omega)
  have ba' : x / 4294967296 * (y / 4294967296) < 18446744073709551616 := by omega
  have bb' : x / 4294967296 * (y % 4294967296) < 18446744073709551616 := by omega
  have bc' : x % 4294967296 * (y / 4294967296) < 18446744073709551616 := by omega
  have bh1 : x / 4294967296 * (y / 4294967296) + (x / 4294967296 * (y % 4294967296) + x % 4294967296 * (y % 4294967296) / 4294967296) / 4294967296 < 18446744073709551616 := by omega
  have bh : x / 4294967296 * (y / 4294967296) + (x / 4294967296 * (y % 4294967296) + x % 4294967296 * (y % 4294967296) / 4294967296) / 4294967296 + ((x / 4294967296 * (y % 4294967296) + x % 4294967296 * (y % 4294967296) / 4294967296) % 4294967296 + x % 4294967296 * (y / 4294967296)) / 4294967296 < 18446744073709551616 := by omega
  go_enter Try.func70, Try.ntmps70
  go_wp2
  simp only [maskN x hx, maskN y hy, divN, mulN, addN, wrapN _ bd, wrapN _ bb', wrapN _ bt, maskN _ bt, wrapN _ bc', wrapN _ bw, wrapN _ ba', wrapN _ bh1, wrapN _ bh, wrapU (x * y)]
  rw [hhi]
  go_ret2
  exact ⟨_, _, rfl, mul_hi hx hy rfl rfl, rfl⟩

set_option maxRecDepth 100000 in
set_option maxHeartbeats 1000000 in
theorem mulAdd_c (x y c d : Nat) (hx : Lim x) (hy : Lim y) (hc : Lim c) (hd : Lim d) (w : World) :
    Calls Try.prog 80 #[.int .u64 x, .int .u64 y, .int .u64 c, .int .u64 d] w (RetPair (MulA x y c d) w) := by
  go_enter Try.func80, Try.ntmps80
  go_wp2_with fail
  refine (mul64_c x y hx hy _).mono ?_
  rintro e w1 ⟨h, l, rfl, hP, rfl⟩
  have hl : Lim l := hP.2.1
  have HP := Lib.hid hP
  clear hP
  go_wp2_with fail
  refine upon_add0 _ _ _ hl hc ?_
  intro s0 k0 A0 hk0 ls0
  go_wp2_with fail
  refine upon_add0 _ _ _ ls0 hd ?_
  intro s1 k1 A1 hk1 ls1
  go_wp2_with fail
  go_ret2
  obtain ⟨r, q1, q2⟩ := mulA_of hx hy hc hd HP.out A0 A1
  exact ⟨h + k0 + k1, s1, by rw [q1, q2]; rfl, r, rfl⟩
end Go.Proofs.Ytiflfcdegpmhnaa
/- Contracts of package word's Add, Sub, Of, low and neg. -/
namespace Go.Proofs.Ytiflfcdegpmhnaa
open Go.RowKit

set_option maxRecDepth 100000 in
set_option maxHeartbeats 1000000 in
theorem of_c (n : Nat) (hn : Lim n) (w : World) : Calls Try.prog 61 #[.int .u64 n] w (RetW n w) := by
  go_enter Try.func61, Try.ntmps61
  go_wp2_with fail
  exact bodyPost_ret (v := W4 n 0 0 0) (by simp [results, Try.results61, go_sem]) rfl ⟨n, 0, 0, 0, rfl, isW_small hn, (Below.refl _ _).alloc (Nat.le_refl _) _⟩

set_option maxRecDepth 100000 in
set_option maxHeartbeats 1000000 in
theorem add_c {a0 a1 a2 a3 b0 b1 b2 b3 a b : Nat} (ha : IsW a0 a1 a2 a3 a) (hb : IsW b0 b1 b2 b3 b) (w : World) :
    Calls Try.prog 59 #[W4 a0 a1 a2 a3, W4 b0 b1 b2 b3] w (RetW ((a + b) % 115792089237316195423570985008687907853269984665640564039457584007913129639936) w) := by
  go_enter Try.func59, Try.ntmps59
  go_wp2_with fail
  refine (plus_c ha hb _).mono ?_
  rintro e w1 ⟨s0, s1, s2, s3, k, rfl, hs, hk, hb1⟩
  clear hk
  obtain ⟨hc, hf⟩ := bcell hb1
  have hz := hb1.size
  have hz2 : w.heap.size + 1 + 1 < w1.heap.size := by simp at hz; omega
  go_wp2_with fail
  refine bodyPost_ret (v := W4 s0 s1 s2 s3) (by simp [results, Try.results59, go_sem, hc, hz2]) rfl ⟨s0, s1, s2, s3, rfl, hs, ?_⟩
  repeat (first | exact Below.refl _ _ | refine Below.setCell ?_ (by simp; try omega) _ | refine Below.alloc ?_ (by simp; try omega) _ | refine Below.trans ?_ (hb1.mono (by simp; try omega)))

end Go.Proofs.Ytiflfcdegpmhnaa
/- The contract of package word's Mul: the product modulo 2^256, for any two words. -/
namespace Go.Proofs.Ytiflfcdegpmhnaa
open Go.RowKit

theorem index4 (a0 a1 a2 a3 i : Nat) (hi : i < 4) (w : World) : (Instr.index 24 (W4 a0 a1 a2 a3) (.int .i64 (i : Nat))).run Try.prog w = .ok (.int .u64 (([a0, a1, a2, a3].getD i 0 : Nat) : Int)) w := by
  rcases (show i = 0 ∨ i = 1 ∨ i = 2 ∨ i = 3 by omega) with rfl | rfl | rfl | rfl <;> kernel_rfl

/-- What stands in memory while Mul runs: the product's limbs, the other word, the result's place. -/
def MulMem (w wr : World) (ys cs : List Nat) : Prop := Arr wr (w.heap.size + 1 + 1 + 1) 24 cs ∧ Arr wr (w.heap.size + 1) 24 ys ∧ Arr wr (w.heap.size + 1 + 1) 24 [0, 0, 0, 0] ∧ Below w.heap.size w wr

theorem MulMem.step {w wr : World} {ys cs : List Nat} (h : MulMem w wr ys cs) (j l : Nat) : MulMem w (wr.setCell ⟨w.heap.size + 1 + 1 + 1, j, none⟩ (.int .u64 (l : Int))).drew ys (cs.set j l) :=
  ⟨(h.1.set j l).drew, (h.2.1.far (p := ⟨w.heap.size + 1 + 1 + 1, j, none⟩) (by simp) _).drew, (h.2.2.1.far (p := ⟨w.heap.size + 1 + 1 + 1, j, none⟩) (by simp) _).drew,
    (h.2.2.2.setCell (p := ⟨w.heap.size + 1 + 1 + 1, j, none⟩) (by simp; omega) _).drew⟩

set_option maxRecDepth 100000 in
set_option maxHeartbeats 1000000 in
theorem mul_c {a0 a1 a2 a3 b0 b1 b2 b3 a b : Nat} (ha : IsW a0 a1 a2 a3 a) (hb : IsW b0 b1 b2 b3 b) (w : World) :
    Calls Try.prog 60 #[W4 a0 a1 a2 a3, W4 b0 b1 b2 b3] w (RetW ((a * b) % 115792089237316195423570985008687907853269984665640564039457584007913129639936) w) := by
  go_enter Try.func60, Try.ntmps60
  go_wp2_with fail
  go_loopw [11] (fun i wr => ∃ (k : Nat) (cs : List Nat), k ≤ 4 ∧ i = .int .i64 k ∧ cs.length = 4 ∧ Lims cs ∧ MulOut 4 [a0, a1, a2, a3] [b0, b1, b2, b3] k cs ∧ MulMem w wr [b0, b1, b2, b3] cs)
    (fun i _ => 4 - (intOf i).toNat)
  case atStart =>
    refine ⟨0, [0, 0, 0, 0], by omega, rfl, rfl, Lims.four ?_ ?_ ?_ ?_, mulOut_start _ _ _ _ (by simp [vl]), ?_, ?_, ?_, ?_⟩
    iterate 4 (unfold Lim; omega)
    · have h := Arr.new4z (((w.alloc (.cells #[.int .u64 a0, .int .u64 a1, .int .u64 a2, .int .u64 a3] 24)).alloc (.cells #[.int .u64 b0, .int .u64 b1, .int .u64 b2, .int .u64 b3] 24)).alloc (.cells #[.int .u64 0, .int .u64 0, .int .u64 0, .int .u64 0] 24)) 24
      simpa using h
    · have h := ((Arr.new4 (w.alloc (.cells #[.int .u64 a0, .int .u64 a1, .int .u64 a2, .int .u64 a3] 24)) 24 b0 b1 b2 b3).alloc (.cells #[.int .u64 0, .int .u64 0, .int .u64 0, .int .u64 0] 24)).alloc (.cells #[.int .u64 0, .int .u64 0, .int .u64 0, .int .u64 0] 24)
      simpa using h
    · have h := (Arr.new4z ((w.alloc (.cells #[.int .u64 a0, .int .u64 a1, .int .u64 a2, .int .u64 a3] 24)).alloc (.cells #[.int .u64 b0, .int .u64 b1, .int .u64 b2, .int .u64 b3] 24)) 24).alloc (.cells #[.int .u64 0, .int .u64 0, .int .u64 0, .int .u64 0] 24)
      simpa using h
    · exact ((((Below.refl _ _).alloc (Nat.le_refl _) _).alloc (by simp) _).alloc (by simp; omega) _).alloc (by simp; omega) _
  case round =>
    obtain ⟨i, cs, hi4, rfl, hlen, hlim, hout, hmem⟩ := hrel
    have HL := Lib.hid hlen
    clear hlen
    by_cases hlt : i < 4
    · have hix := index4 a0 a1 a2 a3 i hlt
      obtain ⟨x, hx⟩ : ∃ x, x = [a0, a1, a2, a3].getD i 0 := ⟨_, rfl⟩
      rw [← hx] at hix
      have lx : Lim x := by rw [hx]; exact ha.limsList.get i
      have HX := Lib.hid hx
      clear hx
      have hd : decide ((i : Int) < 4) = true := by simp; omega
      go_wp2_with fail
      clear hix hd
      obtain ⟨wo, HW⟩ : ∃ wo : World, Hid (wo = wr) := ⟨_, rfl⟩
      go_loopw [8, 9] (fun c k wq => ∃ (carry j : Nat) (ds : List Nat), i ≤ j ∧ j ≤ 4 ∧ c = .int .u64 carry ∧ k = .int .i64 j ∧ Lim carry ∧ ds.length = 4 ∧ Lims ds ∧ MulIn 4 [a0, a1, a2, a3] [b0, b1, b2, b3] i j carry ds ∧ MulMem w wq [b0, b1, b2, b3] ds)
        (fun _ k _ => 4 - (intOf k).toNat)
      case atStart => exact ⟨0, i, cs, Nat.le_refl _, hi4, rfl, rfl, by unfold Lim; omega, HL.out, hlim, mulIn_start hout, hmem⟩
      case round =>
        obtain ⟨carry, j, ds, hij, hj4, rfl, rfl, lc, hlen2, hlim2, hin, hmem2⟩ := hrel
        by_cases hjl : j < 4
        · have cj := hmem2.1.cell j (by omega)
          have fj := hmem2.1.frozen j
          have cb := hmem2.2.1.cell (j - i) (by simp; omega)
          obtain ⟨y, hy⟩ : ∃ y, y = ds.getD j 0 := ⟨_, rfl⟩
          obtain ⟨z, hz⟩ : ∃ z, z = [b0, b1, b2, b3].getD (j - i) 0 := ⟨_, rfl⟩
          rw [← hy] at cj
          rw [← hz] at cb
          have ly : Lim y := by rw [hy]; exact hlim2.get j
          have lz : Lim z := by rw [hz]; exact hb.limsList.get (j - i)
          have HY := Lib.hid hy
          have HZ2 := Lib.hid hz
          have HL2 := Lib.hid hlen2
          clear hy hz hlen2
          go_wp2_with fail
          have hw : IntKind.i64.wrap ((j : Int) - i) = ((j - i : Nat) : Int) := by rw [IntWalk.i64_in _ (by omega)]; omega
          go_region_with (go_at_call 80; refine (mulAdd_c _ _ _ _ lx lz ly lc _).mono ?_; rintro e w1 ⟨h, l, rfl, hM, rfl⟩)
          all_goals
            clear hw cj fj cb
            go_wp2_with fail
            go_roundw
            case rel =>
              rw [HX.out, HZ2.out, HY.out] at hM
              exact ⟨h, j + 1, ds.set j l, by omega, by omega, rfl, by go_num, hM.2.2, by rw [List.length_set]; exact HL2.out, hlim2.set j l hM.2.1, mulIn_step hin hij (by rw [HL2.out]; exact hjl) (by simp; omega) hM, hmem2.step j l⟩
            case measure => simp [intOf]; omega
        · go_wp2_with fail
          go_roundw
          case rel =>
            obtain rfl : j = 4 := by omega
            exact ⟨i + 1, ds, by omega, by go_num, hlen2, hlim2, mulIn_end hin hi4 (by simp; omega) (by simp), hmem2⟩
          case measure => simp [intOf]; omega
    · obtain ⟨c0, c1, c2, c3, rfl⟩ := list4 HL.out
      obtain ⟨z0, z1, z2, z3⟩ := hmem.1.cells4
      obtain ⟨y0, y1, y2, y3⟩ := hmem.2.2.1.cells4
      obtain ⟨f0, f1, f2, f3⟩ := hmem.2.2.1.free4
      go_wp2_with fail
      obtain rfl : i = 4 := by omega
      have hv := mulOut_end hout hlim rfl
      have hB := hmem.2.2.2
      refine bodyPost_ret (v := W4 c0 c1 c2 c3) (by simp [results, Try.results60, go_sem, y0, y1, y2, y3]) rfl ⟨c0, c1, c2, c3, rfl, (isW_val hlim).eq (by rw [hv, ha.vals, hb.vals]), ?_⟩
      repeat (first | exact hB | refine Below.setCell ?_ (by simp; try omega) _)
end Go.Proofs.Ytiflfcdegpmhnaa
/- The contract of package word's Not. -/
namespace Go.Proofs.Ytiflfcdegpmhnaa
open Go.RowKit
theorem u64_not (a : Nat) (ha : Lim a) : bits .xor .u64 IntKind.u64.max (a : Int) = ((18446744073709551615 - a : Nat) : Int) := by
  unfold Lim at ha
  show IntKind.u64.wrap ((BitVec.ofInt 64 IntKind.u64.max ^^^ BitVec.ofInt 64 (a : Int)).toNat : Int) = _
  have h1 : BitVec.ofInt 64 IntKind.u64.max = BitVec.allOnes 64 := by decide
  rw [h1, BitVec.allOnes_xor, BitVec.toNat_not, ofInt_u64 a (by omega)]
  simp [IntKind.wrap, IntKind.bits, IntKind.signed]
  omega
end Go.Proofs.Ytiflfcdegpmhnaa
