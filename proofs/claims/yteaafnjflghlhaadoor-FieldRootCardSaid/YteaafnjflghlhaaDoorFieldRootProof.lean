/- FieldRoot holds: in each of the six fields there is a square root just where the criterion of Euler says so, its square is the number, it is the lesser of two, and a square has its root or the opposite of it; no condition, the tables of the primes and of the library as the program lays them (a tied card, over the pruned copy of the project). -/
import Derived.Test.YteaafnjflghlhaaDoorDig
import Derived.Test.YteaafnjflghlhaaDoorProg
import Derived.ProofKit
import Derived.OpenShut
import Derived.Carry
import Derived.Deep.MidRow
import Derived.Test.YteaafnjflghlhaaDoorRows
import Derived.Test.YteaafnjflghlhaaDoorFlOps
import Derived.Test.YteaafnjflghlhaaDoorLawFieldRoot
import Derived.LaidMore
import Derived.Stop.Joined
import Derived.Deep.Strs
import Derived.Test.YteaafnjflghlhaaDoorCards
import Derived.Test.YteaafnjflghlhaaDoorTie
import Derived.SevenTiedAt
namespace Go.Proofs.YteaafnjflghlhaaDoor
open Go.ChangeShapes Go.WideShapes Go.ChangeAt Go.RowKit

theorem lawLaid : laidOutB Tryd.prog = true := by kernel_rfl
theorem cells8 : Tryd.prog.cellsOf 5 = 1 := by kernel_rfl
theorem byte_wf {x : Int} (h : (Lit.int .u8 x).wf = true) : 0 ≤ x ∧ x < 256 := by
  have h1 : IntKind.u8.min = 0 := rfl
  have h2 : IntKind.u8.max = 255 := rfl
  simp only [Lit.wf, Bool.and_eq_true, decide_eq_true_eq] at h
  omega
theorem open_rd {H : Type} {enc : TypeId × Value → H} {W : World} {A : Option Addr} {len cap : Nat} {d : DataW H} {p : List MemPlace}
    (h : DataW.Trod enc Tryd.prog W 0 (fun _ => true) true 25 (.slice A len cap) d p) : ∃ bs : List Nat, bs.length = len ∧ Rd .u8 W A cap bs ∧ Ds 256 bs := by
  obtain ⟨fuel, hf⟩ := h
  rcases open_ints Tryd.underlying25 Tryd.underlying5 cells8 hf with ⟨hcs, hx⟩ | ⟨a, len', cap', zs, hcs, _, hl, hm, hz, hx, hcell, hwz⟩
  · simp [Value.cells] at hcs
    obtain ⟨rfl, rfl, rfl⟩ := hcs
    exact ⟨[], rfl, Rd.nil _, Ds.nil⟩
  · simp [Value.cells] at hcs
    obtain ⟨rfl, rfl, rfl⟩ := hcs
    simp only [if_true] at hz
    have hr : ∀ j, j < zs.length → 0 ≤ zs.getD j 0 ∧ zs.getD j 0 < 256 := fun j hj => by
      have : zs.getD j 0 = zs[j] := by simp [hj]
      rw [this]
      exact byte_wf (hwz _ (List.getElem_mem hj))
    refine ⟨(zs.take len).map Int.toNat, by simp; omega, ⟨by simp; omega, (fun h => by cases h), fun hpos => ?_⟩, fun x hx => ?_⟩
    · have hpos' : 0 < len := by simp at hpos; omega
      obtain ⟨b, o, s⟩ := a
      have h0 := hcell 0 (by omega)
      obtain rfl : s = none := by simpa [Addr.add] using World.cell?_spot h0
      have hb : b < W.heap.size := by have := World.block_lt_of_cell? _ _ h0; simpa [block_add] using this
      refine ⟨b, o, rfl, hb, fun j hj => ?_⟩
      have hj' : j < len := by simp at hj; omega
      have h := hcell j (by omega)
      rw [Addr.add_mid] at h
      rw [h]
      have h2 := hr j (by omega)
      have e : ((((zs.take len).map Int.toNat).getD j 0 : Nat) : Int) = zs.getD j 0 := by
        have e1 : ((zs.take len).map Int.toNat).getD j 0 = (zs.getD j 0).toNat := by
          simp [List.getD_eq_getElem?_getD, hj', show j < zs.length by omega]
        rw [e1]
        omega
      rw [e]
    · rw [List.mem_map] at hx
      obtain ⟨z, hz', rfl⟩ := hx
      have := byte_wf (hwz z (List.mem_of_mem_take hz'))
      omega
end Go.Proofs.YteaafnjflghlhaaDoor
namespace Go.Proofs.YteaafnjflghlhaaDoor
open Go.ChangeShapes Go.WideShapes Go.ChangeAt Go.RowKit

theorem gPrimes : Tryd.prog.globalNamed (Rows.fieldRootRow.named.headD Rows.fieldRootRow.func) = some 0 := by kernel_rfl
theorem tPrimes : (Tryd.prog.globals[0]?).map (·.type) = some 75 := by kernel_rfl
theorem gTab : Tryd.prog.globalNamed (Rows.fieldRootRow.named.getD 3 Rows.fieldRootRow.func) = some 1 := by kernel_rfl
theorem tTab : (Tryd.prog.globals[1]?).map (·.type) = some 99 := by kernel_rfl
theorem cellsNum : Tryd.prog.cellsOf 24 = 6 := by kernel_rfl
theorem cellsU : Tryd.prog.cellsOf 22 = 1 := by kernel_rfl
theorem cellsU8 : Tryd.prog.cellsOf 5 = 1 := by kernel_rfl
theorem cellsTab : Tryd.prog.cellsOf 75 = 36 := by kernel_rfl
theorem cellsAsk : Tryd.prog.cellsOf 27 = 20 := by kernel_rfl

set_option maxRecDepth 100000 in
theorem open_num6 {H : Type} {enc : TypeId × Value → H} {W : World} {base fuel : Nat} {spare : Nat → Bool} {held : Bool} {cs : List Value} {x : DataW H × List MemPlace} (h : DataW.trod enc Tryd.prog W base spare held fuel 24 cs = some x) :
    ∃ a0 a1 a2 a3 a4 a5 : Nat, cs = [.int .u64 (a0 : Nat), .int .u64 (a1 : Nat), .int .u64 (a2 : Nat), .int .u64 (a3 : Nat), .int .u64 (a4 : Nat), .int .u64 (a5 : Nat)] ∧ Lim6 a0 a1 a2 a3 a4 a5 ∧ x.1 = .agg [.lit (.int .u64 (a0 : Nat)), .lit (.int .u64 (a1 : Nat)), .lit (.int .u64 (a2 : Nat)), .lit (.int .u64 (a3 : Nat)), .lit (.int .u64 (a4 : Nat)), .lit (.int .u64 (a5 : Nat))] := by
  obtain ⟨ys, m, rfl, rfl, hl, hyl, hf⟩ := DataW.trod_array Tryd.underlying24 h
  rw [cellsNum] at hl
  rw [cellsU] at hf
  have key : ∀ i, i < 6 → ∃ (n : Nat) (y : DataW H × List MemPlace), (cs.drop i).take 1 = [.int .u64 (n : Nat)] ∧ Lim n ∧ ys[i]? = some y ∧ y.1 = .lit (.int .u64 (n : Nat)) := by
    intro i hi
    have h1 := hf i hi
    rw [Nat.mul_one] at h1
    obtain ⟨y, hy⟩ : ∃ y, ys[i]? = some y := ⟨_, List.getElem?_eq_getElem (by rw [hyl]; exact hi)⟩
    rw [hy] at h1
    obtain ⟨z, e1, e2, wf⟩ := DataW.trod_int Tryd.underlying22 h1
    obtain ⟨b1, b2⟩ := bounds_u64 wf
    refine ⟨z.toNat, y, by rw [e1, Int.toNat_of_nonneg b1], ?_, hy, by rw [e2, Int.toNat_of_nonneg b1]⟩
    unfold Lim
    omega
  match cs, hl, ys, hyl with
  | [c0, c1, c2, c3, c4, c5], _, [y0, y1, y2, y3, y4, y5], _ =>
    obtain ⟨a0, z0, e0, l0, k0, d0⟩ := key 0 (by omega)
    obtain ⟨a1, z1, e1, l1, k1, d1⟩ := key 1 (by omega)
    obtain ⟨a2, z2, e2, l2, k2, d2⟩ := key 2 (by omega)
    obtain ⟨a3, z3, e3, l3, k3, d3⟩ := key 3 (by omega)
    obtain ⟨a4, z4, e4, l4, k4, d4⟩ := key 4 (by omega)
    obtain ⟨a5, z5, e5, l5, k5, d5⟩ := key 5 (by omega)
    simp at e0 e1 e2 e3 e4 e5 k0 k1 k2 k3 k4 k5
    subst e0 e1 e2 e3 e4 e5 k0 k1 k2 k3 k4 k5
    exact ⟨a0, a1, a2, a3, a4, a5, rfl, ⟨l0, l1, l2, l3, l4, l5⟩, by simp [d0, d1, d2, d3, d4, d5]⟩

set_option maxRecDepth 100000 in
/-- The door's own heap meets the condition. -/
theorem door_met (os : Os) (args : Array Value) : laidMetH Tryd.prog Rows.fieldRootRow.laid ((World.doorLaid Tryd.prog 400 os).forCall (fun _ _ => 0) ⟨#[], args, []⟩).memory :=
  laidMetH_of_parts3 (fuel := 8) (laidMet_of_run' 8 (by kernel_rfl) (by kernel_rfl)) (by kernel_rfl) (by kernel_rfl)

set_option maxRecDepth 100000 in
theorem tab_text : (Rows.laid_math_bits_deBruijn64tab : DataW Unit) = .agg (tab64.map fun n => .lit (.int .u8 ((n : Nat) : Int))) := by rfl
set_option maxRecDepth 100000 in
theorem of_laidR {W : World} (h : laidMetH Tryd.prog Rows.fieldRootRow.laid W) : PrimesAt W ∧ TabAt W := by
  rw [MakeChecks.laidMetH_plain _ _ _ (by kernel_rfl)] at h
  obtain ⟨ps, ⟨g1, t1, cs1, f1, p1, q1, hg1, ht1, hv1, hd1, ⟨g0, t0, cs0, f0, p0, q0, hg0, ht0, hv0, hd0, _, _⟩, _⟩, _, _⟩ := h
  refine ⟨?_, ?_⟩
  · obtain rfl := Option.some.inj (gPrimes.symm.trans hg0)
    obtain rfl := Option.some.inj (tPrimes.symm.trans ht0)
    obtain ⟨xs, m, rfl, hx, hlen, hn, hel⟩ := DataW.trod_array Tryd.underlying75 hd0
    rw [cellsNum] at hel
    have hvc := fun j => World.var?_cell hg0 hv0 j
    obtain ⟨L, hL⟩ : ∃ L : List (DataW Unit), Rows.laid_quarry_field_primes = .agg L := ⟨_, rfl⟩
    have hx1 : L = xs.map (·.1) := by
      have := congrArg Prod.fst hx
      rw [hL] at this
      injection this
    unfold Rows.laid_quarry_field_primes at hL
    injection hL with hL
    intro k h1 h6
    obtain ⟨i, rfl⟩ : ∃ i, k = i + 1 := ⟨k - 1, by omega⟩
    have hi : i < 6 := by omega
    obtain ⟨y, hy⟩ : ∃ y, xs[i]? = some y := ⟨_, List.getElem?_eq_getElem (by rw [hn]; exact hi)⟩
    have he := hel i hi
    rw [hy] at he
    obtain ⟨a0, a1, a2, a3, a4, a5, e, la, hd⟩ := open_num6 he
    have hy1 : L[i]? = some y.1 := by rw [hx1, List.getElem?_map, hy]; rfl
    have hc : ∀ j, j < 6 → W.cell? ⟨0, i * 6 + j, none⟩ = (List.take 6 (List.drop (i * 6) cs0.toList))[j]? := fun j hj => by
      rw [hvc, List.getElem?_take_of_lt hj, List.getElem?_drop]
      simp
    rw [e] at hc
    have hcell : L6 W 0 (i * 6) a0 a1 a2 a3 a4 a5 := ⟨hc 0 (by omega), hc 1 (by omega), hc 2 (by omega), hc 3 (by omega), hc 4 (by omega), hc 5 (by omega)⟩
    have heq : a0 = plb (i + 1) 0 ∧ a1 = plb (i + 1) 1 ∧ a2 = plb (i + 1) 2 ∧ a3 = plb (i + 1) 3 ∧ a4 = plb (i + 1) 4 ∧ a5 = plb (i + 1) 5 := by
      rw [hd, ← hL] at hy1
      clear hd hL hx1 hel hc hcell hx e he hy hvc
      rcases (show i = 0 ∨ i = 1 ∨ i = 2 ∨ i = 3 ∨ i = 4 ∨ i = 5 by omega) with rfl | rfl | rfl | rfl | rfl | rfl <;>
      · simp only [List.getElem?_cons_zero, List.getElem?_cons_succ, Option.some.injEq, DataW.agg.injEq, List.cons.injEq, DataW.lit.injEq, Lit.int.injEq, true_and, and_true] at hy1
        obtain ⟨q0, q1, q2, q3, q4, q5⟩ := hy1
        exact ⟨Int.ofNat.inj (q0.symm.trans (by decide +kernel)), Int.ofNat.inj (q1.symm.trans (by decide +kernel)), Int.ofNat.inj (q2.symm.trans (by decide +kernel)), Int.ofNat.inj (q3.symm.trans (by decide +kernel)), Int.ofNat.inj (q4.symm.trans (by decide +kernel)), Int.ofNat.inj (q5.symm.trans (by decide +kernel))⟩
    obtain ⟨rfl, rfl, rfl, rfl, rfl, rfl⟩ := heq
    exact hcell
  · obtain rfl := Option.some.inj (gTab.symm.trans hg1)
    obtain rfl := Option.some.inj (tTab.symm.trans ht1)
    obtain ⟨xs, m, rfl, hx, hlen, hn, hel⟩ := DataW.trod_array Tryd.underlying99 hd1
    rw [cellsU8] at hel
    have hvc := fun j => World.var?_cell hg1 hv1 j
    have hx1 : (tab64.map fun n => (.lit (.int .u8 ((n : Nat) : Int)) : DataW Unit)) = xs.map (·.1) := by
      have := congrArg Prod.fst hx
      rw [tab_text] at this
      injection this
    intro i hi
    obtain ⟨y, hy⟩ : ∃ y, xs[i]? = some y := ⟨_, List.getElem?_eq_getElem (by rw [hn]; exact hi)⟩
    have he := hel i hi
    rw [hy] at he
    obtain ⟨z, e1, e2, -⟩ := DataW.trod_int Tryd.underlying5 he
    have hl : tab64.length = 64 := by decide
    have ht : tab64[i]? = some (tab64.getD i 0) := by
      rw [List.getD_eq_getElem?_getD, List.getElem?_eq_getElem (by omega)]
      rfl
    have hy1 : (tab64.map fun n => (.lit (.int .u8 ((n : Nat) : Int)) : DataW Unit))[i]? = some y.1 := by rw [hx1, List.getElem?_map, hy]; rfl
    rw [List.getElem?_map, ht, e2] at hy1
    have hz : z = ((tab64.getD i 0 : Nat) : Int) := by
      simp only [Option.map_some, Option.some.injEq, DataW.lit.injEq, Lit.int.injEq, true_and] at hy1
      exact hy1.symm
    have hc : W.cell? ⟨1, i, none⟩ = (List.take 1 (List.drop (i * 1) cs1.toList))[0]? := by
      rw [hvc, List.getElem?_take_of_lt (by omega), List.getElem?_drop]
      simp
    rw [hc, e1, hz]
    rfl

set_option maxRecDepth 100000 in
/-- An Ask, opened: its kind, its first two numbers. -/
theorem open_askR {H : Type} {enc : TypeId × Value → H} {W : World} {base : Nat} {v : Value} {d : DataW H} {p : List MemPlace} (hv : Value.okWide Tryd.prog W .any base 27 v) (h : DataW.Trod enc Tryd.prog W 0 (fun _ => true) true 27 v d p) :
    ∃ (K : Int) (a0 a1 a2 a3 a4 a5 b0 b1 b2 b3 b4 b5 : Nat) (c0 c1 c2 c3 c4 c5 ve : Value), v = .agg #[.int .i64 K, .int .u64 (a0 : Nat), .int .u64 (a1 : Nat), .int .u64 (a2 : Nat), .int .u64 (a3 : Nat), .int .u64 (a4 : Nat), .int .u64 (a5 : Nat), .int .u64 (b0 : Nat), .int .u64 (b1 : Nat), .int .u64 (b2 : Nat), .int .u64 (b3 : Nat), .int .u64 (b4 : Nat), .int .u64 (b5 : Nat), c0, c1, c2, c3, c4, c5, ve] ∧ Lim6 a0 a1 a2 a3 a4 a5 ∧ Lim6 b0 b1 b2 b3 b4 b5 := by
  obtain ⟨cs, rfl, hsz, _⟩ : ∃ cs, v = .agg cs ∧ cs.size = Tryd.prog.cellsOf 27 ∧ Row.okWide Tryd.prog W .any base 27 cs := by
    simpa [Value.okWide, Tryd.underlying27] using hv
  rw [cellsAsk] at hsz
  obtain ⟨l⟩ := cs
  obtain ⟨fuel, hf⟩ := h
  obtain ⟨ys, m, -, -, hl, hyl, hel⟩ := DataW.trod_struct Tryd.underlying27 hf
  have hyl5 : ys.length = 5 := hyl
  match l, hsz, ys, hyl5 with
  | [k0, x0, x1, x2, x3, x4, x5, b0, b1, b2, b3, b4, b5, c0, c1, c2, c3, c4, c5, ve], _, [y0, y1, y2, y3, y4], _ =>
    have g0 := hel 0 _ rfl
    have g1 := hel 1 _ rfl
    have g2 := hel 2 _ rfl
    simp [cellsNum, Value.cells, show Tryd.prog.cellsOf 3 = 1 by kernel_rfl] at g0 g1 g2
    obtain ⟨K, e0, -, -⟩ := DataW.trod_int Tryd.underlying3 g0
    obtain ⟨a0, a1, a2, a3, a4, a5, e1, la, -⟩ := open_num6 g1
    obtain ⟨d0, d1, d2, d3, d4, d5, e2, ld, -⟩ := open_num6 g2
    simp at e0 e1 e2
    obtain ⟨rfl, rfl, rfl, rfl, rfl, rfl⟩ := e1
    obtain ⟨rfl, rfl, rfl, rfl, rfl, rfl⟩ := e2
    subst e0
    exact ⟨K, a0, a1, a2, a3, a4, a5, d0, d1, d2, d3, d4, d5, c0, c1, c2, c3, c4, c5, ve, rfl, la, ld⟩
end Go.Proofs.YteaafnjflghlhaaDoor
namespace Go.Proofs.YteaafnjflghlhaaDoor.WFieldRoot
open Go.ChangeShapes Go.WideShapes Go.ChangeAt Go.RowKit

theorem own : ownKnob Tryd.prog.godebug = none := by kernel_rfl

set_option maxRecDepth 100000 in
theorem lifted (os : Os) (started : os.Started) (H : Type) (enc : TypeId × Value → H) :
    ReturnsInHanded {} Tryd.checked os 4 .any (fun w args => (Rows.fieldRootSpec.pre enc Tryd.prog Tryd.f4 [] false w args ∧ laidMetH Tryd.prog Rows.fieldRootRow.laid w) ∧ sizedMet enc Tryd.prog Tryd.f4 (OpenSpec.ofChange Rows.fieldRootSpec) false w args)
      (Rows.fieldRootSpec.post enc Tryd.prog Tryd.f4 false true false false) := by
  refine returnsInHanded_of_change_and (C := Tryd.checked) (X := fun w _ => laidMetH Tryd.prog Rows.fieldRootRow.laid w) (fun _ _ _ hh h => h.of_heap hh) own started (by kernel_rfl) Tryd.func4
    (ChangeSpec.witness_shaped (enc := enc) (C := Tryd.checked) (os := os) (X := fun w _ => laidMetH Tryd.prog Rows.fieldRootRow.laid w) false (World.doorLaid Tryd.prog 400 os) #[.agg #[.int .i64 0, .int .u64 0, .int .u64 0, .int .u64 0, .int .u64 0, .int .u64 0, .int .u64 0, .int .u64 0, .int .u64 0, .int .u64 0, .int .u64 0, .int .u64 0, .int .u64 0, .int .u64 0, .int .u64 0, .int .u64 0, .int .u64 0, .int .u64 0, .int .u64 0, .slice none 0 0]] 8 rfl (World.shaped_of_RefB (by kernel_rfl) (by kernel_rfl)) (by kernel_rfl) (by kernel_rfl) (by kernel_rfl) (door_met os _)) ?_
  intro W base args ds gs before hval0 hW _ _ hL _
  have hval : ∀ (j : Nat) t v, Tryd.f4.params[j]? = some t → args[j]? = some v → Value.okWide Tryd.prog W .any base t v := hval0
  have hW' := hW
  obtain ⟨p, q, hA0, hV, rfl, hfz, hnd⟩ := hW
  have hA : DataW.TrodAll enc Tryd.prog W 0 (fun _ => true) true Tryd.f4.params.toList args.toList ds p := hA0
  rw [Tryd.params4] at hA hval
  obtain ⟨v0, vs0, d0, ds0, p0, q0, hargs, rfl, rfl, h0, r0⟩ := trodAll_cons hA
  obtain ⟨rfl, rfl, rfl⟩ := trodAll_nil r0
  obtain rfl : args = #[v0] := by cases args; simp_all
  obtain ⟨rfl, rfl⟩ := trodVars_none hV
  obtain ⟨K, a0, a1, a2, a3, a4, a5, b0, b1, b2, b3, b4, b5, c0, c1, c2, c3, c4, c5, ve, rfl, la, lb⟩ := open_askR (hval 0 27 v0 rfl rfl) h0
  have hG := of_laidR hL
  clear hA0 hval0
  have hcall : Calls Tryd.prog 4 #[.agg #[.int .i64 K, .int .u64 (a0 : Nat), .int .u64 (a1 : Nat), .int .u64 (a2 : Nat), .int .u64 (a3 : Nat), .int .u64 (a4 : Nat), .int .u64 (a5 : Nat), .int .u64 (b0 : Nat), .int .u64 (b1 : Nat), .int .u64 (b2 : Nat), .int .u64 (b3 : Nat), .int .u64 (b4 : Nat), .int .u64 (b5 : Nat), c0, c1, c2, c3, c4, c5, ve]] W (RetV (.bool true) W) := by
    by_cases hK : 1 ≤ K ∧ K ≤ 6
    · obtain ⟨k, rfl⟩ : ∃ k : Nat, K = (k : Int) := ⟨K.toNat, by omega⟩
      exact fieldRoot_k W (by omega) (by omega) hG.1 hG.2 la lb
    · exact fieldRoot_no W (by omega) hG.1
  refine hcall.mono fun e W' ⟨he, hb⟩ => ?_
  subst he
  have harg0 := Below.trod lawLaid (by kernel_rfl) (of_decide_eq_true (by kernel_rfl)) h0 hb (fun x hx => hW'.lt x (by simp [hx]))
  have hA2 := (trodAll_cons_mk harg0 trodAll_mk0)
  exact ⟨_, rfl, _, _, _, [] ++ [], _, [], hW', trodAll_cons_mk (shut_bool Tryd.underlying4 _) trodAll_mk0,
    hA2, rfl, hb.frame _, fun h => by cases h⟩

theorem proved : Rows.FieldRootSaid :=
  OpenClaim.holds_of_wide 4 Tryd.f4 rfl rfl rfl rfl rfl rfl rfl ⟨rfl, rfl, rfl, rfl, rfl⟩ rfl rfl rfl rfl rfl (by kernel_rfl) Tryd.func4 (by kernel_rfl)
    (of_decide_eq_true (by kernel_rfl)) (by unfold Func.isWrapper; first | (rw [if_pos (by decide +kernel)]; kernel_rfl) | (rw [if_neg (by decide +kernel)]; exact ⟨rfl, rfl⟩))
    (fun os started H enc _ => lifted os started H enc)
end Go.Proofs.YteaafnjflghlhaaDoor.WFieldRoot
namespace Go.Proofs.YteaafnjflghlhaaDoor
set_option maxRecDepth 100000 in
theorem fieldRoot_holds : Rows.FieldRootCardSaid :=
  Claim7.holds_tied_plain_at .later [] [.data, .data] true (true, "371ad5e45a44a604165ec5c892db89906dfe1ed7f4e390e6674f4114806280a3") false
    WFieldRoot.proved (fun _ h => by cases h) (by kernel_rfl) (fun _ h => by cases h) fieldRoot_row_tie rfl ⟨rfl, rfl⟩ (by kernel_rfl) rfl
    (fun f fn hf hfn => by
      obtain rfl : f = 4 := Option.some.inj ((show Tryd.prog.funcNamed Rows.fieldRootRow.func = some 4 by kernel_rfl).symm.trans hf) |>.symm
      obtain rfl : fn = Tryd.f4 := (Option.some.inj (Tryd.func4.symm.trans hfn)).symm
      exact ⟨by kernel_rfl, fun j t ht => by
        rw [Tryd.params4] at ht
        have hm : t ∈ [27] := by simpa using Array.mem_of_getElem? ht
        have hall : ([27].all fun u => !Tryd.prog.wantsStandIn u) = true := by kernel_rfl
        exact (show Tryd.prog.wantsStandIn t = false by simpa using List.all_eq_true.1 hall t hm)⟩)
    (by kernel_rfl)
#print axioms fieldRoot_holds
end Go.Proofs.YteaafnjflghlhaaDoor
