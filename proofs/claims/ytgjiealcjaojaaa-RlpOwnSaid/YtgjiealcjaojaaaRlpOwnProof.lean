/- RlpOwn holds: items and bytes that are handed in to Encode, Decode, Split, Envelope stay as they were with their spare room, and what is told is the caller's own; no condition. -/
import Derived.Test.YtgjiealcjaojaaaDig
import Derived.Test.YtgjiealcjaojaaaProg
import Derived.ProofKit
import Derived.OpenShut
import Derived.Carry
import Derived.Deep.MidRow
import Derived.Test.YtgjiealcjaojaaaRlItem
import Derived.Deep.Slices
import Derived.Test.YtgjiealcjaojaaaRows
import Derived.Test.YtgjiealcjaojaaaLawRlpOwn
import Derived.Deep.Strs
namespace Go.Proofs.Ytgjiealcjaojaaa
open Go.ChangeShapes Go.WideShapes Go.ChangeAt Go.RowKit

theorem lawLaid : laidOutB Try.prog = true := by kernel_rfl
theorem cells8 : Try.prog.cellsOf 5 = 1 := by kernel_rfl
theorem byte_wf {x : Int} (h : (Lit.int .u8 x).wf = true) : 0 ≤ x ∧ x < 256 := by
  have h1 : IntKind.u8.min = 0 := rfl
  have h2 : IntKind.u8.max = 255 := rfl
  simp only [Lit.wf, Bool.and_eq_true, decide_eq_true_eq] at h
  omega
theorem open_rd {H : Type} {enc : TypeId × Value → H} {W : World} {A : Option Addr} {len cap : Nat} {d : DataW H} {p : List MemPlace}
    (h : DataW.Trod enc Try.prog W 0 (fun _ => true) true 22 (.slice A len cap) d p) : ∃ bs : List Nat, bs.length = len ∧ Rd .u8 W A cap bs ∧ Ds 256 bs := by
  obtain ⟨fuel, hf⟩ := h
  rcases open_ints Try.underlying22 Try.underlying5 cells8 hf with ⟨hcs, hx⟩ | ⟨a, len', cap', zs, hcs, _, hl, hm, hz, hx, hcell, hwz⟩
  · simp [Value.cells] at hcs
    obtain ⟨rfl, rfl, rfl⟩ := hcs
    exact ⟨[], rfl, Rd.nil _, Ds.nil⟩
  · simp [Value.cells] at hcs
    obtain ⟨rfl, rfl, rfl⟩ := hcs
    simp only [if_true] at hz
    have hr : ∀ j, j < zs.length → 0 ≤ zs.getD j 0 ∧ zs.getD j 0 < 256 := fun j hj => by
      have : zs.getD j 0 = zs[j] := by simp [hj]
      rw [this]
      exact byte_wf (hwz _ (List.getElem_mem hj))
    refine ⟨(zs.take len).map Int.toNat, by simp; omega, ⟨by simp; omega, (fun h => by cases h), fun hpos => ?_⟩, fun x hx => ?_⟩
    · have hpos' : 0 < len := by simp at hpos; omega
      obtain ⟨b, o, s⟩ := a
      have h0 := hcell 0 (by omega)
      obtain rfl : s = none := by simpa [Addr.add] using World.cell?_spot h0
      have hb : b < W.heap.size := by have := World.block_lt_of_cell? _ _ h0; simpa [block_add] using this
      refine ⟨b, o, rfl, hb, fun j hj => ?_⟩
      have hj' : j < len := by simp at hj; omega
      have h := hcell j (by omega)
      rw [Addr.add_mid] at h
      rw [h]
      have h2 := hr j (by omega)
      have e : ((((zs.take len).map Int.toNat).getD j 0 : Nat) : Int) = zs.getD j 0 := by
        have e1 : ((zs.take len).map Int.toNat).getD j 0 = (zs.getD j 0).toNat := by
          simp [List.getD_eq_getElem?_getD, hj', show j < zs.length by omega]
        rw [e1]
        omega
      rw [e]
    · rw [List.mem_map] at hx
      obtain ⟨z, hz', rfl⟩ := hx
      have := byte_wf (hwz z (List.mem_of_mem_take hz'))
      omega
end Go.Proofs.Ytgjiealcjaojaaa
namespace Go.Proofs.Ytgjiealcjaojaaa
open Go.ChangeShapes Go.WideShapes Go.ChangeAt Go.RowKit

theorem cellsItem : Try.prog.cellsOf 56 = 3 := by kernel_rfl
theorem cellsBool : Try.prog.cellsOf 4 = 1 := by kernel_rfl
theorem cellsBs : Try.prog.cellsOf 22 = 1 := by kernel_rfl
theorem cellsIs : Try.prog.cellsOf 54 = 1 := by kernel_rfl
theorem list_of {P : Nat → Itm → Prop} : ∀ n, (∀ i, i < n → ∃ x, P i x) → ∃ xs : List Itm, xs.length = n ∧ ∀ (j : Nat) (x : Itm), xs[j]? = some x → P j x
  | 0, _ => ⟨[], rfl, fun j x h => by simp at h⟩
  | n + 1, h => by
    obtain ⟨xs, hl, hx⟩ := list_of n (fun i hi => h i (by omega))
    obtain ⟨y, hy⟩ := h n (by omega)
    refine ⟨xs ++ [y], by simp [hl], fun j x hj => ?_⟩
    by_cases hjn : j < n
    · rw [List.getElem?_append_left (by omega)] at hj
      exact hx j x hj
    · have : j = n := by
        have := (List.getElem?_eq_some_iff.1 hj).1
        simp only [List.length_append, List.length_cons, List.length_nil] at this
        omega
      subst this
      rw [List.getElem?_append_right (by omega), hl] at hj
      simp at hj
      subst hj
      exact hy
set_option maxRecDepth 100000 in
theorem open_item_fuel {H : Type} {enc : TypeId × Value → H} {W : World} : ∀ (fuel : Nat) (cs : List Value) (x : DataW H × List MemPlace),
    DataW.trod enc Try.prog W 0 (fun _ => true) true fuel 56 cs = some x → ∃ (a b c : Value) (I : Itm), cs = [a, b, c] ∧ IAt (fun g => g < W.heap.size) W (.agg #[a, b, c]) I := by
  intro fuel
  induction fuel using Nat.strongRecOn with
  | ind fuel ih =>
    intro cs x h
    obtain ⟨ys, n, rfl, -, hl, hyl, hf⟩ := DataW.trod_struct Try.underlying56 h
    rw [cellsItem] at hl
    have hyl : ys.length = 3 := hyl
    match cs, hl, ys, hyl with
    | [c0, c1, c2], _, [y0, y1, y2], _ =>
      have g0 := hf 0 _ rfl
      have g1 := hf 1 _ rfl
      have g2 := hf 2 _ rfl
      simp [cellsBool, cellsBs, cellsIs] at g0 g1 g2
      clear hf
      obtain ⟨l, hc0, -⟩ := DataW.trod_bool Try.underlying4 g0
      injection hc0 with hc0 _
      subst hc0
      obtain ⟨A, len, cap, rfl⟩ : ∃ A len cap, c1 = .slice A len cap := by
        rcases open_ints Try.underlying22 Try.underlying5 cells8 g1 with ⟨hcs, _⟩ | ⟨a, len', cap', zs, hcs, _⟩
        · injection hcs with hcs _; exact ⟨_, _, _, hcs⟩
        · injection hcs with hcs _; exact ⟨_, _, _, hcs⟩
      obtain ⟨bs, hbl, hrd, hds⟩ := open_rd (H := H) (enc := enc) (d := y1.1) (p := y1.2) ⟨n, by simpa [Value.cells] using g1⟩
      subst hbl
      have hAb : 0 < bs.length → ∃ b o, A = some ⟨b, o, none⟩ ∧ b < W.heap.size := fun h0 => by
        obtain ⟨b, o, e, hb, _⟩ := hrd.at_ h0
        exact ⟨b, o, e, hb⟩
      rcases DataW.trod_slice Try.underlying54 g2 with ⟨hcs, _⟩ | ⟨a, m, cap', elems, rest, k, hk, hcs, _, _, hm, _, hlen, hel, _, _⟩
      · injection hcs with hcs _
        subst hcs
        exact ⟨_, _, _, .mk l bs [], rfl, IAt.mk (S := fun g => g < W.heap.size) l A cap none 0 0 0 (fun _ => undef) bs [] hrd hds hAb (fun h => absurd h (by simp)) (Nat.le_refl _) (fun _ => rfl) (fun j hj => absurd hj (by simp)) (fun j x hj => by simp at hj)⟩
      · injection hcs with hcs _
        subst hcs
        obtain ⟨b, o, s⟩ := a
        rw [cellsItem] at hel
        have hs : 0 < m → s = none := fun h0 => by
          have he := hel 0 h0
          rw [List.getElem?_eq_getElem (by omega)] at he
          obtain ⟨cs', h1, h2⟩ := Option.bind_eq_some_iff.1 he
          obtain ⟨p, q, r, I, rfl, hI⟩ := ih k (by omega) cs' _ h2
          obtain ⟨_, _, hc⟩ := World.cells?_some h1
          have z0 := hc 0 (by omega)
          simpa [Addr.add] using World.cell?_spot (z0.trans rfl)
        have hcell : ∀ i, i < m → ∃ p q r I, (s = none ∧ W.cell? ⟨b, o + 3 * i, none⟩ = some p ∧ W.cell? ⟨b, o + (3 * i + 1), none⟩ = some q ∧ W.cell? ⟨b, o + (3 * i + 2), none⟩ = some r) ∧ IAt (fun g => g < W.heap.size) W (.agg #[p, q, r]) I := by
          intro i hi
          have he := hel i hi
          rw [List.getElem?_eq_getElem (by omega)] at he
          obtain ⟨cs', h1, h2⟩ := Option.bind_eq_some_iff.1 he
          obtain ⟨p, q, r, I, rfl, hI⟩ := ih k (by omega) cs' _ h2
          obtain ⟨_, _, hc⟩ := World.cells?_some h1
          have z0 := hc 0 (by omega)
          have z1 := hc 1 (by omega)
          have z2 := hc 2 (by omega)
          obtain rfl := hs (by omega)
          rw [Addr.add_mid, Addr.add_mid] at z0 z1 z2
          refine ⟨p, q, r, I, ⟨rfl, ?_, ?_, ?_⟩, hI⟩
          · rw [show o + 3 * i = o + i * 3 + 0 by omega]; exact z0
          · rw [show o + (3 * i + 1) = o + i * 3 + 1 by omega]; exact z1
          · rw [show o + (3 * i + 2) = o + i * 3 + 2 by omega]; exact z2
        have hu : ∀ j, j < 3 * m → W.cell? ⟨b, o + j, none⟩ = some ((W.cell? ⟨b, o + j, none⟩).getD undef) := fun j hj => by
          obtain ⟨p, q, r, I, ⟨-, k0, k1, k2⟩, -⟩ := hcell (j / 3) (by omega)
          have : j = 3 * (j / 3) ∨ j = 3 * (j / 3) + 1 ∨ j = 3 * (j / 3) + 2 := by omega
          rcases this with e | e | e
          · rw [show (⟨b, o + j, none⟩ : Addr) = ⟨b, o + 3 * (j / 3), none⟩ by rw [← e], k0]; rfl
          · rw [show (⟨b, o + j, none⟩ : Addr) = ⟨b, o + (3 * (j / 3) + 1), none⟩ by rw [← e], k1]; rfl
          · rw [show (⟨b, o + j, none⟩ : Addr) = ⟨b, o + (3 * (j / 3) + 2), none⟩ by rw [← e], k2]; rfl
        obtain ⟨xs, hxl, hx⟩ := list_of (P := fun j I => IAt (fun g => g < W.heap.size) W (.agg #[(W.cell? ⟨b, o + 3 * j, none⟩).getD undef, (W.cell? ⟨b, o + (3 * j + 1), none⟩).getD undef, (W.cell? ⟨b, o + (3 * j + 2), none⟩).getD undef]) I) m (fun i hi => by
          obtain ⟨p, q, r, I, ⟨-, k0, k1, k2⟩, hI⟩ := hcell i hi
          exact ⟨I, by rw [k0, k1, k2]; exact hI⟩)
        subst hxl
        exact ⟨_, _, _, .mk l bs xs, rfl, IAt.mk (S := fun g => g < W.heap.size) l A cap (some ⟨b, o, s⟩) cap' b o (fun j => (W.cell? ⟨b, o + j, none⟩).getD undef) bs xs hrd hds hAb
          (fun h0 => by
            obtain ⟨p, q, r, I, ⟨rfl, k0, -, -⟩, -⟩ := hcell 0 h0
            have := World.block_lt_of_cell? _ _ k0
            exact ⟨rfl, this, this⟩) hm (fun h => by cases h) hu hx⟩
theorem open_item {H : Type} {enc : TypeId × Value → H} {W : World} {v : Value} {d : DataW H} {p : List MemPlace} (hv : ∃ cs, v = .agg cs)
    (h : DataW.Trod enc Try.prog W 0 (fun _ => true) true 56 v d p) : ∃ I, IAt (fun g => g < W.heap.size) W v I := by
  obtain ⟨fuel, hf⟩ := h
  obtain ⟨a, b, c, I, e, hI⟩ := open_item_fuel fuel _ _ hf
  obtain ⟨⟨cs⟩, rfl⟩ := hv
  have : cs = [a, b, c] := by simpa [Value.cells] using e
  subst this
  exact ⟨I, hI⟩
set_option maxRecDepth 100000 in
/-- An argument of type []api.Item, opened. -/
theorem open_items {H : Type} {enc : TypeId × Value → H} {W : World} {B : Option Addr} {m cap' : Nat} {d : DataW H} {p : List MemPlace}
    (h : DataW.Trod enc Try.prog W 0 (fun _ => true) true 54 (.slice B m cap') d p) : ∃ xs : List Itm, xs.length = m ∧ m ≤ cap' ∧ (B = none → cap' = 0) ∧ ∃ (b off : Nat) (u : Nat → Value), (0 < m → B = some ⟨b, off, none⟩ ∧ b < W.heap.size) ∧
      (∀ j, j < 3 * m → W.cell? ⟨b, off + j, none⟩ = some (u j)) ∧ ∀ (j : Nat) (x : Itm), xs[j]? = some x → IAt (fun g => g < W.heap.size) W (.agg #[u (3 * j), u (3 * j + 1), u (3 * j + 2)]) x := by
  obtain ⟨fuel, hf⟩ := h
  rcases DataW.trod_slice Try.underlying54 hf with ⟨hcs, _⟩ | ⟨a, m', cap2, elems, rest, k, hk, hcs, _, _, hm, _, hlen, hel, _, _⟩
  · simp [Value.cells] at hcs
    obtain ⟨rfl, rfl, rfl⟩ := hcs
    exact ⟨[], rfl, Nat.le_refl _, fun _ => rfl, 0, 0, fun _ => undef, fun h => absurd h (by omega), fun j hj => absurd hj (by omega), fun j x hj => by simp at hj⟩
  · simp [Value.cells] at hcs
    obtain ⟨rfl, rfl, rfl⟩ := hcs
    obtain ⟨b, o, s⟩ := a
    rw [cellsItem] at hel
    have hs : 0 < m → s = none := fun h0 => by
      have he := hel 0 h0
      rw [List.getElem?_eq_getElem (by omega)] at he
      obtain ⟨cs', h1, h2⟩ := Option.bind_eq_some_iff.1 he
      obtain ⟨p, q, r, I, rfl, hI⟩ := open_item_fuel k cs' _ h2
      obtain ⟨_, _, hc⟩ := World.cells?_some h1
      have z0 := hc 0 (by omega)
      simpa [Addr.add] using World.cell?_spot (z0.trans rfl)
    have hcell : ∀ i, i < m → ∃ p q r I, (s = none ∧ W.cell? ⟨b, o + 3 * i, none⟩ = some p ∧ W.cell? ⟨b, o + (3 * i + 1), none⟩ = some q ∧ W.cell? ⟨b, o + (3 * i + 2), none⟩ = some r) ∧ IAt (fun g => g < W.heap.size) W (.agg #[p, q, r]) I := by
      intro i hi
      have he := hel i hi
      rw [List.getElem?_eq_getElem (by omega)] at he
      obtain ⟨cs', h1, h2⟩ := Option.bind_eq_some_iff.1 he
      obtain ⟨p, q, r, I, rfl, hI⟩ := open_item_fuel k cs' _ h2
      obtain ⟨_, _, hc⟩ := World.cells?_some h1
      have z0 := hc 0 (by omega)
      have z1 := hc 1 (by omega)
      have z2 := hc 2 (by omega)
      obtain rfl := hs (by omega)
      rw [Addr.add_mid, Addr.add_mid] at z0 z1 z2
      refine ⟨p, q, r, I, ⟨rfl, ?_, ?_, ?_⟩, hI⟩
      · rw [show o + 3 * i = o + i * 3 + 0 by omega]; exact z0
      · rw [show o + (3 * i + 1) = o + i * 3 + 1 by omega]; exact z1
      · rw [show o + (3 * i + 2) = o + i * 3 + 2 by omega]; exact z2
    have hu : ∀ j, j < 3 * m → W.cell? ⟨b, o + j, none⟩ = some ((W.cell? ⟨b, o + j, none⟩).getD undef) := fun j hj => by
      obtain ⟨p, q, r, I, ⟨-, k0, k1, k2⟩, -⟩ := hcell (j / 3) (by omega)
      have : j = 3 * (j / 3) ∨ j = 3 * (j / 3) + 1 ∨ j = 3 * (j / 3) + 2 := by omega
      rcases this with e | e | e
      · rw [show (⟨b, o + j, none⟩ : Addr) = ⟨b, o + 3 * (j / 3), none⟩ by rw [← e], k0]; rfl
      · rw [show (⟨b, o + j, none⟩ : Addr) = ⟨b, o + (3 * (j / 3) + 1), none⟩ by rw [← e], k1]; rfl
      · rw [show (⟨b, o + j, none⟩ : Addr) = ⟨b, o + (3 * (j / 3) + 2), none⟩ by rw [← e], k2]; rfl
    obtain ⟨xs, hxl, hx⟩ := list_of (P := fun j I => IAt (fun g => g < W.heap.size) W (.agg #[(W.cell? ⟨b, o + 3 * j, none⟩).getD undef, (W.cell? ⟨b, o + (3 * j + 1), none⟩).getD undef, (W.cell? ⟨b, o + (3 * j + 2), none⟩).getD undef]) I) m (fun i hi => by
      obtain ⟨p, q, r, I, ⟨-, k0, k1, k2⟩, hI⟩ := hcell i hi
      exact ⟨I, by rw [k0, k1, k2]; exact hI⟩)
    exact ⟨xs, hxl, hm, (fun h => by cases h), b, o, fun j => (W.cell? ⟨b, o + j, none⟩).getD undef, (fun h0 => by
      obtain ⟨p, q, r, I, ⟨rfl, k0, -, -⟩, -⟩ := hcell 0 h0
      exact ⟨rfl, World.block_lt_of_cell? _ _ k0⟩), hu, hx⟩
end Go.Proofs.Ytgjiealcjaojaaa
namespace Go.Proofs.Ytgjiealcjaojaaa.WRlpOwn
open Go.ChangeShapes Go.WideShapes Go.ChangeAt Go.RowKit Go.Deep

theorem own : ownKnob Try.prog.godebug = none := by kernel_rfl

set_option maxRecDepth 100000 in
theorem lifted (os : Os) (started : os.Started) (H : Type) (enc : TypeId × Value → H) :
    ReturnsInHanded {} Try.checked os 5 .any (Rows.rlpOwnSpec.pre6 enc Try.prog Try.f5 Rows.rlpOwnRow.domain false) (Rows.rlpOwnSpec.post enc Try.prog Try.f5 false true false false) := by
  refine returnsInHanded_of_change (C := Try.checked) own started (by kernel_rfl) Try.func5
    (ChangeSpec.witness6 (enc := enc) (C := Try.checked) false ⟨#[], #[.agg #[.bool false, .slice none 0 0, .slice none 0 0], .slice none 0 0], []⟩ 8 (by kernel_rfl) (by kernel_rfl) (by kernel_rfl) (by kernel_rfl)) ?_
  intro W base args ds gs before hval0 hW _ _
  have hval : ∀ (j : Nat) t v, Try.f5.params[j]? = some t → args[j]? = some v → Value.okWide Try.prog W .any base t v := hval0
  have hW' := hW
  obtain ⟨p, q, hA0, hV, rfl, hfz, hnd⟩ := hW
  have hA : DataW.TrodAll enc Try.prog W 0 (fun _ => true) true Try.f5.params.toList args.toList ds p := hA0
  rw [Try.params5] at hA hval
  obtain ⟨v0, vs0, d0, ds0, p0, q0, hargs, rfl, rfl, h0, r0⟩ := trodAll_cons hA
  obtain ⟨v1, vs1, d1, ds1, p1, q1, rfl, rfl, rfl, h1, r1⟩ := trodAll_cons r0
  obtain ⟨rfl, rfl, rfl⟩ := trodAll_nil r1
  obtain rfl : args = #[v0, v1] := by cases args; simp_all
  obtain ⟨rfl, rfl⟩ := trodVars_none hV
  have hcs0 : ∃ cs, v0 = .agg cs := by
    obtain ⟨cs, rfl, _⟩ : ∃ cs, v0 = .agg cs ∧ cs.size = Try.prog.cellsOf 56 ∧ Row.okWide Try.prog W .any base 56 cs := by
      simpa [Value.okWide, Try.underlying56] using hval 0 56 v0 rfl rfl
    exact ⟨_, rfl⟩
  obtain ⟨I0, hI0⟩ := open_item hcs0 h0
  obtain ⟨A1, len1, cap1, rfl⟩ := okWide_slice Try.underlying22 (hval 1 22 v1 rfl rfl)
  obtain ⟨bs1, hbl1, hrd1, hds1⟩ := open_rd h1
  clear hA0 hval0
  have hcall := rlpOwn_c W hI0 hrd1 hds1
  rw [hbl1] at hcall
  refine hcall.mono fun e W' ⟨he, hb⟩ => ?_
  subst he
  have harg0 := Below.trod lawLaid (by kernel_rfl) (of_decide_eq_true (by kernel_rfl)) h0 hb (fun x hx => hW'.lt x (by simp [hx]))
  have harg1 := Below.trod lawLaid (by kernel_rfl) (of_decide_eq_true (by kernel_rfl)) h1 hb (fun x hx => hW'.lt x (by simp [hx]))
  have hA2 := (trodAll_cons_mk harg0 (trodAll_cons_mk harg1 trodAll_mk0))
  exact ⟨_, rfl, _, _, _, [] ++ [], _, [], hW', trodAll_cons_mk (shut_bool Try.underlying4 _) trodAll_mk0,
    hA2, rfl, hb.frame _, fun h => by cases h⟩

theorem proved : Rows.RlpOwnSaid :=
  OpenClaim.holds_of_wide 5 Try.f5 rfl rfl rfl rfl rfl rfl rfl ⟨rfl, rfl, rfl, rfl, rfl⟩ rfl rfl rfl rfl rfl (by kernel_rfl) Try.func5 (by kernel_rfl)
    (of_decide_eq_true (by kernel_rfl)) (by unfold Func.isWrapper; first | (rw [if_pos (by decide +kernel)]; kernel_rfl) | (rw [if_neg (by decide +kernel)]; exact ⟨rfl, rfl⟩))
    (fun os started H enc _ => lifted os started H enc)
end Go.Proofs.Ytgjiealcjaojaaa.WRlpOwn
namespace Go.Proofs.Ytgjiealcjaojaaa
theorem rlpOwn_holds : Rows.RlpOwnSaid := WRlpOwn.proved
#print axioms rlpOwn_holds
end Go.Proofs.Ytgjiealcjaojaaa
