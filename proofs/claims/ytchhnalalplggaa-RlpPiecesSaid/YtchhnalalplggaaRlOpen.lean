/- An argument of type api.Item, opened: an item in memory. -/
import Derived.Test.YtchhnalalplggaaRlItem
import Derived.Test.YtchhnalalplggaaOpenB
import Derived.Deep.Slices
namespace Go.Proofs.Ytchhnalalplggaa
open Go.ChangeShapes Go.WideShapes Go.ChangeAt Go.RowKit

theorem cellsItem : Try.prog.cellsOf 25 = 3 := by kernel_rfl
theorem cellsBool : Try.prog.cellsOf 4 = 1 := by kernel_rfl
theorem cellsBs : Try.prog.cellsOf 22 = 1 := by kernel_rfl
theorem cellsIs : Try.prog.cellsOf 23 = 1 := by kernel_rfl
theorem list_of {P : Nat → Itm → Prop} : ∀ n, (∀ i, i < n → ∃ x, P i x) → ∃ xs : List Itm, xs.length = n ∧ ∀ (j : Nat) (x : Itm), xs[j]? = some x → P j x
  | 0, _ => ⟨[], rfl, fun j x h => by simp at h⟩
  | n + 1, h => by
    obtain ⟨xs, hl, hx⟩ := list_of n (fun i hi => h i (by omega))
    obtain ⟨y, hy⟩ := h n (by omega)
    refine ⟨xs ++ [y], by simp [hl], fun j x hj => ?_⟩
    by_cases hjn : j < n
    · rw [List.getElem?_append_left (by omega)] at hj
      exact hx j x hj
    · have : j = n := by
        have := (List.getElem?_eq_some_iff.1 hj).1
        simp only [List.length_append, List.length_cons, List.length_nil] at this
        omega
      subst this
      rw [List.getElem?_append_right (by omega), hl] at hj
      simp at hj
      subst hj
      exact hy
set_option maxRecDepth 100000 in
theorem open_item_fuel {H : Type} {enc : TypeId × Value → H} {W : World} : ∀ (fuel : Nat) (cs : List Value) (x : DataW H × List MemPlace),
    DataW.trod enc Try.prog W 0 (fun _ => true) true fuel 25 cs = some x → ∃ (a b c : Value) (I : Itm), cs = [a, b, c] ∧ IAt (fun g => g < W.heap.size) W (.agg #[a, b, c]) I := by
  intro fuel
  induction fuel using Nat.strongRecOn with
  | ind fuel ih =>
    intro cs x h
    obtain ⟨ys, n, rfl, -, hl, hyl, hf⟩ := DataW.trod_struct Try.underlying25 h
    rw [cellsItem] at hl
    have hyl : ys.length = 3 := hyl
    match cs, hl, ys, hyl with
    | [c0, c1, c2], _, [y0, y1, y2], _ =>
      have g0 := hf 0 _ rfl
      have g1 := hf 1 _ rfl
      have g2 := hf 2 _ rfl
      simp [cellsBool, cellsBs, cellsIs] at g0 g1 g2
      clear hf
      obtain ⟨l, hc0, -⟩ := DataW.trod_bool Try.underlying4 g0
      injection hc0 with hc0 _
      subst hc0
      obtain ⟨A, len, cap, rfl⟩ : ∃ A len cap, c1 = .slice A len cap := by
        rcases open_ints Try.underlying22 Try.underlying5 cells8 g1 with ⟨hcs, _⟩ | ⟨a, len', cap', zs, hcs, _⟩
        · injection hcs with hcs _; exact ⟨_, _, _, hcs⟩
        · injection hcs with hcs _; exact ⟨_, _, _, hcs⟩
      obtain ⟨bs, hbl, hrd, hds⟩ := open_rd (H := H) (enc := enc) (d := y1.1) (p := y1.2) ⟨n, by simpa [Value.cells] using g1⟩
      subst hbl
      have hAb : 0 < bs.length → ∃ b o, A = some ⟨b, o, none⟩ ∧ b < W.heap.size := fun h0 => by
        obtain ⟨b, o, e, hb, _⟩ := hrd.at_ h0
        exact ⟨b, o, e, hb⟩
      rcases DataW.trod_slice Try.underlying23 g2 with ⟨hcs, _⟩ | ⟨a, m, cap', elems, rest, k, hk, hcs, _, _, hm, _, hlen, hel, _, _⟩
      · injection hcs with hcs _
        subst hcs
        exact ⟨_, _, _, .mk l bs [], rfl, IAt.mk (S := fun g => g < W.heap.size) l A cap none 0 0 0 (fun _ => undef) bs [] hrd hds hAb (fun h => absurd h (by simp)) (Nat.le_refl _) (fun _ => rfl) (fun j hj => absurd hj (by simp)) (fun j x hj => by simp at hj)⟩
      · injection hcs with hcs _
        subst hcs
        obtain ⟨b, o, s⟩ := a
        rw [cellsItem] at hel
        have hs : 0 < m → s = none := fun h0 => by
          have he := hel 0 h0
          rw [List.getElem?_eq_getElem (by omega)] at he
          obtain ⟨cs', h1, h2⟩ := Option.bind_eq_some_iff.1 he
          obtain ⟨p, q, r, I, rfl, hI⟩ := ih k (by omega) cs' _ h2
          obtain ⟨_, _, hc⟩ := World.cells?_some h1
          have z0 := hc 0 (by omega)
          simpa [Addr.add] using World.cell?_spot (z0.trans rfl)
        have hcell : ∀ i, i < m → ∃ p q r I, (s = none ∧ W.cell? ⟨b, o + 3 * i, none⟩ = some p ∧ W.cell? ⟨b, o + (3 * i + 1), none⟩ = some q ∧ W.cell? ⟨b, o + (3 * i + 2), none⟩ = some r) ∧ IAt (fun g => g < W.heap.size) W (.agg #[p, q, r]) I := by
          intro i hi
          have he := hel i hi
          rw [List.getElem?_eq_getElem (by omega)] at he
          obtain ⟨cs', h1, h2⟩ := Option.bind_eq_some_iff.1 he
          obtain ⟨p, q, r, I, rfl, hI⟩ := ih k (by omega) cs' _ h2
          obtain ⟨_, _, hc⟩ := World.cells?_some h1
          have z0 := hc 0 (by omega)
          have z1 := hc 1 (by omega)
          have z2 := hc 2 (by omega)
          obtain rfl := hs (by omega)
          rw [Addr.add_mid, Addr.add_mid] at z0 z1 z2
          refine ⟨p, q, r, I, ⟨rfl, ?_, ?_, ?_⟩, hI⟩
          · rw [show o + 3 * i = o + i * 3 + 0 by omega]; exact z0
          · rw [show o + (3 * i + 1) = o + i * 3 + 1 by omega]; exact z1
          · rw [show o + (3 * i + 2) = o + i * 3 + 2 by omega]; exact z2
        have hu : ∀ j, j < 3 * m → W.cell? ⟨b, o + j, none⟩ = some ((W.cell? ⟨b, o + j, none⟩).getD undef) := fun j hj => by
          obtain ⟨p, q, r, I, ⟨-, k0, k1, k2⟩, -⟩ := hcell (j / 3) (by omega)
          have : j = 3 * (j / 3) ∨ j = 3 * (j / 3) + 1 ∨ j = 3 * (j / 3) + 2 := by omega
          rcases this with e | e | e
          · rw [show (⟨b, o + j, none⟩ : Addr) = ⟨b, o + 3 * (j / 3), none⟩ by rw [← e], k0]; rfl
          · rw [show (⟨b, o + j, none⟩ : Addr) = ⟨b, o + (3 * (j / 3) + 1), none⟩ by rw [← e], k1]; rfl
          · rw [show (⟨b, o + j, none⟩ : Addr) = ⟨b, o + (3 * (j / 3) + 2), none⟩ by rw [← e], k2]; rfl
        obtain ⟨xs, hxl, hx⟩ := list_of (P := fun j I => IAt (fun g => g < W.heap.size) W (.agg #[(W.cell? ⟨b, o + 3 * j, none⟩).getD undef, (W.cell? ⟨b, o + (3 * j + 1), none⟩).getD undef, (W.cell? ⟨b, o + (3 * j + 2), none⟩).getD undef]) I) m (fun i hi => by
          obtain ⟨p, q, r, I, ⟨-, k0, k1, k2⟩, hI⟩ := hcell i hi
          exact ⟨I, by rw [k0, k1, k2]; exact hI⟩)
        subst hxl
        exact ⟨_, _, _, .mk l bs xs, rfl, IAt.mk (S := fun g => g < W.heap.size) l A cap (some ⟨b, o, s⟩) cap' b o (fun j => (W.cell? ⟨b, o + j, none⟩).getD undef) bs xs hrd hds hAb
          (fun h0 => by
            obtain ⟨p, q, r, I, ⟨rfl, k0, -, -⟩, -⟩ := hcell 0 h0
            have := World.block_lt_of_cell? _ _ k0
            exact ⟨rfl, this, this⟩) hm (fun h => by cases h) hu hx⟩
theorem open_item {H : Type} {enc : TypeId × Value → H} {W : World} {v : Value} {d : DataW H} {p : List MemPlace} (hv : ∃ cs, v = .agg cs)
    (h : DataW.Trod enc Try.prog W 0 (fun _ => true) true 25 v d p) : ∃ I, IAt (fun g => g < W.heap.size) W v I := by
  obtain ⟨fuel, hf⟩ := h
  obtain ⟨a, b, c, I, e, hI⟩ := open_item_fuel fuel _ _ hf
  obtain ⟨⟨cs⟩, rfl⟩ := hv
  have : cs = [a, b, c] := by simpa [Value.cells] using e
  subst this
  exact ⟨I, hI⟩
set_option maxRecDepth 100000 in
/-- An argument of type []api.Item, opened. -/
theorem open_items {H : Type} {enc : TypeId × Value → H} {W : World} {B : Option Addr} {m cap' : Nat} {d : DataW H} {p : List MemPlace}
    (h : DataW.Trod enc Try.prog W 0 (fun _ => true) true 23 (.slice B m cap') d p) : ∃ xs : List Itm, xs.length = m ∧ m ≤ cap' ∧ (B = none → cap' = 0) ∧ ∃ (b off : Nat) (u : Nat → Value), (0 < m → B = some ⟨b, off, none⟩ ∧ b < W.heap.size) ∧
      (∀ j, j < 3 * m → W.cell? ⟨b, off + j, none⟩ = some (u j)) ∧ ∀ (j : Nat) (x : Itm), xs[j]? = some x → IAt (fun g => g < W.heap.size) W (.agg #[u (3 * j), u (3 * j + 1), u (3 * j + 2)]) x := by
  obtain ⟨fuel, hf⟩ := h
  rcases DataW.trod_slice Try.underlying23 hf with ⟨hcs, _⟩ | ⟨a, m', cap2, elems, rest, k, hk, hcs, _, _, hm, _, hlen, hel, _, _⟩
  · simp [Value.cells] at hcs
    obtain ⟨rfl, rfl, rfl⟩ := hcs
    exact ⟨[], rfl, Nat.le_refl _, fun _ => rfl, 0, 0, fun _ => undef, fun h => absurd h (by omega), fun j hj => absurd hj (by omega), fun j x hj => by simp at hj⟩
  · simp [Value.cells] at hcs
    obtain ⟨rfl, rfl, rfl⟩ := hcs
    obtain ⟨b, o, s⟩ := a
    rw [cellsItem] at hel
    have hs : 0 < m → s = none := fun h0 => by
      have he := hel 0 h0
      rw [List.getElem?_eq_getElem (by omega)] at he
      obtain ⟨cs', h1, h2⟩ := Option.bind_eq_some_iff.1 he
      obtain ⟨p, q, r, I, rfl, hI⟩ := open_item_fuel k cs' _ h2
      obtain ⟨_, _, hc⟩ := World.cells?_some h1
      have z0 := hc 0 (by omega)
      simpa [Addr.add] using World.cell?_spot (z0.trans rfl)
    have hcell : ∀ i, i < m → ∃ p q r I, (s = none ∧ W.cell? ⟨b, o + 3 * i, none⟩ = some p ∧ W.cell? ⟨b, o + (3 * i + 1), none⟩ = some q ∧ W.cell? ⟨b, o + (3 * i + 2), none⟩ = some r) ∧ IAt (fun g => g < W.heap.size) W (.agg #[p, q, r]) I := by
      intro i hi
      have he := hel i hi
      rw [List.getElem?_eq_getElem (by omega)] at he
      obtain ⟨cs', h1, h2⟩ := Option.bind_eq_some_iff.1 he
      obtain ⟨p, q, r, I, rfl, hI⟩ := open_item_fuel k cs' _ h2
      obtain ⟨_, _, hc⟩ := World.cells?_some h1
      have z0 := hc 0 (by omega)
      have z1 := hc 1 (by omega)
      have z2 := hc 2 (by omega)
      obtain rfl := hs (by omega)
      rw [Addr.add_mid, Addr.add_mid] at z0 z1 z2
      refine ⟨p, q, r, I, ⟨rfl, ?_, ?_, ?_⟩, hI⟩
      · rw [show o + 3 * i = o + i * 3 + 0 by omega]; exact z0
      · rw [show o + (3 * i + 1) = o + i * 3 + 1 by omega]; exact z1
      · rw [show o + (3 * i + 2) = o + i * 3 + 2 by omega]; exact z2
    have hu : ∀ j, j < 3 * m → W.cell? ⟨b, o + j, none⟩ = some ((W.cell? ⟨b, o + j, none⟩).getD undef) := fun j hj => by
      obtain ⟨p, q, r, I, ⟨-, k0, k1, k2⟩, -⟩ := hcell (j / 3) (by omega)
      have : j = 3 * (j / 3) ∨ j = 3 * (j / 3) + 1 ∨ j = 3 * (j / 3) + 2 := by omega
      rcases this with e | e | e
      · rw [show (⟨b, o + j, none⟩ : Addr) = ⟨b, o + 3 * (j / 3), none⟩ by rw [← e], k0]; rfl
      · rw [show (⟨b, o + j, none⟩ : Addr) = ⟨b, o + (3 * (j / 3) + 1), none⟩ by rw [← e], k1]; rfl
      · rw [show (⟨b, o + j, none⟩ : Addr) = ⟨b, o + (3 * (j / 3) + 2), none⟩ by rw [← e], k2]; rfl
    obtain ⟨xs, hxl, hx⟩ := list_of (P := fun j I => IAt (fun g => g < W.heap.size) W (.agg #[(W.cell? ⟨b, o + 3 * j, none⟩).getD undef, (W.cell? ⟨b, o + (3 * j + 1), none⟩).getD undef, (W.cell? ⟨b, o + (3 * j + 2), none⟩).getD undef]) I) m (fun i hi => by
      obtain ⟨p, q, r, I, ⟨-, k0, k1, k2⟩, hI⟩ := hcell i hi
      exact ⟨I, by rw [k0, k1, k2]; exact hI⟩)
    exact ⟨xs, hxl, hm, (fun h => by cases h), b, o, fun j => (W.cell? ⟨b, o + j, none⟩).getD undef, (fun h0 => by
      obtain ⟨p, q, r, I, ⟨rfl, k0, -, -⟩, -⟩ := hcell 0 h0
      exact ⟨rfl, World.block_lt_of_cell? _ _ k0⟩), hu, hx⟩
end Go.Proofs.Ytchhnalalplggaa
