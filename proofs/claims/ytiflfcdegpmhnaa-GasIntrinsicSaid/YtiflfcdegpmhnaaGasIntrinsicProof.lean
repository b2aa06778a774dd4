/- GasIntrinsic holds: for any int and any transaction, as the law says; no condition. -/
import Derived.Test.YtiflfcdegpmhnaaGsOpen
import Derived.Test.YtiflfcdegpmhnaaLawGasIntrinsic
import Derived.Deep.Slices
import Derived.Test.YtiflfcdegpmhnaaRows
import Derived.ProofKit
import Derived.OpenShut
import Derived.Deep.Strs
import Derived.Test.YtiflfcdegpmhnaaOpenB
namespace Go.Proofs.Ytiflfcdegpmhnaa
open Go.ChangeShapes Go.WideShapes Go.ChangeAt Go.RowKit Go.Deep

set_option maxRecDepth 100000 in
theorem gs_cellsA : Try.prog.cellsOf 53 = 20 := by kernel_rfl
set_option maxRecDepth 100000 in
theorem gs_cellsH : Try.prog.cellsOf 142 = 32 := by kernel_rfl
set_option maxRecDepth 100000 in
theorem gs_cells8 : Try.prog.cellsOf 5 = 1 := by kernel_rfl
set_option maxRecDepth 100000 in
theorem gs_cellsS8 : Try.prog.cellsOf 54 = 1 := by kernel_rfl
set_option maxRecDepth 100000 in
theorem gs_cellsSA : Try.prog.cellsOf 55 = 1 := by kernel_rfl
set_option maxRecDepth 100000 in
theorem gs_cellsSH : Try.prog.cellsOf 56 = 1 := by kernel_rfl
set_option maxRecDepth 100000 in
theorem gs_cellsAc : Try.prog.cellsOf 88 = 21 := by kernel_rfl
set_option maxRecDepth 100000 in
theorem gs_cellsTx : Try.prog.cellsOf 58 = 53 := by kernel_rfl
set_option maxRecDepth 100000 in
theorem wl_one (a : Nat) : ∀ u ∈ WL a, u.oneCell' = true := fun u hu => by
  simp only [WL, List.mem_cons, List.not_mem_nil, or_false] at hu
  rcases hu with rfl | rfl | rfl | rfl <;> rfl
set_option maxRecDepth 100000 in
theorem gs_listAllV {P : Nat → Value → Prop} : ∀ n, (∀ i, i < n → ∃ b, P i b) → ∃ l : List Value, l.length = n ∧ ∀ (i : Nat) (b : Value), l[i]? = some b → P i b
  | 0, _ => ⟨[], rfl, fun i b h => by simp at h⟩
  | n + 1, h => by
    obtain ⟨l, h1, h2⟩ := gs_listAllV n fun i hi => h i (by omega)
    obtain ⟨b, hb⟩ := h n (by omega)
    refine ⟨l ++ [b], by simp [h1], fun i c hi => ?_⟩
    rw [List.getElem?_append] at hi
    split at hi
    · exact h2 i c hi
    · rename_i hge
      have hil := (List.getElem?_eq_some_iff.1 hi).1
      have : i = n := by simp at hil; omega
      subst this
      rw [h1, Nat.sub_self] at hi
      simp at hi
      rw [← hi]; exact hb
set_option maxRecDepth 100000 in
theorem gs_trodBytes {T : TypeId} {n : Nat} (hT : Try.prog.underlying T = some (.array n 5)) (hcT : Try.prog.cellsOf T = n) {H : Type} {enc : TypeId × Value → H} {W : World} {base fuel : Nat} {spare : Nat → Bool} {held : Bool} {cs : List Value} {x : DataW H × List MemPlace} (h : DataW.trod enc Try.prog W base spare held fuel T cs = some x) :
    cs.length = n ∧ ∀ u ∈ cs, u.oneCell' = true := by
  obtain ⟨ys, m, -, -, hl, hyl, hf⟩ := DataW.trod_array hT h
  rw [hcT] at hl
  rw [gs_cells8] at hf
  refine ⟨hl, fun u hu => ?_⟩
  obtain ⟨i, hi, he⟩ := List.getElem_of_mem hu
  have h1 := hf i (by omega)
  rw [Nat.mul_one] at h1
  obtain ⟨y, hy⟩ : ∃ y, ys[i]? = some y := ⟨_, List.getElem?_eq_getElem (by omega)⟩
  rw [hy] at h1
  obtain ⟨z, e1, -, -⟩ := DataW.trod_int Try.underlying5 h1
  have h4 := congrArg (fun l : List Value => l[0]?) e1
  simp at h4
  rw [List.getElem?_eq_getElem hi] at h4
  injection h4 with h4
  rw [← he, h4]; rfl
set_option maxRecDepth 100000 in
theorem gs_trodHs {H : Type} {enc : TypeId × Value → H} {W : World} {fuel : Nat} {cs : List Value} {x : DataW H × List MemPlace} (h : DataW.trod enc Try.prog W 0 (fun _ => true) true fuel 56 cs = some x) :
    ∃ (A : Option Addr) (m c : Nat), cs = [.slice A m c] ∧ m ≤ c ∧ RowAt W A 32 m := by
  rcases DataW.trod_slice Try.underlying56 h with ⟨hcs, _⟩ | ⟨a, m, cap, elems, rest, k, hk, hcs, _, _, hm, _, hlen, hel, _, _⟩
  · exact ⟨none, 0, 0, hcs, Nat.le_refl _, .inl rfl⟩
  · rw [gs_cellsH] at hel
    refine ⟨some a, m, cap, hcs, hm, ?_⟩
    rcases Nat.eq_zero_or_pos m with h0 | h0
    · exact .inl h0
    have key : ∀ i, i < m → ∃ cs' : List Value, cs'.length = 32 ∧ (∀ u ∈ cs', u.oneCell' = true) ∧ ∀ q, q < 32 → W.cell? ((a.add (i * 32)).add q) = cs'[q]? := fun i hi => by
      have he := hel i hi
      rw [List.getElem?_eq_getElem (by omega)] at he
      obtain ⟨cs', h1, h2⟩ := Option.bind_eq_some_iff.1 he
      obtain ⟨l1, l2⟩ := gs_trodBytes Try.underlying142 gs_cellsH h2
      obtain ⟨_, hcl, hc⟩ := World.cells?_some h1
      exact ⟨cs', l1, l2, fun q hq => hc q hq⟩
    have hsp : a.spot = none := by
      obtain ⟨cs', l1, l2, l3⟩ := key 0 h0
      have z0 := l3 0 (by omega)
      rw [List.getElem?_eq_getElem (by omega)] at z0
      simpa [Addr.add] using World.cell?_spot z0
    obtain ⟨b, o, s⟩ := a
    have hs : s = none := hsp
    subst hs
    obtain ⟨vs, v1, v2⟩ := gs_listAllV (P := fun j u => W.cell? ⟨b, o + j, none⟩ = some u ∧ u.oneCell' = true) (m * 32) fun j hj => by
      obtain ⟨cs', l1, l2, l3⟩ := key (j / 32) (by omega)
      have z := l3 (j % 32) (by omega)
      rw [Addr.add_mid, Addr.add_mid, Nat.add_assoc, show j / 32 * 32 + j % 32 = j by omega, List.getElem?_eq_getElem (by omega)] at z
      exact ⟨_, z, l2 _ (List.getElem_mem _)⟩
    obtain ⟨u0, hu0⟩ : ∃ u, vs[0]? = some u := ⟨_, List.getElem?_eq_getElem (by omega)⟩
    refine .inr ⟨b, o, vs, rfl, World.block_lt_of_cell? _ _ (v2 0 u0 hu0).1, v1, fun j u hj => (v2 j u hj).1, fun u hu => ?_⟩
    obtain ⟨i, hi, he⟩ := List.getElem_of_mem hu
    exact (v2 i u (by rw [List.getElem?_eq_getElem hi, he])).2
set_option maxRecDepth 100000 in
theorem gs_trodAcc {H : Type} {enc : TypeId × Value → H} {W : World} {fuel : Nat} {cs : List Value} {x : DataW H × List MemPlace} (h : DataW.trod enc Try.prog W 0 (fun _ => true) true fuel 55 cs = some x) :
    ∃ (A : Option Addr) (c : Nat) (ks : List Nat), cs = [.slice A ks.length c] ∧ ks.length ≤ c ∧ AccAt W A ks := by
  rcases DataW.trod_slice Try.underlying55 h with ⟨hcs, _⟩ | ⟨a, m, cap, elems, rest, k, hk, hcs, _, _, hm, _, hlen, hel, _, _⟩
  · exact ⟨none, 0, [], hcs, Nat.le_refl _, .inl rfl⟩
  · rw [gs_cellsAc] at hel
    have key : ∀ i, i < m → ∃ kk : Nat, ∃ (ad : List Value) (K : Option Addr) (c : Nat), ad.length = 20 ∧ (∀ u ∈ ad, u.oneCell' = true) ∧
        (∀ (j : Nat) (u : Value), ad[j]? = some u → W.cell? ((a.add (i * 21)).add j) = some u) ∧ W.cell? ((a.add (i * 21)).add 20) = some (.slice K kk c) ∧ kk ≤ c ∧ RowAt W K 32 kk := fun i hi => by
      have he := hel i hi
      rw [List.getElem?_eq_getElem (by omega)] at he
      obtain ⟨cs', h1, h2⟩ := Option.bind_eq_some_iff.1 he
      obtain ⟨_, hcl, hc⟩ := World.cells?_some h1
      obtain ⟨xs, n, -, -, hl, hxl, hf⟩ := DataW.trod_struct Try.underlying88 h2
      rw [gs_cellsAc] at hl
      have hx2 : xs.length = 2 := hxl
      obtain ⟨y0, e0⟩ : ∃ y, xs[0]? = some y := ⟨_, List.getElem?_eq_getElem (by omega)⟩
      obtain ⟨y1, e1⟩ : ∃ y, xs[1]? = some y := ⟨_, List.getElem?_eq_getElem (by omega)⟩
      have p0 : DataW.trod enc Try.prog W 0 (fun _ => true) true n 53 ((cs'.drop 0).take (Try.prog.cellsOf 53)) = some y0 := (hf 0 _ rfl).trans e0
      have p1 : DataW.trod enc Try.prog W 0 (fun _ => true) true n 56 ((cs'.drop 20).take (Try.prog.cellsOf 56)) = some y1 := (hf 1 _ rfl).trans e1
      rw [gs_cellsA] at p0
      rw [gs_cellsSH] at p1
      obtain ⟨l1, l2⟩ := gs_trodBytes Try.underlying53 gs_cellsA p0
      obtain ⟨K, kk, c, q1, hkc, hrow⟩ := gs_trodHs p1
      refine ⟨kk, (cs'.drop 0).take 20, K, c, l1, l2, fun j u hj => ?_, ?_, hkc, hrow⟩
      · rw [List.getElem?_take] at hj
        split at hj
        · rw [List.drop_zero] at hj
          exact (hc j (by omega)).trans hj
        · cases hj
      · have h4 := congrArg (fun l : List Value => l[0]?) q1
        rw [List.getElem?_take, List.getElem?_drop] at h4
        simp at h4
        exact (hc 20 (by omega)).trans h4
    obtain ⟨ks, k1, k2⟩ := gs_listAll m key
    refine ⟨some a, cap, ks, by rw [k1]; exact hcs, by rw [k1]; exact hm, ?_⟩
    rcases Nat.eq_zero_or_pos m with h0 | h0
    · exact .inl (List.eq_nil_of_length_eq_zero (by omega))
    obtain ⟨x0, hx0⟩ : ∃ x, ks[0]? = some x := ⟨_, List.getElem?_eq_getElem (by omega)⟩
    have hsp : a.spot = none := by
      obtain ⟨ad, K, c, l1, l2, l3, -⟩ := k2 0 x0 hx0
      have z0 := l3 0 _ (List.getElem?_eq_getElem (by omega))
      simpa [Addr.add] using World.cell?_spot z0
    obtain ⟨b, o, s⟩ := a
    have hs : s = none := hsp
    subst hs
    have hlt : b < W.heap.size := by
      obtain ⟨ad, K, c, l1, l2, l3, l4, -⟩ := k2 0 x0 hx0
      rw [Addr.add_mid, Addr.add_mid] at l4
      exact World.block_lt_of_cell? _ _ l4
    refine .inr ⟨b, o, rfl, hlt, fun i kk hi => ?_⟩
    obtain ⟨ad, K, c, l1, l2, l3, l4, l5, l6⟩ := k2 i kk hi
    refine ⟨ad, K, c, l1, l2, fun j u hj => ?_, ?_, l5, l6⟩
    · have := l3 j u hj
      rw [Addr.add_mid, Addr.add_mid] at this
      exact this
    · rw [Addr.add_mid, Addr.add_mid] at l4
      exact l4
set_option maxRecDepth 100000 in
theorem gs_at {l : List Value} {k : Nat} {v : Value} (h : (l.drop k).take 1 = [v]) : l[k]? = some v := by
  have h4 := congrArg (fun l : List Value => l[0]?) h
  rw [List.getElem?_take, List.getElem?_drop] at h4
  simpa using h4
set_option maxRecDepth 100000 in
set_option maxHeartbeats 1600000 in
theorem gs_openTx {H : Type} {enc : TypeId × Value → H} {w : World} {base : Nat} {v : Value} {d : DataW H} {p : List MemPlace} (hv : Value.okWide Try.prog w .any base 58 v)
    (h : DataW.Trod enc Try.prog w 0 (fun _ => true) true 58 v d p) : ∃ (cs : List Value) (mk : Bool) (bs ks : List Nat), v = .agg cs.toArray ∧ TxT w cs mk bs ks := by
  obtain ⟨cs, rfl, _, _⟩ : ∃ cs, v = .agg cs ∧ cs.size = Try.prog.cellsOf 58 ∧ Row.okWide Try.prog w .any base 58 cs := by
    simpa [Value.okWide, Try.underlying58] using hv
  obtain ⟨fuel, h⟩ := h
  obtain ⟨l⟩ := cs
  replace h : DataW.trod enc Try.prog w 0 (fun _ => true) true fuel 58 l = some (d, p) := h
  obtain ⟨xs, n, -, -, hl, hxl, hf⟩ := DataW.trod_struct Try.underlying58 h
  rw [gs_cellsTx] at hl
  have hx16 : xs.length = 16 := hxl
  have get : ∀ i, i < 16 → ∃ y, xs[i]? = some y := fun i hi => ⟨_, List.getElem?_eq_getElem (by omega)⟩
  obtain ⟨y0, e0⟩ := get 0 (by omega)
  obtain ⟨y1, e1⟩ := get 1 (by omega)
  obtain ⟨y2, e2⟩ := get 2 (by omega)
  obtain ⟨y3, e3⟩ := get 3 (by omega)
  obtain ⟨y4, e4⟩ := get 4 (by omega)
  obtain ⟨y5, e5⟩ := get 5 (by omega)
  obtain ⟨y6, e6⟩ := get 6 (by omega)
  obtain ⟨y7, e7⟩ := get 7 (by omega)
  obtain ⟨y8, e8⟩ := get 8 (by omega)
  obtain ⟨y9, e9⟩ := get 9 (by omega)
  obtain ⟨y10, e10⟩ := get 10 (by omega)
  obtain ⟨y11, e11⟩ := get 11 (by omega)
  obtain ⟨y12, e12⟩ := get 12 (by omega)
  obtain ⟨y13, e13⟩ := get 13 (by omega)
  obtain ⟨y14, e14⟩ := get 14 (by omega)
  obtain ⟨y15, e15⟩ := get 15 (by omega)
  have p0 : DataW.trod enc Try.prog w 0 (fun _ => true) true n 3 ((l.drop 0).take (Try.prog.cellsOf 3)) = some y0 := (hf 0 _ rfl).trans e0
  have p1 : DataW.trod enc Try.prog w 0 (fun _ => true) true n 22 ((l.drop 1).take (Try.prog.cellsOf 22)) = some y1 := (hf 1 _ rfl).trans e1
  have p2 : DataW.trod enc Try.prog w 0 (fun _ => true) true n 22 ((l.drop 2).take (Try.prog.cellsOf 22)) = some y2 := (hf 2 _ rfl).trans e2
  have p3 : DataW.trod enc Try.prog w 0 (fun _ => true) true n 24 ((l.drop 3).take (Try.prog.cellsOf 24)) = some y3 := (hf 3 _ rfl).trans e3
  have p4 : DataW.trod enc Try.prog w 0 (fun _ => true) true n 24 ((l.drop 7).take (Try.prog.cellsOf 24)) = some y4 := (hf 4 _ rfl).trans e4
  have p5 : DataW.trod enc Try.prog w 0 (fun _ => true) true n 22 ((l.drop 11).take (Try.prog.cellsOf 22)) = some y5 := (hf 5 _ rfl).trans e5
  have p6 : DataW.trod enc Try.prog w 0 (fun _ => true) true n 4 ((l.drop 12).take (Try.prog.cellsOf 4)) = some y6 := (hf 6 _ rfl).trans e6
  have p7 : DataW.trod enc Try.prog w 0 (fun _ => true) true n 53 ((l.drop 13).take (Try.prog.cellsOf 53)) = some y7 := (hf 7 _ rfl).trans e7
  have p8 : DataW.trod enc Try.prog w 0 (fun _ => true) true n 24 ((l.drop 33).take (Try.prog.cellsOf 24)) = some y8 := (hf 8 _ rfl).trans e8
  have p9 : DataW.trod enc Try.prog w 0 (fun _ => true) true n 54 ((l.drop 37).take (Try.prog.cellsOf 54)) = some y9 := (hf 9 _ rfl).trans e9
  have p10 : DataW.trod enc Try.prog w 0 (fun _ => true) true n 55 ((l.drop 38).take (Try.prog.cellsOf 55)) = some y10 := (hf 10 _ rfl).trans e10
  have p11 : DataW.trod enc Try.prog w 0 (fun _ => true) true n 24 ((l.drop 39).take (Try.prog.cellsOf 24)) = some y11 := (hf 11 _ rfl).trans e11
  have p12 : DataW.trod enc Try.prog w 0 (fun _ => true) true n 56 ((l.drop 43).take (Try.prog.cellsOf 56)) = some y12 := (hf 12 _ rfl).trans e12
  have p13 : DataW.trod enc Try.prog w 0 (fun _ => true) true n 4 ((l.drop 44).take (Try.prog.cellsOf 4)) = some y13 := (hf 13 _ rfl).trans e13
  have p14 : DataW.trod enc Try.prog w 0 (fun _ => true) true n 24 ((l.drop 45).take (Try.prog.cellsOf 24)) = some y14 := (hf 14 _ rfl).trans e14
  have p15 : DataW.trod enc Try.prog w 0 (fun _ => true) true n 24 ((l.drop 49).take (Try.prog.cellsOf 24)) = some y15 := (hf 15 _ rfl).trans e15
  rw [gs_cellsI] at p0
  rw [gs_cells64] at p1
  rw [gs_cells64] at p2
  rw [gs_cellsW] at p3
  rw [gs_cellsW] at p4
  rw [gs_cells64] at p5
  rw [gs_cellsB] at p6
  rw [gs_cellsA] at p7
  rw [gs_cellsW] at p8
  rw [gs_cellsS8] at p9
  rw [gs_cellsSA] at p10
  rw [gs_cellsW] at p11
  rw [gs_cellsSH] at p12
  rw [gs_cellsB] at p13
  rw [gs_cellsW] at p14
  rw [gs_cellsW] at p15
  obtain ⟨z0, q0⟩ := gs_trodI p0
  have o0 : ∀ u ∈ (l.drop 0).take 1, u.oneCell' = true := by rw [q0]; intro u hu; rw [List.mem_singleton] at hu; rw [hu]; rfl
  obtain ⟨z1, _, q1⟩ := gs_trodU p1
  have o1 : ∀ u ∈ (l.drop 1).take 1, u.oneCell' = true := by rw [q1]; intro u hu; rw [List.mem_singleton] at hu; rw [hu]; rfl
  obtain ⟨z2, _, q2⟩ := gs_trodU p2
  have o2 : ∀ u ∈ (l.drop 2).take 1, u.oneCell' = true := by rw [q2]; intro u hu; rw [List.mem_singleton] at hu; rw [hu]; rfl
  obtain ⟨z3, _, q3⟩ := gs_trodW p3
  have o3 : ∀ u ∈ (l.drop 3).take 4, u.oneCell' = true := by rw [q3]; exact wl_one _
  obtain ⟨z4, _, q4⟩ := gs_trodW p4
  have o4 : ∀ u ∈ (l.drop 7).take 4, u.oneCell' = true := by rw [q4]; exact wl_one _
  obtain ⟨z5, _, q5⟩ := gs_trodU p5
  have o5 : ∀ u ∈ (l.drop 11).take 1, u.oneCell' = true := by rw [q5]; intro u hu; rw [List.mem_singleton] at hu; rw [hu]; rfl
  obtain ⟨z6, q6, -⟩ := DataW.trod_bool Try.underlying4 p6
  have o6 : ∀ u ∈ (l.drop 12).take 1, u.oneCell' = true := by rw [q6]; intro u hu; rw [List.mem_singleton] at hu; rw [hu]; rfl
  have o7 := (gs_trodBytes Try.underlying53 gs_cellsA p7).2
  obtain ⟨z8, _, q8⟩ := gs_trodW p8
  have o8 : ∀ u ∈ (l.drop 33).take 4, u.oneCell' = true := by rw [q8]; exact wl_one _
  obtain ⟨A9, len9, c9, q9⟩ : ∃ A len cap, (l.drop 37).take 1 = [.slice A len cap] := by
    rcases open_ints Try.underlying54 Try.underlying5 gs_cells8 p9 with ⟨hcs, _⟩ | ⟨a, len', cap', zs, hcs, _⟩
    · exact ⟨_, _, _, hcs⟩
    · exact ⟨_, _, _, hcs⟩
  rw [q9] at p9
  obtain ⟨bs, hbl, hrd, hds⟩ := open_rd (H := H) (enc := enc) (d := y9.1) (p := y9.2) ⟨n, by simpa [Value.cells] using p9⟩
  have o9 : ∀ u ∈ (l.drop 37).take 1, u.oneCell' = true := by rw [q9]; intro u hu; rw [List.mem_singleton] at hu; rw [hu]; rfl
  obtain ⟨A10, c10, ks, q10, hkc, hacc⟩ := gs_trodAcc p10
  have o10 : ∀ u ∈ (l.drop 38).take 1, u.oneCell' = true := by rw [q10]; intro u hu; rw [List.mem_singleton] at hu; rw [hu]; rfl
  obtain ⟨z11, _, q11⟩ := gs_trodW p11
  have o11 : ∀ u ∈ (l.drop 39).take 4, u.oneCell' = true := by rw [q11]; exact wl_one _
  obtain ⟨A12, m12, c12, q12, hmc, hrow⟩ := gs_trodHs p12
  have o12 : ∀ u ∈ (l.drop 43).take 1, u.oneCell' = true := by rw [q12]; intro u hu; rw [List.mem_singleton] at hu; rw [hu]; rfl
  obtain ⟨z13, q13, -⟩ := DataW.trod_bool Try.underlying4 p13
  have o13 : ∀ u ∈ (l.drop 44).take 1, u.oneCell' = true := by rw [q13]; intro u hu; rw [List.mem_singleton] at hu; rw [hu]; rfl
  obtain ⟨z14, _, q14⟩ := gs_trodW p14
  have o14 : ∀ u ∈ (l.drop 45).take 4, u.oneCell' = true := by rw [q14]; exact wl_one _
  obtain ⟨z15, _, q15⟩ := gs_trodW p15
  have o15 : ∀ u ∈ (l.drop 49).take 4, u.oneCell' = true := by rw [q15]; exact wl_one _
  have hz : l.drop 53 = [] := List.drop_eq_nil_of_le (by omega)
  have hall : ∀ u ∈ l, u.oneCell' = true := fun u hu => by
    have e : l = l.drop 0 := rfl
    rw [e, gs_cut 0 1, gs_cut (0 + 1) 1, gs_cut (0 + 1 + 1) 1, gs_cut (0 + 1 + 1 + 1) 4, gs_cut (0 + 1 + 1 + 1 + 4) 4, gs_cut (0 + 1 + 1 + 1 + 4 + 4) 1, gs_cut (0 + 1 + 1 + 1 + 4 + 4 + 1) 1, gs_cut (0 + 1 + 1 + 1 + 4 + 4 + 1 + 1) 20, gs_cut (0 + 1 + 1 + 1 + 4 + 4 + 1 + 1 + 20) 4, gs_cut (0 + 1 + 1 + 1 + 4 + 4 + 1 + 1 + 20 + 4) 1, gs_cut (0 + 1 + 1 + 1 + 4 + 4 + 1 + 1 + 20 + 4 + 1) 1, gs_cut (0 + 1 + 1 + 1 + 4 + 4 + 1 + 1 + 20 + 4 + 1 + 1) 4, gs_cut (0 + 1 + 1 + 1 + 4 + 4 + 1 + 1 + 20 + 4 + 1 + 1 + 4) 1, gs_cut (0 + 1 + 1 + 1 + 4 + 4 + 1 + 1 + 20 + 4 + 1 + 1 + 4 + 1) 1, gs_cut (0 + 1 + 1 + 1 + 4 + 4 + 1 + 1 + 20 + 4 + 1 + 1 + 4 + 1 + 1) 4, gs_cut (0 + 1 + 1 + 1 + 4 + 4 + 1 + 1 + 20 + 4 + 1 + 1 + 4 + 1 + 1 + 4) 4] at hu
    simp only [List.mem_append] at hu
    rcases hu with hu | hu | hu | hu | hu | hu | hu | hu | hu | hu | hu | hu | hu | hu | hu | hu | hu
    · exact o0 u hu
    · exact o1 u hu
    · exact o2 u hu
    · exact o3 u hu
    · exact o4 u hu
    · exact o5 u hu
    · exact o6 u hu
    · exact o7 u hu
    · exact o8 u hu
    · exact o9 u hu
    · exact o10 u hu
    · exact o11 u hu
    · exact o12 u hu
    · exact o13 u hu
    · exact o14 u hu
    · exact o15 u hu
    · rw [show 0 + 1 + 1 + 1 + 4 + 4 + 1 + 1 + 20 + 4 + 1 + 1 + 4 + 1 + 1 + 4 + 4 = 53 from rfl, hz] at hu; cases hu
  refine ⟨l, z6, bs, ks, rfl, hl, hall, gs_at q6, ⟨.slice A9 len9 c9, gs_at q9, A9, c9, by rw [hbl], hrd, hds⟩, ⟨A10, c10, gs_at q10, hacc, hkc⟩, ⟨A12, m12, c12, gs_at q12, hrow, hmc⟩⟩
end Go.Proofs.Ytiflfcdegpmhnaa
namespace Go.Proofs.Ytiflfcdegpmhnaa.WGasIntrinsic
open Go.ChangeShapes Go.WideShapes Go.ChangeAt Go.RowKit Go.Deep
open Go.ChangeMaps (open_string shut_string)

theorem own : ownKnob Try.prog.godebug = none := by kernel_rfl
set_option maxRecDepth 100000 in
theorem openI {H : Type} {enc : TypeId × Value → H} {w : World} {base : Nat} {v : Value} {d : DataW H} {p : List MemPlace} (hv : Value.okWide Try.prog w .any base 3 v) (h : DataW.Trod enc Try.prog w 0 (fun _ => true) true 3 v d p) :
    ∃ n : Int, v = .int .i64 n ∧ -9223372036854775808 ≤ n ∧ n < 9223372036854775808 := by
  obtain ⟨x, rfl, _, _, wy⟩ := open_int Try.underlying3 hv h
  obtain ⟨h1, h2⟩ := bounds_i64 wy
  exact ⟨x, rfl, by omega, by omega⟩

set_option maxRecDepth 100000 in
theorem lifted (os : Os) (started : os.Started) (H : Type) (enc : TypeId × Value → H) :
    ReturnsInHanded {} Try.checked os 9 .any (Rows.gasIntrinsicSpec.pre6 enc Try.prog Try.f9 Rows.gasIntrinsicRow.domain false) (Rows.gasIntrinsicSpec.post enc Try.prog Try.f9 false true false false) := by
  refine returnsInHanded_of_change (C := Try.checked) own started (by kernel_rfl) Try.func9
    (ChangeSpec.witness6 (enc := enc) (C := Try.checked) false ⟨#[], #[.int .i64 0, .agg #[.int .i64 0, .int .u64 0, .int .u64 0, .int .u64 0, .int .u64 0, .int .u64 0, .int .u64 0, .int .u64 0, .int .u64 0, .int .u64 0, .int .u64 0, .int .u64 0, .bool false, .int .u8 0, .int .u8 0, .int .u8 0, .int .u8 0, .int .u8 0, .int .u8 0, .int .u8 0, .int .u8 0, .int .u8 0, .int .u8 0, .int .u8 0, .int .u8 0, .int .u8 0, .int .u8 0, .int .u8 0, .int .u8 0, .int .u8 0, .int .u8 0, .int .u8 0, .int .u8 0, .int .u64 0, .int .u64 0, .int .u64 0, .int .u64 0, .slice none 0 0, .slice none 0 0, .int .u64 0, .int .u64 0, .int .u64 0, .int .u64 0, .slice none 0 0, .bool false, .int .u64 0, .int .u64 0, .int .u64 0, .int .u64 0, .int .u64 0, .int .u64 0, .int .u64 0, .int .u64 0]], []⟩ 8 (by kernel_rfl) (by kernel_rfl) (by kernel_rfl) (by kernel_rfl)) ?_
  intro W base args ds gs before hval0 hW _ _
  have hval : ∀ (j : Nat) t v, Try.f9.params[j]? = some t → args[j]? = some v → Value.okWide Try.prog W .any base t v := hval0
  have hW' := hW
  obtain ⟨p, q, hA0, hV, rfl, hfz, hnd⟩ := hW
  have hA : DataW.TrodAll enc Try.prog W 0 (fun _ => true) true Try.f9.params.toList args.toList ds p := hA0
  rw [Try.params9] at hA hval
  obtain ⟨v0, vs0, d0, ds0, p0, q0, hargs, rfl, rfl, h0, r0⟩ := trodAll_cons hA
  obtain ⟨v1, vs1, d1, ds1, p1, q1, rfl, rfl, rfl, h1, r1⟩ := trodAll_cons r0
  obtain ⟨rfl, rfl, rfl⟩ := trodAll_nil r1
  obtain rfl : args = #[v0, v1] := by cases args; simp_all
  obtain ⟨rfl, rfl⟩ := trodVars_none hV
  obtain ⟨i0, rfl, lo0, hi0⟩ := openI (hval 0 3 v0 rfl rfl) h0
  obtain ⟨L1, mk1, bs1, ks1, rfl, hT1⟩ := gs_openTx (hval 1 58 v1 rfl rfl) h1
  clear hA0 hval0
  have hcall := gasIntrinsic_c W i0 lo0 hi0 hT1
  refine hcall.mono fun e W' ⟨he, hb⟩ => ?_
  subst he
  have harg0 := Below.trod lawLaid (by kernel_rfl) (of_decide_eq_true (by kernel_rfl)) h0 hb (fun x hx => hW'.lt x (by simp [hx]))
  have harg1 := Below.trod lawLaid (by kernel_rfl) (of_decide_eq_true (by kernel_rfl)) h1 hb (fun x hx => hW'.lt x (by simp [hx]))
  have hA2 := (trodAll_cons_mk harg0 (trodAll_cons_mk harg1 trodAll_mk0))
  exact ⟨_, rfl, _, _, _, [] ++ [], _, [], hW', trodAll_cons_mk (shut_bool Try.underlying4 _) trodAll_mk0,
    hA2, rfl, hb.frame _, fun h => by cases h⟩

theorem proved : Rows.GasIntrinsicSaid :=
  OpenClaim.holds_of_wide 9 Try.f9 rfl rfl rfl rfl rfl rfl rfl ⟨rfl, rfl, rfl, rfl, rfl⟩ rfl rfl rfl rfl rfl (by kernel_rfl) Try.func9 (by kernel_rfl)
    (of_decide_eq_true (by kernel_rfl)) (by unfold Func.isWrapper; first | (rw [if_pos (by decide +kernel)]; kernel_rfl) | (rw [if_neg (by decide +kernel)]; exact ⟨rfl, rfl⟩))
    (fun os started H enc _ => lifted os started H enc)
end Go.Proofs.Ytiflfcdegpmhnaa.WGasIntrinsic
namespace Go.Proofs.Ytiflfcdegpmhnaa
theorem gasIntrinsic_holds : Rows.GasIntrinsicSaid := WGasIntrinsic.proved
#print axioms gasIntrinsic_holds
end Go.Proofs.Ytiflfcdegpmhnaa
