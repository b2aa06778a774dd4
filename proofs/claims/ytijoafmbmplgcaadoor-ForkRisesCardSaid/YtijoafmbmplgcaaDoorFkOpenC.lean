/- A plan that comes in, opened. -/
import Derived.Test.YtijoafmbmplgcaaDoorFkOpen
import Derived.Test.YtijoafmbmplgcaaDoorOpenB
import Derived.Test.YtijoafmbmplgcaaDoorFoAt
namespace Go.Proofs.YtijoafmbmplgcaaDoor
open Go.ChangeShapes Go.WideShapes Go.ChangeAt Go.RowKit Go.Deep

theorem u64_wf {z : Int} (h : (Lit.int .u64 z).wf = true) : 0 ≤ z ∧ z < 18446744073709551616 := by
  have h1 : IntKind.u64.min = 0 := rfl
  have h2 : IntKind.u64.max = 18446744073709551615 := rfl
  simp only [Lit.wf, Bool.and_eq_true, decide_eq_true_eq] at h
  omega
theorem cells64 : Tryd.prog.cellsOf 22 = 1 := by kernel_rfl
theorem trod_u64s {T : TypeId} {n : Nat} (hT : Tryd.prog.underlying T = some (.array n 22)) (hcT : Tryd.prog.cellsOf T = n) {H : Type} {enc : TypeId × Value → H} {W : World} {base fuel : Nat} {spare : Nat → Bool} {held : Bool} {cs : List Value} {x : DataW H × List MemPlace} (h : DataW.trod enc Tryd.prog W base spare held fuel T cs = some x) :
    ∃ bs : List Nat, bs.length = n ∧ Ds 18446744073709551616 bs ∧ cs = bs.map fun n : Nat => Value.int .u64 (n : Int) := by
  obtain ⟨ys, m, -, -, hl, hyl, hf⟩ := DataW.trod_array hT h
  rw [hcT] at hl
  rw [cells64] at hf
  obtain ⟨bs, h1, h2, h3⟩ := nums_of (k := .u64) (B := 18446744073709551616) (cs := cs) fun i hi => by
    have h1 := hf i (by omega)
    rw [Nat.mul_one] at h1
    obtain ⟨y, hy⟩ : ∃ y, ys[i]? = some y := ⟨_, List.getElem?_eq_getElem (by omega)⟩
    rw [hy] at h1
    obtain ⟨z, e1, e2, wf⟩ := DataW.trod_int Tryd.underlying22 h1
    obtain ⟨b1, b2⟩ := u64_wf wf
    refine ⟨z.toNat, by omega, ?_⟩
    have h4 := congrArg (fun l : List Value => l[0]?) e1
    simp at h4
    rw [h4, Int.toNat_of_nonneg b1]
  exact ⟨bs, by omega, h2, h3⟩
theorem trod_u64 {H : Type} {enc : TypeId × Value → H} {W : World} {base fuel : Nat} {spare : Nat → Bool} {held : Bool} {cs : List Value} {x : DataW H × List MemPlace} (h : DataW.trod enc Tryd.prog W base spare held fuel 22 cs = some x) :
    ∃ n : Nat, n < 18446744073709551616 ∧ cs = [.int .u64 (n : Nat)] := by
  obtain ⟨z, e1, e2, wf⟩ := DataW.trod_int Tryd.underlying22 h
  obtain ⟨b1, b2⟩ := u64_wf wf
  exact ⟨z.toNat, by omega, by rw [e1, Int.toNat_of_nonneg b1]⟩
theorem list_all {P : Nat → List Nat → Prop} : ∀ n, (∀ i, i < n → ∃ b, P i b) → ∃ l : List (List Nat), l.length = n ∧ ∀ i b, l[i]? = some b → P i b
  | 0, _ => ⟨[], rfl, fun i b h => by simp at h⟩
  | n + 1, h => by
    obtain ⟨l, h1, h2⟩ := list_all n fun i hi => h i (by omega)
    obtain ⟨b, hb⟩ := h n (by omega)
    refine ⟨l ++ [b], by simp [h1], fun i c hi => ?_⟩
    rw [List.getElem?_append] at hi
    split at hi
    · exact h2 i c hi
    · rename_i hge
      have hil := (List.getElem?_eq_some_iff.1 hi).1
      have : i = n := by simp at hil; omega
      subst this
      rw [h1, Nat.sub_self] at hi
      simp at hi
      rw [← hi]; exact hb
theorem trod_ads {H : Type} {enc : TypeId × Value → H} {W : World} {fuel : Nat} {cs : List Value} {x : DataW H × List MemPlace} (h : DataW.trod enc Tryd.prog W 0 (fun _ => true) true fuel 25 cs = some x) :
    ∃ (A : Option Addr) (c : Nat) (fs : List (List Nat)), cs = [.slice A fs.length c] ∧ fs.length ≤ c ∧ AdsAt W A fs ∧ ∀ x ∈ fs, x.length = 20 ∧ Ds 256 x := by
  rcases DataW.trod_slice Tryd.underlying25 h with ⟨hcs, _⟩ | ⟨a, m, cap, elems, rest, k, hk, hcs, _, _, hm, _, hlen, hel, _, _⟩
  · exact ⟨none, 0, [], hcs, Nat.le_refl _, rfl, fun x h => by cases h⟩
  · rw [cells20] at hel
    have hsp : 0 < m → a.spot = none := fun h0 => by
      have he := hel 0 h0
      rw [List.getElem?_eq_getElem (by omega)] at he
      obtain ⟨cs', h1, h2⟩ := Option.bind_eq_some_iff.1 he
      obtain ⟨bs, l1, l2, l3⟩ := trod_addr h2
      obtain ⟨_, hcl, hc⟩ := World.cells?_some h1
      have z0 := hc 0 (by omega)
      have h4 : 0 < cs'.length := by omega
      rw [List.getElem?_eq_getElem h4] at z0
      simpa [Addr.add] using World.cell?_spot z0
    obtain ⟨fs, hfl, hfs⟩ := list_all (P := fun i bs => (a.spot = none ∧ a.block < W.heap.size ∧ bs.length = 20 ∧ W.rangeAt a.block (a.off + i * 20) (bs.map fun n : Nat => Value.int .u8 (n : Int))) ∧ Ds 256 bs) m fun i hi => by
      have he := hel i hi
      rw [List.getElem?_eq_getElem (by omega)] at he
      obtain ⟨cs', h1, h2⟩ := Option.bind_eq_some_iff.1 he
      obtain ⟨bs, l1, l2, l3⟩ := trod_addr h2
      obtain ⟨_, hcl, hc⟩ := World.cells?_some h1
      obtain ⟨b, o, s⟩ := a
      have z0 := hc 0 (by omega)
      have hs : s = none := hsp (by omega)
      subst hs
      refine ⟨bs, ⟨rfl, ?_, l1, fun j v hj => ?_⟩, l2⟩
      · have h4 : 0 < cs'.length := by omega
        rw [List.getElem?_eq_getElem h4, Addr.add_mid, Addr.add_mid] at z0
        have h6 := World.block_lt_of_cell? _ _ z0
        exact h6
      · have hjl := (List.getElem?_eq_some_iff.1 hj).1
        rw [List.length_map, l1] at hjl
        have zj := hc j hjl
        rw [Addr.add_mid, Addr.add_mid, l3, hj] at zj
        exact zj
    exact ⟨some a, cap, fs, by rw [hfl]; exact hcs, by rw [hfl]; exact hm, fun i bs hi => (hfs i bs hi).1, fun x hx => by
      obtain ⟨i, hi⟩ := List.getElem?_of_mem hx
      have h := hfs i x hi
      exact ⟨h.1.2.2.1, h.2⟩⟩
theorem cut {l : List Value} (a k : Nat) : l.drop a = (l.drop a).take k ++ l.drop (a + k) := by
  rw [← List.drop_drop]; exact (List.take_append_drop k (l.drop a)).symm
theorem cellsConf : Tryd.prog.cellsOf 29 = 39 := by kernel_rfl
theorem cells14 : Tryd.prog.cellsOf 23 = 14 := by kernel_rfl
theorem cells2 : Tryd.prog.cellsOf 24 = 2 := by kernel_rfl
theorem cellsAds : Tryd.prog.cellsOf 25 = 1 := by kernel_rfl
theorem trod_conf {H : Type} {enc : TypeId × Value → H} {W : World} {fuel : Nat} {cs : List Value} {x : DataW H × List MemPlace} (h : DataW.trod enc Tryd.prog W 0 (fun _ => true) true fuel 29 cs = some x) :
    ∃ (ch : Nat) (bl : List Nat) (t0 t1 dao : Nat) (A : Option Addr) (c : Nat) (fs : List (List Nat)) (ta : List Nat), cs = ConfL ch bl t0 t1 dao (.slice A fs.length c) ta ∧ bl.length = 14 ∧ ta.length = 20 ∧ fs.length ≤ c ∧ AdsAt W A fs ∧ FineConf bl t1 fs := by
  obtain ⟨xs, n, -, -, hl, hxl, hf⟩ := DataW.trod_struct Tryd.underlying29 h
  rw [cellsConf] at hl
  have hx6 : xs.length = 6 := hxl
  have get : ∀ i, i < 6 → ∃ y, xs[i]? = some y := fun i hi => ⟨_, List.getElem?_eq_getElem (by omega)⟩
  obtain ⟨y0, e0⟩ := get 0 (by omega)
  obtain ⟨y1, e1⟩ := get 1 (by omega)
  obtain ⟨y2, e2⟩ := get 2 (by omega)
  obtain ⟨y3, e3⟩ := get 3 (by omega)
  obtain ⟨y4, e4⟩ := get 4 (by omega)
  obtain ⟨y5, e5⟩ := get 5 (by omega)
  have p0 : DataW.trod enc Tryd.prog W 0 (fun _ => true) true n 22 ((cs.drop 0).take (Tryd.prog.cellsOf 22)) = some y0 := (hf 0 _ rfl).trans e0
  rw [cells64] at p0
  have p1 : DataW.trod enc Tryd.prog W 0 (fun _ => true) true n 23 ((cs.drop 1).take (Tryd.prog.cellsOf 23)) = some y1 := (hf 1 _ rfl).trans e1
  rw [cells14] at p1
  have p2 : DataW.trod enc Tryd.prog W 0 (fun _ => true) true n 24 ((cs.drop 15).take (Tryd.prog.cellsOf 24)) = some y2 := (hf 2 _ rfl).trans e2
  rw [cells2] at p2
  have p3 : DataW.trod enc Tryd.prog W 0 (fun _ => true) true n 22 ((cs.drop 17).take (Tryd.prog.cellsOf 22)) = some y3 := (hf 3 _ rfl).trans e3
  rw [cells64] at p3
  have p4 : DataW.trod enc Tryd.prog W 0 (fun _ => true) true n 25 ((cs.drop 18).take (Tryd.prog.cellsOf 25)) = some y4 := (hf 4 _ rfl).trans e4
  rw [cellsAds] at p4
  have p5 : DataW.trod enc Tryd.prog W 0 (fun _ => true) true n 27 ((cs.drop 19).take (Tryd.prog.cellsOf 27)) = some y5 := (hf 5 _ rfl).trans e5
  rw [cells20] at p5
  obtain ⟨ch, _, q0⟩ := trod_u64 p0
  obtain ⟨bl, l1, d1, q1⟩ := trod_u64s Tryd.underlying23 cells14 p1
  obtain ⟨ts, l2, d2, q2⟩ := trod_u64s Tryd.underlying24 cells2 p2
  obtain ⟨dao, _, q3⟩ := trod_u64 p3
  obtain ⟨A, c, fs, q4, hc, hA, hfd⟩ := trod_ads p4
  obtain ⟨ta, l5, d5, q5⟩ := trod_addr p5
  match ts, l2 with
  | [t0, t1], _ =>
    have b1 := d2 t1 (by simp)
    refine ⟨ch, bl, t0, t1, dao, A, c, fs, ta, ?_, l1, l5, hc, hA, hfd, d1, b1⟩
    have hz : cs.drop 39 = [] := List.drop_eq_nil_of_le (by omega)
    have e : cs = cs.drop 0 := rfl
    rw [e, cut 0 1, cut (0 + 1) 14, cut (0 + 1 + 14) 2, cut (0 + 1 + 14 + 2) 1, cut (0 + 1 + 14 + 2 + 1) 1, cut (0 + 1 + 14 + 2 + 1 + 1) 20, q0, q1, q2, q3, q4, q5, hz]
    simp [ConfL]
theorem open_conf {H : Type} {enc : TypeId × Value → H} {w : World} {base : Nat} {v : Value} {d : DataW H} {p : List MemPlace} (hv : Value.okWide Tryd.prog w .any base 29 v)
    (h : DataW.Trod enc Tryd.prog w 0 (fun _ => true) true 29 v d p) : ∃ (ch : Nat) (bl : List Nat) (t0 t1 dao : Nat) (A : Option Addr) (c : Nat) (fs : List (List Nat)) (ta : List Nat), v = .agg (ConfL ch bl t0 t1 dao (.slice A fs.length c) ta).toArray ∧ bl.length = 14 ∧ ta.length = 20 ∧ fs.length ≤ c ∧ AdsAt w A fs ∧ FineConf bl t1 fs := by
  obtain ⟨cs, rfl, _, _⟩ : ∃ cs, v = .agg cs ∧ cs.size = Tryd.prog.cellsOf 29 ∧ Row.okWide Tryd.prog w .any base 29 cs := by
    simpa [Value.okWide, Tryd.underlying29] using hv
  obtain ⟨fuel, hf⟩ := h
  obtain ⟨ch, bl, t0, t1, dao, A, c, fs, ta, e, h1, h2, h3, h4, h5⟩ := trod_conf hf
  obtain ⟨l⟩ := cs
  have h6 : l = _ := e
  exact ⟨ch, bl, t0, t1, dao, A, c, fs, ta, by rw [h6], h1, h2, h3, h4, h5⟩
end Go.Proofs.YtijoafmbmplgcaaDoor
