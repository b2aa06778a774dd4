/- Arguments of the laws of layer 17, opened: words, writes to the storage, rows of words, what is asked. -/
import Derived.Test.YtiflfcdegpmhnaaOpenB
import Derived.Test.YtiflfcdegpmhnaaWordMath
import Derived.ProofKit
import Derived.OpenShut
import Derived.Deep.Strs
import Derived.Test.YtiflfcdegpmhnaaLawGasRounds
namespace Go.Proofs.Ytiflfcdegpmhnaa
open Go.ChangeShapes Go.WideShapes Go.ChangeAt Go.RowKit Go.Deep

/-- Numbers, one cell each, out of cells of which each is one. -/
theorem gs_nums {k : IntKind} {B : Nat} {cs : List Value} (h : ∀ i, i < cs.length → ∃ n : Nat, n < B ∧ cs[i]? = some (.int k (n : Nat))) : ∃ bs : List Nat, bs.length = cs.length ∧ Ds B bs ∧ cs = bs.map fun n : Nat => Value.int k (n : Int) := by
  induction cs with
  | nil => exact ⟨[], rfl, (fun x hx => by cases hx), rfl⟩
  | cons c r ih =>
    obtain ⟨n, hn, hc⟩ := h 0 (by simp)
    obtain ⟨bs, h1, h2, h3⟩ := ih fun i hi => by
      obtain ⟨m, hm, hc⟩ := h (i + 1) (by simp; omega)
      exact ⟨m, hm, by simpa using hc⟩
    simp at hc
    subst hc
    refine ⟨n :: bs, by simp [h1], fun x hx => ?_, by rw [List.map_cons, ← h3]⟩
    rcases List.mem_cons.1 hx with rfl | hx
    · exact hn
    · exact h2 x hx
theorem gs_u64wf {z : Int} (h : (Lit.int .u64 z).wf = true) : 0 ≤ z ∧ z < 18446744073709551616 := by
  have h1 : IntKind.u64.min = 0 := rfl
  have h2 : IntKind.u64.max = 18446744073709551615 := rfl
  simp only [Lit.wf, Bool.and_eq_true, decide_eq_true_eq] at h
  omega
theorem gs_cells64 : Try.prog.cellsOf 22 = 1 := by kernel_rfl
theorem gs_cellsI : Try.prog.cellsOf 3 = 1 := by kernel_rfl
theorem gs_cellsB : Try.prog.cellsOf 4 = 1 := by kernel_rfl
theorem gs_cellsW : Try.prog.cellsOf 24 = 4 := by kernel_rfl
theorem gs_trodU {H : Type} {enc : TypeId × Value → H} {W : World} {base fuel : Nat} {spare : Nat → Bool} {held : Bool} {cs : List Value} {x : DataW H × List MemPlace} (h : DataW.trod enc Try.prog W base spare held fuel 22 cs = some x) :
    ∃ n : Nat, n < 18446744073709551616 ∧ cs = [.int .u64 (n : Nat)] := by
  obtain ⟨z, e1, e2, wf⟩ := DataW.trod_int Try.underlying22 h
  obtain ⟨b1, b2⟩ := gs_u64wf wf
  exact ⟨z.toNat, by omega, by rw [e1, Int.toNat_of_nonneg b1]⟩
theorem gs_trodI {H : Type} {enc : TypeId × Value → H} {W : World} {base fuel : Nat} {spare : Nat → Bool} {held : Bool} {cs : List Value} {x : DataW H × List MemPlace} (h : DataW.trod enc Try.prog W base spare held fuel 3 cs = some x) :
    ∃ z : Int, cs = [.int .i64 z] := by
  obtain ⟨z, e1, -, -⟩ := DataW.trod_int Try.underlying3 h
  exact ⟨z, e1⟩
/-- A word's cells. -/
def WL (a : Nat) : List Value := [.int .u64 (lim 0 a : Nat), .int .u64 (lim 1 a : Nat), .int .u64 (lim 2 a : Nat), .int .u64 (lim 3 a : Nat)]
theorem gs_trodW {H : Type} {enc : TypeId × Value → H} {W : World} {base fuel : Nat} {spare : Nat → Bool} {held : Bool} {cs : List Value} {x : DataW H × List MemPlace} (h : DataW.trod enc Try.prog W base spare held fuel 24 cs = some x) :
    ∃ a : Nat, Big a ∧ cs = WL a := by
  obtain ⟨ys, m, -, -, hl, hyl, hf⟩ := DataW.trod_array Try.underlying24 h
  rw [gs_cellsW] at hl
  rw [gs_cells64] at hf
  obtain ⟨bs, h1, h2, h3⟩ := gs_nums (k := .u64) (B := 18446744073709551616) (cs := cs) fun i hi => by
    have h1 := hf i (by omega)
    rw [Nat.mul_one] at h1
    obtain ⟨y, hy⟩ : ∃ y, ys[i]? = some y := ⟨_, List.getElem?_eq_getElem (by omega)⟩
    rw [hy] at h1
    obtain ⟨n, hn, e1⟩ := gs_trodU h1
    refine ⟨n, hn, ?_⟩
    have h4 := congrArg (fun l : List Value => l[0]?) e1
    simp at h4
    exact h4
  have hb : bs.length = 4 := by omega
  match bs, hb with
  | [a, b, c, d], _ =>
    have hw := isW_val (a := a) (b := b) (c := c) (d := d) (Lims.four (h2 a (by simp)) (h2 b (by simp)) (h2 c (by simp)) (h2 d (by simp)))
    obtain ⟨e0, e1, e2, e3⟩ := hw.canon
    refine ⟨_, hw.big, ?_⟩
    rw [h3]
    unfold WL
    rw [← e0, ← e1, ← e2, ← e3]
    rfl
set_option maxRecDepth 100000 in
theorem gs_openW {H : Type} {enc : TypeId × Value → H} {w : World} {base : Nat} {v : Value} {d : DataW H} {p : List MemPlace} (hv : Value.okWide Try.prog w .any base 24 v)
    (h : DataW.Trod enc Try.prog w 0 (fun _ => true) true 24 v d p) : ∃ a : Nat, Big a ∧ v = W a := by
  obtain ⟨cs, rfl, _, _⟩ : ∃ cs, v = .agg cs ∧ cs.size = Try.prog.cellsOf 24 ∧ Row.okWide Try.prog w .any base 24 cs := by
    simpa [Value.okWide, Try.underlying24] using hv
  obtain ⟨fuel, hf⟩ := h
  obtain ⟨a, ha, e⟩ := gs_trodW hf
  obtain ⟨l⟩ := cs
  have h5 : l = _ := e
  exact ⟨a, ha, by rw [h5]; rfl⟩
end Go.Proofs.Ytiflfcdegpmhnaa
namespace Go.Proofs.Ytiflfcdegpmhnaa
open Go.ChangeShapes Go.WideShapes Go.ChangeAt Go.RowKit Go.Deep

set_option maxRecDepth 100000 in
theorem gs_cut {l : List Value} (a k : Nat) : l.drop a = (l.drop a).take k ++ l.drop (a + k) := by
  rw [← List.drop_drop]; exact (List.take_append_drop k (l.drop a)).symm
set_option maxRecDepth 100000 in
theorem gs_cellsSt : Try.prog.cellsOf 41 = 14 := by kernel_rfl
set_option maxRecDepth 100000 in
theorem gs_openSt {H : Type} {enc : TypeId × Value → H} {w : World} {base : Nat} {v : Value} {d : DataW H} {p : List MemPlace} (hv : Value.okWide Try.prog w .any base 41 v)
    (h : DataW.Trod enc Try.prog w 0 (fun _ => true) true 41 v d p) : ∃ (o c n left : Nat) (warm : Bool), v = .agg (StC o c n warm left) ∧ Big o ∧ Big c ∧ Big n ∧ left < 18446744073709551616 := by
  obtain ⟨cs, rfl, _, _⟩ : ∃ cs, v = .agg cs ∧ cs.size = Try.prog.cellsOf 41 ∧ Row.okWide Try.prog w .any base 41 cs := by
    simpa [Value.okWide, Try.underlying41] using hv
  obtain ⟨fuel, h⟩ := h
  obtain ⟨l⟩ := cs
  replace h : DataW.trod enc Try.prog w 0 (fun _ => true) true fuel 41 l = some (d, p) := h
  obtain ⟨xs, n, -, -, hl, hxl, hf⟩ := DataW.trod_struct Try.underlying41 h
  rw [gs_cellsSt] at hl
  have hx5 : xs.length = 5 := hxl
  have get : ∀ i, i < 5 → ∃ y, xs[i]? = some y := fun i hi => ⟨_, List.getElem?_eq_getElem (by omega)⟩
  obtain ⟨y0, e0⟩ := get 0 (by omega)
  obtain ⟨y1, e1⟩ := get 1 (by omega)
  obtain ⟨y2, e2⟩ := get 2 (by omega)
  obtain ⟨y3, e3⟩ := get 3 (by omega)
  obtain ⟨y4, e4⟩ := get 4 (by omega)
  have p0 : DataW.trod enc Try.prog w 0 (fun _ => true) true n 24 ((l.drop 0).take (Try.prog.cellsOf 24)) = some y0 := (hf 0 _ rfl).trans e0
  have p1 : DataW.trod enc Try.prog w 0 (fun _ => true) true n 24 ((l.drop 4).take (Try.prog.cellsOf 24)) = some y1 := (hf 1 _ rfl).trans e1
  have p2 : DataW.trod enc Try.prog w 0 (fun _ => true) true n 24 ((l.drop 8).take (Try.prog.cellsOf 24)) = some y2 := (hf 2 _ rfl).trans e2
  have p3 : DataW.trod enc Try.prog w 0 (fun _ => true) true n 4 ((l.drop 12).take (Try.prog.cellsOf 4)) = some y3 := (hf 3 _ rfl).trans e3
  have p4 : DataW.trod enc Try.prog w 0 (fun _ => true) true n 22 ((l.drop 13).take (Try.prog.cellsOf 22)) = some y4 := (hf 4 _ rfl).trans e4
  rw [gs_cellsW] at p0 p1 p2
  rw [gs_cellsB] at p3
  rw [gs_cells64] at p4
  obtain ⟨o, ho, q0⟩ := gs_trodW p0
  obtain ⟨c, hc, q1⟩ := gs_trodW p1
  obtain ⟨m, hm, q2⟩ := gs_trodW p2
  obtain ⟨b, q3, -⟩ := DataW.trod_bool Try.underlying4 p3
  obtain ⟨left, hleft, q4⟩ := gs_trodU p4
  refine ⟨o, c, m, left, b, ?_, ho, hc, hm, hleft⟩
  have hz : l.drop 14 = [] := List.drop_eq_nil_of_le (by omega)
  have e : l = l.drop 0 := rfl
  have : l = WL o ++ (WL c ++ (WL m ++ ([.bool b] ++ ([.int .u64 (left : Nat)] ++ [])))) := by
    rw [e, gs_cut 0 4, gs_cut (0 + 4) 4, gs_cut (0 + 4 + 4) 4, gs_cut (0 + 4 + 4 + 4) 1, gs_cut (0 + 4 + 4 + 4 + 1) 1, q0, q1, q2, q3, q4, hz]
  rw [this]
  rfl
set_option maxRecDepth 100000 in
theorem gs_cellsAsk : Try.prog.cellsOf 48 = 7 := by kernel_rfl
set_option maxRecDepth 100000 in
theorem gs_openAsk {H : Type} {enc : TypeId × Value → H} {w : World} {base : Nat} {v : Value} {d : DataW H} {p : List MemPlace} (hv : Value.okWide Try.prog w .any base 48 v)
    (h : DataW.Trod enc Try.prog w 0 (fun _ => true) true 48 v d p) : ∃ (f : Int) (left a refund : Nat), v = .agg #[.int .i64 f, .int .u64 (left : Nat), .int .u64 (lim 0 a : Nat), .int .u64 (lim 1 a : Nat), .int .u64 (lim 2 a : Nat), .int .u64 (lim 3 a : Nat), .int .u64 (refund : Nat)] ∧ Big a ∧ left < 18446744073709551616 ∧ refund < 18446744073709551616 := by
  obtain ⟨cs, rfl, _, _⟩ : ∃ cs, v = .agg cs ∧ cs.size = Try.prog.cellsOf 48 ∧ Row.okWide Try.prog w .any base 48 cs := by
    simpa [Value.okWide, Try.underlying48] using hv
  obtain ⟨fuel, h⟩ := h
  obtain ⟨l⟩ := cs
  replace h : DataW.trod enc Try.prog w 0 (fun _ => true) true fuel 48 l = some (d, p) := h
  obtain ⟨xs, n, -, -, hl, hxl, hf⟩ := DataW.trod_struct Try.underlying48 h
  rw [gs_cellsAsk] at hl
  have hx4 : xs.length = 4 := hxl
  have get : ∀ i, i < 4 → ∃ y, xs[i]? = some y := fun i hi => ⟨_, List.getElem?_eq_getElem (by omega)⟩
  obtain ⟨y0, e0⟩ := get 0 (by omega)
  obtain ⟨y1, e1⟩ := get 1 (by omega)
  obtain ⟨y2, e2⟩ := get 2 (by omega)
  obtain ⟨y3, e3⟩ := get 3 (by omega)
  have p0 : DataW.trod enc Try.prog w 0 (fun _ => true) true n 3 ((l.drop 0).take (Try.prog.cellsOf 3)) = some y0 := (hf 0 _ rfl).trans e0
  have p1 : DataW.trod enc Try.prog w 0 (fun _ => true) true n 22 ((l.drop 1).take (Try.prog.cellsOf 22)) = some y1 := (hf 1 _ rfl).trans e1
  have p2 : DataW.trod enc Try.prog w 0 (fun _ => true) true n 24 ((l.drop 2).take (Try.prog.cellsOf 24)) = some y2 := (hf 2 _ rfl).trans e2
  have p3 : DataW.trod enc Try.prog w 0 (fun _ => true) true n 22 ((l.drop 6).take (Try.prog.cellsOf 22)) = some y3 := (hf 3 _ rfl).trans e3
  rw [gs_cellsI] at p0
  rw [gs_cells64] at p1 p3
  rw [gs_cellsW] at p2
  obtain ⟨f, q0⟩ := gs_trodI p0
  obtain ⟨left, h1, q1⟩ := gs_trodU p1
  obtain ⟨a, h2, q2⟩ := gs_trodW p2
  obtain ⟨refund, h3, q3⟩ := gs_trodU p3
  refine ⟨f, left, a, refund, ?_, h2, h1, h3⟩
  have hz : l.drop 7 = [] := List.drop_eq_nil_of_le (by omega)
  have e : l = l.drop 0 := rfl
  have : l = [.int .i64 f] ++ ([.int .u64 (left : Nat)] ++ (WL a ++ ([.int .u64 (refund : Nat)] ++ []))) := by
    rw [e, gs_cut 0 1, gs_cut (0 + 1) 1, gs_cut (0 + 1 + 1) 4, gs_cut (0 + 1 + 1 + 4) 1, q0, q1, q2, q3, hz]
  rw [this]
  rfl
set_option maxRecDepth 100000 in
theorem gs_listAll {P : Nat → Nat → Prop} : ∀ n, (∀ i, i < n → ∃ b, P i b) → ∃ l : List Nat, l.length = n ∧ ∀ i b, l[i]? = some b → P i b
  | 0, _ => ⟨[], rfl, fun i b h => by simp at h⟩
  | n + 1, h => by
    obtain ⟨l, h1, h2⟩ := gs_listAll n fun i hi => h i (by omega)
    obtain ⟨b, hb⟩ := h n (by omega)
    refine ⟨l ++ [b], by simp [h1], fun i c hi => ?_⟩
    rw [List.getElem?_append] at hi
    split at hi
    · exact h2 i c hi
    · rename_i hge
      have hil := (List.getElem?_eq_some_iff.1 hi).1
      have : i = n := by simp at hil; omega
      subst this
      rw [h1, Nat.sub_self] at hi
      simp at hi
      rw [← hi]; exact hb
set_option maxRecDepth 100000 in
theorem gs_openWs {H : Type} {enc : TypeId × Value → H} {w : World} {A : Option Addr} {len cap : Nat} {d : DataW H} {p : List MemPlace} (h : DataW.Trod enc Try.prog w 0 (fun _ => true) true 45 (.slice A len cap) d p) :
    ∃ ws : List Nat, ws.length = len ∧ len ≤ cap ∧ (A = none → cap = 0) ∧ cap ≤ 9223372036854775807 ∧ WsAt w A ws ∧ ∀ x ∈ ws, Big x := by
  obtain ⟨fuel, h⟩ := h
  replace h : DataW.trod enc Try.prog w 0 (fun _ => true) true fuel 45 [.slice A len cap] = some (d, p) := h
  rcases DataW.trod_slice Try.underlying45 h with ⟨hcs, _⟩ | ⟨a, m, cp, elems, rest, k, hk, hcs, _, _, hm, hcp, hlen, hel, _, _⟩
  · obtain ⟨rfl, rfl, rfl⟩ : A = none ∧ len = 0 ∧ cap = 0 := by simpa using hcs
    exact ⟨[], rfl, Nat.le_refl _, fun _ => rfl, by omega, .inl rfl, fun x hx => by cases hx⟩
  · obtain ⟨rfl, rfl, rfl⟩ : A = some a ∧ len = m ∧ cap = cp := by simpa using hcs
    have hcp' : cap ≤ 9223372036854775807 := by
      have := hcp
      unfold maxLen at this
      omega
    rw [gs_cellsW] at hel
    have hsp : 0 < len → a.spot = none := fun h0 => by
      have he := hel 0 h0
      rw [List.getElem?_eq_getElem (by omega)] at he
      obtain ⟨cs', h1, h2⟩ := Option.bind_eq_some_iff.1 he
      obtain ⟨x, l1, l2⟩ := gs_trodW h2
      obtain ⟨_, hcl, hc⟩ := World.cells?_some h1
      have z0 := hc 0 (by omega)
      have h4 : 0 < cs'.length := by omega
      rw [List.getElem?_eq_getElem h4] at z0
      simpa [Addr.add] using World.cell?_spot z0
    obtain ⟨b, o, s⟩ := a
    obtain ⟨ws, hfl, hfs⟩ := gs_listAll (P := fun i x => b < w.heap.size ∧ Big x ∧ ∀ j v, (WL x)[j]? = some v → w.cell? ⟨b, o + i * 4 + j, none⟩ = some v) len fun i hi => by
      have he := hel i hi
      rw [List.getElem?_eq_getElem (by omega)] at he
      obtain ⟨cs', h1, h2⟩ := Option.bind_eq_some_iff.1 he
      obtain ⟨x, l1, l2⟩ := gs_trodW h2
      obtain ⟨_, hcl, hc⟩ := World.cells?_some h1
      have z0 := hc 0 (by omega)
      have hs : s = none := hsp (by omega)
      subst hs
      refine ⟨x, ?_, l1, fun j v hj => ?_⟩
      · have h4 : 0 < cs'.length := by omega
        rw [List.getElem?_eq_getElem h4, Addr.add_mid, Addr.add_mid] at z0
        have h6 := World.block_lt_of_cell? _ _ z0
        exact h6
      · have hjl := (List.getElem?_eq_some_iff.1 hj).1
        have hj4 : j < 4 := hjl
        have zj := hc j hj4
        rw [Addr.add_mid, Addr.add_mid, l2, hj] at zj
        exact zj
    refine ⟨ws, hfl, hm, by simp, hcp', ?_, fun x hx => ?_⟩
    · rcases Nat.eq_zero_or_pos len with h0 | h0
      · exact .inl (List.eq_nil_of_length_eq_zero (by omega))
      · have hs : s = none := hsp h0
        subst hs
        obtain ⟨x0, hx0⟩ : ∃ x, ws[0]? = some x := ⟨_, List.getElem?_eq_getElem (by omega)⟩
        exact .inr ⟨b, o, rfl, (hfs 0 x0 hx0).1, fun i x hx => ⟨(hfs i x hx).2.2 0 _ rfl, (hfs i x hx).2.2 1 _ rfl, (hfs i x hx).2.2 2 _ rfl, (hfs i x hx).2.2 3 _ rfl⟩⟩
    · obtain ⟨i, hi, he⟩ := List.getElem_of_mem hx
      exact (hfs i x (by rw [List.getElem?_eq_getElem hi, he])).2.1
end Go.Proofs.Ytiflfcdegpmhnaa
