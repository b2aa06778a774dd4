/- The contracts of package rlp's read and readRow. -/
import Derived.Test.YtgjiealcjaojaaaRlItem
import Derived.Maps.AppendAt
namespace Go.Proofs.Ytgjiealcjaojaaa
open Go.RowKit

/-- Bytes of a slice that is owned lie in no block of items. -/
theorem Acc.no {w : World} {base g : Nat} {v : Value} {bs : List Nat} {c : Array Value} {z : Nat × Nat} (h : Acc w base v bs) (hg : w.heap[g]? = some (.cells c 56 z)) : v.ownBlock ≠ some g := by
  intro e
  rcases h.2 with ⟨e1, _⟩ | ⟨g', cap, cur, e1, hb, hh, _⟩
  · rw [e1] at e; simp [Value.ownBlock] at e
  · rw [e1] at e
    simp [Value.ownBlock] at e
    subst e
    rw [hg] at hh
    injection hh with hh
    injection hh with _ hh _
    exact absurd hh (by decide)
theorem Acc.far {w w' : World} {base : Nat} {v : Value} {bs : List Nat} (h : Acc w base v bs) (hk : ∀ k, v.ownBlock = some k → k < w.heap.size → w'.heap[k]? = w.heap[k]?) : Acc w' base v bs := by
  refine ⟨h.1, ?_⟩
  rcases h.2 with h1 | ⟨g, cap, cur, e, hg, hh, r⟩
  · exact .inl h1
  · exact .inr ⟨g, cap, cur, e, hg, (hk g (by rw [e]; rfl) (Array.getElem?_eq_some_iff.1 hh).1).trans hh, r⟩
/-- The bytes of the items in a row, each in a block of its own. -/
def Kids (w : World) (base : Nat) (us : List Value) (m : Nat) : Prop := ∀ j, j < m → ∃ bs, Acc w base (us.getD (3 * j + 1) undef) bs ∧ Ds 256 bs ∧ bs.length ≤ 16777216 ∧ ∀ i k, i < j → (us.getD (3 * i + 1) undef).ownBlock = some k → (us.getD (3 * j + 1) undef).ownBlock ≠ some k
/-- An item whose bytes, and the bytes of whose items, are one's own. -/
def Top (w : World) (base : Nat) (vx : Value) : Prop := ∃ l v B m cap bs us, vx = .agg #[.bool l, v, .slice B m cap] ∧ Acc w base v bs ∧ Ds 256 bs ∧ bs.length ≤ 16777216 ∧ w.ownsRow base 56 3 (.slice B m cap) m us ∧ Kids w base us m ∧ (m = 0 ∨ v = .slice none 0 0)
theorem acc_mono {w : World} {base base' : Nat} {v : Value} {bs : List Nat} (h : Acc w base v bs) (hb : base' ≤ base) : Acc w base' v bs := ⟨h.1, h.2.imp id fun ⟨g, cap, cur, h1, h2, h3⟩ => ⟨g, cap, cur, h1, Nat.le_trans hb h2, h3⟩⟩
theorem Kids.move {w w' : World} {base : Nat} {us : List Value} {m : Nat} (h : Kids w base us m) (hk : ∀ k, base ≤ k → k < w.heap.size → w'.heap[k]? = w.heap[k]?) : Kids w' base us m := fun j hj => by
  obtain ⟨bs, h1, h2⟩ := h j hj
  exact ⟨bs, h1.far fun k e hlt => hk k (h1.own k e) hlt, h2⟩
theorem Kids.mono {w : World} {base base' : Nat} {us : List Value} {m : Nat} (h : Kids w base us m) (hb : base' ≤ base) : Kids w base' us m := fun j hj => by
  obtain ⟨bs, h1, h2⟩ := h j hj
  exact ⟨bs, acc_mono h1 hb, h2⟩
theorem Top.move {w w' : World} {base : Nat} {vx : Value} (h : Top w base vx) (hk : ∀ k, base ≤ k → k < w.heap.size → w'.heap[k]? = w.heap[k]?) : Top w' base vx := by
  obtain ⟨l, v, B, m, cap, bs, us, e, h1, h2, h3, h4, h5, h6⟩ := h
  refine ⟨l, v, B, m, cap, bs, us, e, h1.far fun k e hlt => hk k (h1.own k e) hlt, h2, h3, ⟨h4.1, ?_⟩, h5.move hk, h6⟩
  rcases h4.2 with h7 | ⟨g, c, cur, e2, hb, hg, r⟩
  · exact .inl h7
  · exact .inr ⟨g, c, cur, e2, hb, (hk g hb (Array.getElem?_eq_some_iff.1 hg).1).trans hg, r⟩
theorem Top.mono {w : World} {base base' : Nat} {vx : Value} (h : Top w base vx) (hb : base' ≤ base) : Top w base' vx := by
  obtain ⟨l, v, B, m, cap, bs, us, e, h1, h2, h3, h4, h5, h6⟩ := h
  refine ⟨l, v, B, m, cap, bs, us, e, acc_mono h1 hb, h2, h3, ⟨h4.1, ?_⟩, h5.mono hb, h6⟩
  rcases h4.2 with h7 | ⟨g, c, cur, e2, hb2, r⟩
  · exact .inl h7
  · exact .inr ⟨g, c, cur, e2, Nat.le_trans hb hb2, r⟩
theorem Top.below {w w' : World} {base : Nat} {vx : Value} (h : Top w base vx) (hb : Below w.heap.size w w') : Top w' base vx := h.move fun k _ hlt => hb.block k hlt
theorem Top.item0 (w : World) (base : Nat) : Top w base (.agg #[.bool false, .slice none 0 0, .slice none 0 0]) :=
  ⟨false, _, none, 0, 0, [], [], rfl, Acc.nil _ _, Ds.nil, by simp, World.ownsRow_nil _ _ _ _, fun j hj => absurd hj (by simp), .inl rfl⟩
theorem Top.text {w : World} {base : Nat} {v : Value} {bs : List Nat} (h : Acc w base v bs) (hd : Ds 256 bs) (hl : bs.length ≤ 16777216) : Top w base (.agg #[.bool false, v, .slice none 0 0]) :=
  ⟨false, v, none, 0, 0, bs, [], rfl, h, hd, hl, World.ownsRow_nil _ _ _ _, fun j hj => absurd hj (by simp), .inl rfl⟩
theorem own_slice (A : Option Addr) (n c m k : Nat) : (Value.slice A n c).ownBlock = (Value.slice A m k).ownBlock := by cases A <;> rfl
def ReadQ (A : Option Addr) (raw : List Nat) (d : Nat) (w : World) (e : Ending) (w' : World) : Prop := Below w.heap.size w w' ∧ ∃ o, ReadR raw d o ∧ match o with
  | .ok (x, r) => ∃ vx vr, e = .returned (.tuple #[vx, vr, .int .i64 0]) ∧ IAt (fun b => w.heap.size ≤ b) w' vx x ∧ Byt w' vr r ∧ vr.ownBlock = (Value.slice A 0 0).ownBlock ∧ Top w' w.heap.size vx
  | .error k => ∃ l A n c B m cap vr, e = .returned (.tuple #[.agg #[.bool l, .slice A n c, .slice B m cap], vr, .int .i64 (k : Nat)]) ∧ k ≠ 0
def RowQ (raw : List Nat) (d : Nat) (w : World) (e : Ending) (w' : World) : Prop := Below w.heap.size w w' ∧ ∃ o, RowR raw d o ∧ match o with
  | .ok l => ∃ B m cap us, e = .returned (.tuple #[.slice B m cap, .int .i64 0]) ∧ AccI w' w.heap.size (.slice B m cap) us l ∧ Kids w' w.heap.size us l.length
  | .error k => e = .returned (.tuple #[.slice none 0 0, .int .i64 (k : Nat)]) ∧ k ≠ 0

theorem three_cells {w : World} {g : Nat} {u v x : Value} {t : TypeId} (h : w.heap[g]? = some (.cells #[u, v, x] t (0, 0))) : w.cell? ⟨g, 0, none⟩ = some u ∧ w.cell? ⟨g, 1, none⟩ = some v ∧ w.cell? ⟨g, 2, none⟩ = some x ∧
    w.frozen? ⟨g, 0, none⟩ = false ∧ w.frozen? ⟨g, 1, none⟩ = false ∧ w.frozen? ⟨g, 2, none⟩ = false := by
  refine ⟨?_, ?_, ?_, ?_, ?_, ?_⟩
  · rw [cell_of_row _ _ _ _ t (0, 0) h]; rfl
  · rw [cell_of_row _ _ _ _ t (0, 0) h]; rfl
  · rw [cell_of_row _ _ _ _ t (0, 0) h]; rfl
  · exact frozen_of_row _ _ _ _ t h
  · exact frozen_of_row _ _ _ _ t h
  · exact frozen_of_row _ _ _ _ t h

theorem item_set {w : World} {g : Nat} {u v x : Value} {t : TypeId} (h : w.heap[g]? = some (.cells #[u, v, x] t (0, 0))) (a b c : Value) : (((w.setCell ⟨g, 0, none⟩ a).setCell ⟨g, 1, none⟩ b).setCell ⟨g, 2, none⟩ c).heap[g]? = some (.cells #[a, b, c] t (0, 0)) := by
  have h0 := heap_setCell_same w g 0 _ t a h
  have h1 := heap_setCell_same _ g 1 _ t b h0
  have h2 := heap_setCell_same _ g 2 _ t c h1
  simpa using h2
theorem below_cell_item {w : World} {g : Nat} {a b c : Value} {p : Addr} (h : p.block ≠ g) : (((w.setCell ⟨g, 0, none⟩ a).setCell ⟨g, 1, none⟩ b).setCell ⟨g, 2, none⟩ c).cell? p = w.cell? p := by
  exact World.cell?_of_block (w := w) ((Below.heap_setCell _ _ _ _ h).trans ((Below.heap_setCell _ _ _ _ h).trans (Below.heap_setCell _ _ _ _ h)))
/-- Bytes kept through a store into an item's block. -/
theorem byt_far_item {w : World} {g : Nat} {l : Bool} {A B : Option Addr} {n m cA cB : Nat} {t : TypeId} (hg : w.heap[g]? = some (.cells #[.bool l, .slice A n cA, .slice B m cB] t (0, 0))) {a b c v : Value} {bs : List Nat} (h : Byt w v bs) :
    Byt (((w.setCell ⟨g, 0, none⟩ a).setCell ⟨g, 1, none⟩ b).setCell ⟨g, 2, none⟩ c) v bs := by
  obtain ⟨A', c', rfl, hr, hd⟩ := h
  refine ⟨A', c', rfl, ⟨hr.le, hr.cap, fun h0 => ?_⟩, hd⟩
  obtain ⟨b1, o1, e1, hb1, hc1⟩ := hr.at_ h0
  refine ⟨b1, o1, e1, by simpa using hb1, fun j hj => ?_⟩
  have hne : b1 ≠ g := by
    intro e
    subst e
    have h1 := hc1 j hj
    rw [cell_of_row _ _ _ _ t (0, 0) hg] at h1
    match o1 + j, h1 with
    | 0, h1 => cases h1
    | 1, h1 => cases h1
    | 2, h1 => cases h1
    | k + 3, h1 => simp at h1
  rw [below_cell_item (p := ⟨b1, o1 + j, none⟩) hne]
  exact hc1 j hj
theorem ta_text (v : Value) (w : World) : (Instr.typeAssert (.iface 112 v) 20 112 true).run Try.prog w = .ok (.tuple #[v, .bool true]) w := by kernel_rfl
theorem ta_row_text (v : Value) (w : World) : (Instr.typeAssert (.iface 114 v) 20 112 true).run Try.prog w = .ok (.tuple #[.slice none 0 0, .bool false]) w := by kernel_rfl
theorem ta_row (v : Value) (w : World) : (Instr.typeAssert (.iface 114 v) 20 114 false).run Try.prog w = .ok v w := by kernel_rfl
theorem infoItem : (Try.prog.info? 56).map (·.size) = some 3 := by kernel_rfl
theorem results_item2 {fn : Func} {p u v : Tmp} (h : fn.results = #[.cell p 56, .tmp u, .tmp v]) (tmps : Array Value) (w : World) (g : Nat) (a b c : Value)
    (hp : tmps.getD p undef = .pointer (some ⟨g, 0, none⟩)) (hg : w.heap[g]? = some (.cells #[a, b, c] 56 (0, 0))) :
    (results fn tmps).run Try.prog w = .ok (.tuple #[.agg #[a, b, c], tmps.getD u undef, tmps.getD v undef]) w := by
  have hp' : tmps[p]?.getD undef = .pointer (some ⟨g, 0, none⟩) := by simpa using hp
  simp [results, h, hp', asAddr, run_loadVar_row w g 56 56 #[a, b, c] (0, 0) _ hg Try.underlying56 rfl infoItem]
theorem results_item1 {fn : Func} {p u : Tmp} (h : fn.results = #[.cell p 56, .tmp u]) (tmps : Array Value) (w : World) (g : Nat) (a b c : Value)
    (hp : tmps.getD p undef = .pointer (some ⟨g, 0, none⟩)) (hg : w.heap[g]? = some (.cells #[a, b, c] 56 (0, 0))) :
    (results fn tmps).run Try.prog w = .ok (.tuple #[.agg #[a, b, c], tmps.getD u undef]) w := by
  have hp' : tmps[p]?.getD undef = .pointer (some ⟨g, 0, none⟩) := by simpa using hp
  simp [results, h, hp', asAddr, run_loadVar_row w g 56 56 #[a, b, c] (0, 0) _ hg Try.underlying56 rfl infoItem]
theorem below_item {B : Nat} {w0 w : World} (h : Below B w0 w) {g : Nat} (hg : B ≤ g) (a b c : Value) : Below B w0 (((w.setCell ⟨g, 0, none⟩ a).setCell ⟨g, 1, none⟩ b).setCell ⟨g, 2, none⟩ c) :=
  ((h.setCell (p := ⟨g, 0, none⟩) hg _).setCell (p := ⟨g, 1, none⟩) hg _).setCell (p := ⟨g, 2, none⟩) hg _
set_option maxRecDepth 100000 in
set_option maxHeartbeats 6400000 in
theorem read_of_row {A : Option Addr} {c : Nat} {raw : List Nat} (w : World) (h : Rd .u8 w A c raw) (hd : Ds 256 raw) (hl : raw.length ≤ 16777216) (d : Nat) (hdd : d ≤ 1024)
    (hrow : d ≠ 1024 → ∀ (A : Option Addr) (c : Nat) (u : List Nat) (w : World), u.length < raw.length → Rd .u8 w A c u → Ds 256 u → Calls Try.prog 85 #[.slice A u.length c, .int .i64 ((d + 1 : Nat) : Int)] w (RowQ u (d + 1) w)) :
    Calls Try.prog 61 #[.slice A raw.length c, .int .i64 (d : Int)] w (ReadQ A raw d w) := by
  have hg0 := heap_alloc_new w (.cells #[.bool false, .slice none 0 0, .slice none 0 0] 56)
  have HX : Hid ((w.alloc (.cells #[.bool false, .slice none 0 0, .slice none 0 0] 56)).heap.size = w.heap.size + 1) := by show _ = _; simp
  have C1 := Lib.hid (first_c (w.alloc (.cells #[.bool false, .slice none 0 0, .slice none 0 0] 56)) (h.alloc _) hd hl)
  have HB0 : Hid (Below w.heap.size w (w.alloc (.cells #[.bool false, .slice none 0 0, .slice none 0 0] 56))) := (Below.refl _ _).alloc (Nat.le_refl _) _
  have HG := Lib.hid hg0
  have HROW := Lib.hid hrow
  have HL := Lib.hid hl
  obtain ⟨L, hL⟩ : ∃ L, L = raw.length := ⟨_, rfl⟩
  rw [← hL] at C1 ⊢
  have HLL := Lib.hid hL
  clear h hd hl hg0 hrow hL
  go_enter Try.func61, Try.ntmps61
  go_wp2_with fail
  (with_reducible refine C1.out.mono ?_)
  rintro e w1 ⟨hb, hm⟩
  have hg1 := (hb.block w.heap.size (by rw [HX.out]; omega)).trans HG.out
  have HB1 := Lib.hid (HB0.out.trans (hb.mono (by rw [HX.out]; omega)))
  have hw1 : w.heap.size + 1 ≤ w1.heap.size := by have := hb.size; rw [HX.out] at this; exact this
  clear HB0 HG C1 hb HX
  have HG1 := Lib.hid hg1
  rcases hf : fstS raw with _ | ⟨l, u, r⟩
  · rw [hf] at hm
    obtain ⟨p, v, rfl⟩ := hm
    obtain ⟨x0, x1, x2, y0, y1, y2⟩ := three_cells hg1
    have HF := Lib.hid hf
    clear hf hg1 HROW
    go_wp2_with fail
    refine bodyPost_ret (results_item2 Try.results61 _ _ w.heap.size _ _ _ rfl (item_set HG1.out _ _ _)) rfl ⟨below_item HB1.out (Nat.le_refl _) _ _ _, .error 2, .bad HF.out, ?_⟩
    exact ⟨_, _, _, _, _, _, _, _, rfl, by decide⟩
  · rw [hf] at hm
    obtain ⟨vu, vr, rfl, hu, hr, hou, hor⟩ := hm
    obtain ⟨hlr, hlu⟩ := fstS_len hf
    rcases l with _ | _
    · have HF := Lib.hid hf
      have HR := Lib.hid hr
      have T1 := ta_text
      obtain ⟨A2, c2, rfl, hA2, dA2⟩ := hu
      have hul : u.length ≤ 16777216 := by have := fstS_len2 hf; have := HL.out; omega
      have C2 := Lib.hid (rl_clone_c w1 hA2 hul)
      have DA := Lib.hid dA2
      obtain ⟨K, hK⟩ : ∃ K, K = u.length := ⟨_, rfl⟩
      have hK9 : Hid (K ≤ 16777216) := by show K ≤ _; rw [hK]; exact hul
      rw [← hK] at C2 ⊢
      have HK := Lib.hid hK
      obtain ⟨A3, c3, rfl, hA3, dA3⟩ := hr
      obtain ⟨M, hM⟩ : ∃ M, M = r.length := ⟨_, rfl⟩
      have HOR := Lib.hid ((own_slice A3 M c3 _ _).trans hor)
      rw [← hM] at HR ⊢
      clear hf hg1 HROW hA2 dA2 hul hK hA3 dA3 hM hlr hlu hou hor
      go_wp2_with fail
      (with_reducible refine C2.out.mono ?_)
      rintro e w2 ⟨v, rfl, hv, hb2⟩
      have hg2 := (hb2.block w.heap.size (by omega)).trans HG1.out
      have HB2 := Lib.hid (HB1.out.trans (hb2.mono (by omega)))
      have HR2 := Lib.hid (HR.out.below hb2)
      obtain ⟨A4, c4, rfl⟩ := hv.form
      obtain ⟨x0, x1, x2, y0, y1, y2⟩ := three_cells hg2
      have HG2 := Lib.hid hg2
      have HI := Lib.hid (IAt.text hv DA.out)
      have HTOP := Lib.hid (Top.text hv DA.out (by rw [← HK.out]; exact hK9.out))
      have HW := Lib.hid hw1
      have HS2 := Lib.hid hb2.size
      clear hv hg2 hb2 C2 T1
      go_wp2_with fail
      refine bodyPost_ret (results_item2 Try.results61 _ _ w.heap.size _ _ _ rfl (item_set HG2.out _ _ _)) rfl ⟨below_item HB2.out (Nat.le_refl _) _ _ _, .ok (.text u, r), .text HF.out, ?_⟩
      refine ⟨_, _, rfl, HI.out.move (by simp) (fun b _ h => by have := HW.out; omega) (fun p hp hlt => ?_), ?_⟩
      · exact below_cell_item (by have := HW.out; omega)
      · refine ⟨byt_far_item HG2.out HR2.out, HOR.out, ?_⟩
        have ht := (HTOP.out.move (w' := _) fun k hk _ => (Below.heap_setCell (((w2.setCell ⟨w.heap.size, 0, none⟩ (.bool false)).setCell ⟨w.heap.size, 1, none⟩ (.slice A4 u.length c4))) ⟨w.heap.size, 2, none⟩ (.slice none 0 0) k (show k ≠ w.heap.size by have := HW.out; omega)).trans ((Below.heap_setCell (w2.setCell ⟨w.heap.size, 0, none⟩ (.bool false)) ⟨w.heap.size, 1, none⟩ (.slice A4 u.length c4) k (show k ≠ w.heap.size by have := HW.out; omega)).trans (Below.heap_setCell w2 ⟨w.heap.size, 0, none⟩ (.bool false) k (show k ≠ w.heap.size by have := HW.out; omega)))).mono (base' := w.heap.size) (by have := HW.out; omega)
        exact ht
    · have hr0 := hr
      obtain ⟨A2, c2, rfl, hA2, dA2⟩ := hu
      obtain ⟨A3, c3, rfl, hA3, dA3⟩ := hr
      have HR := Lib.hid hr0
      have T1 := ta_row_text
      have T2 := ta_row
      obtain ⟨x0, x1, x2, y0, y1, y2⟩ := three_cells hg1
      obtain ⟨M, hM⟩ : ∃ M, M = r.length := ⟨_, rfl⟩
      have HOR := Lib.hid ((own_slice A3 M c3 _ _).trans hor)
      rw [← hM] at HR ⊢
      have HF := Lib.hid hf
      by_cases hdeep : d = 1024
      · subst hdeep
        obtain ⟨K, hK⟩ : ∃ K, K = u.length := ⟨_, rfl⟩
        rw [← hK]
        clear hf hg1 HROW hA2 dA2 hK hA3 dA3 hM hlr hlu hr0 T2 hdd hou hor HOR
        go_wp2_with fail
        refine bodyPost_ret (results_item2 Try.results61 _ _ w.heap.size _ _ _ rfl (item_set HG1.out _ _ _)) rfl ⟨below_item HB1.out (Nat.le_refl _) _ _ _, .error 7, .deep HF.out, ?_⟩
        exact ⟨_, _, _, _, _, _, _, _, rfl, by decide⟩
      · have C2 := Lib.hid (HROW.out hdeep A2 c2 u w1 (hlu rfl) hA2 dA2)
        obtain ⟨K, hK⟩ : ∃ K, K = u.length := ⟨_, rfl⟩
        rw [← hK] at C2 ⊢
        have d1 : ¬ (d : Int) = 1024 := by omega
        have d2 : ((d : Int) == 1024) = false := by simpa using d1
        have d3 : IntKind.i64.wrap ((d : Int) + 1) = (d : Int) + 1 := IntWalk.i64_in _ (by omega)
        have d4 : ((d + 1 : Nat) : Int) = (d : Int) + 1 := by omega
        rw [d4] at C2
        have HD := Lib.hid hdeep
        clear hf hg1 HROW hA2 dA2 hK hA3 dA3 hM hlr hlu hr0 hdeep hdd d4 hou hor
        go_wp2_with fail
        (with_reducible refine C2.out.mono ?_)
        rintro e w2 ⟨hb2, o, ho, hm⟩
        have hg2 := (hb2.block w.heap.size (by omega)).trans HG1.out
        have HB2 := Lib.hid (HB1.out.trans (hb2.mono (by omega)))
        have HR2 := Lib.hid (HR.out.below hb2)
        have HG2 := Lib.hid hg2
        have HS2 := Lib.hid hb2.size
        have HW := Lib.hid hw1
        have HO := Lib.hid ho
        clear C2 hb2 x0 x1 x2 y0 y1 y2 ho
        obtain ⟨x0, x1, x2, y0, y1, y2⟩ := three_cells hg2
        clear hg2
        rcases o with k | l
        · obtain ⟨rfl, hk⟩ := hm
          have HK := Lib.hid hk
          clear hk
          go_wp2_with fail
          refine bodyPost_ret (results_item2 Try.results61 _ _ w.heap.size _ _ _ rfl (item_set HG2.out _ _ _)) rfl ⟨below_item HB2.out (Nat.le_refl _) _ _ _, .error k, .wrong HF.out HD.out HO.out, ?_⟩
          exact ⟨_, _, _, _, _, _, _, _, rfl, HK.out⟩
        · obtain ⟨B, m, cap, us, rfl, hacc, hkids⟩ := hm
          have hml : m = l.length := by
            obtain ⟨A', c', e⟩ := hacc.form
            injection e
          have HTOP : Hid (Top w2 w1.heap.size (.agg #[.bool true, .slice none 0 0, .slice B m cap])) := ⟨true, _, B, m, cap, [], us, rfl, Acc.nil _ _, Ds.nil, by simp, by have := hacc.1; rwa [← hml] at this, by rw [hml]; exact hkids, .inr rfl⟩
          have HI := Lib.hid hacc.item
          clear hacc hkids hml
          go_wp2_with fail
          refine bodyPost_ret (results_item2 Try.results61 _ _ w.heap.size _ _ _ rfl (item_set HG2.out _ _ _)) rfl ⟨below_item HB2.out (Nat.le_refl _) _ _ _, .ok (.list l, r), .list HF.out HD.out HO.out, ?_⟩
          refine ⟨_, _, rfl, HI.out.move (by simp) (fun b _ h => by have := HW.out; omega) (fun p hp hlt => ?_), ?_⟩
          · exact below_cell_item (by have := HW.out; omega)
          · refine ⟨byt_far_item HG2.out HR2.out, HOR.out, ?_⟩
            have ht := (HTOP.out.move (w' := _) fun k hk _ => (Below.heap_setCell (((w2.setCell ⟨w.heap.size, 0, none⟩ (.bool true)).setCell ⟨w.heap.size, 1, none⟩ (.slice none 0 0))) ⟨w.heap.size, 2, none⟩ (.slice B m cap) k (show k ≠ w.heap.size by have := HW.out; omega)).trans ((Below.heap_setCell (w2.setCell ⟨w.heap.size, 0, none⟩ (.bool true)) ⟨w.heap.size, 1, none⟩ (.slice none 0 0) k (show k ≠ w.heap.size by have := HW.out; omega)).trans (Below.heap_setCell w2 ⟨w.heap.size, 0, none⟩ (.bool true) k (show k ≠ w.heap.size by have := HW.out; omega)))).mono (base' := w.heap.size) (by have := HW.out; omega)
            exact ht

def preR (xs : List Itm) : Except Nat (List Itm) → Except Nat (List Itm)
  | .ok l => .ok (xs ++ l)
  | .error k => .error k
theorem infoIt : (Try.prog.info? 56).map (fun i => (i.zero, i.size, i.bytes)) = some (some (.agg #[.bool false, .slice none 0 0, .slice none 0 0]), 3, 56) := by kernel_rfl
theorem hread_len {raw : List Nat} {d : Nat} {x : Itm} {r : List Nat} (h : ReadR raw d (.ok (x, r))) : r.length < raw.length := by
  cases h with
  | text h => exact (fstS_len h).1
  | list h _ _ => exact (fstS_len h).1
def lenOfV : Value → Nat
  | .slice _ n _ => n
  | _ => 0
theorem item_new {w : World} {p q r : Value} {t : TypeId} : ∀ j u, ([p, q, r] : List Value)[j]? = some u → (w.alloc (.cells #[p, q, r] t)).cell? ((⟨w.heap.size, 0, none⟩ : Addr).add j) = some u := by
  intro j u hj
  have e : (⟨w.heap.size, 0, none⟩ : Addr).add j = ⟨w.heap.size, j, none⟩ := by unfold Addr.add; by_cases h : j = 0 <;> simp [h]
  rw [e, cell_of_row (w.alloc (.cells #[p, q, r] t)) w.heap.size j #[p, q, r] t (0, 0) (heap_alloc_new w _)]
  simpa using hj

theorem AccI.below {w w' : World} {base : Nat} {v : Value} {us : List Value} {xs : List Itm} (h : AccI w base v us xs) (hb : Below w.heap.size w w') : AccI w' base v us xs := by
  refine ⟨⟨h.1.1, ?_⟩, fun j x hj => (h.2 j x hj).keep hb⟩
  rcases h.1.2 with h1 | ⟨g, cap, cur, e, hg, hh, r1, r2, r3, r4⟩
  · exact .inl h1
  · exact .inr ⟨g, cap, cur, e, hg, (hb.block g (Array.getElem?_eq_some_iff.1 hh).1).trans hh, r1, r2, r3, r4⟩
theorem byt_grown {w w' : World} {v : Value} {bs : List Nat} {row : Option Nat} (h : Byt w v bs) (hg : w.grownBy w' row) (hne : ∀ k, row = some k → v.ownBlock ≠ some k) : Byt w' v bs := by
  obtain ⟨A, c, rfl, hr, hd⟩ := h
  refine ⟨A, c, rfl, ⟨hr.le, hr.cap, fun h0 => ?_⟩, hd⟩
  obtain ⟨b, o, rfl, hb, hc⟩ := hr.at_ h0
  exact ⟨b, o, rfl, Nat.lt_of_lt_of_le hb hg.size, fun j hj => (World.cell?_of_block (w := w) (hg.block b hb (fun e => hne b e.symm rfl))).trans (hc j hj)⟩
/-- .. and its bytes are one's own, and nobody else's in the row. -/
theorem Kids.grow {w w' : World} {base lo : Nat} {v : Value} {us : List Value} {m : Nat} {l : Bool} {u : Value} {B : Option Addr} {k cap : Nat} (h : Kids w base us m) (hlo : base ≤ lo) (hu : us.length = 3 * m) (hold : ∀ j k, j < m → (us.getD (3 * j + 1) undef).ownBlock = some k → k < lo) (ht : Top w lo (.agg #[.bool l, u, .slice B k cap])) (hrow : ∀ g, v.ownBlock = some g → ∃ cs, w.heap[g]? = some (.cells cs 56 (0, 0))) (hg : w.grownBy w' v.ownBlock) :
    Kids w' base (us ++ [.bool l, u, .slice B k cap]) (m + 1) := by
  have keep : ∀ {v2 : Value} {b : Nat} {bs : List Nat}, Acc w b v2 bs → Acc w' b v2 bs := fun ha => ha.far fun k e hlt => hg.block k hlt fun e2 => by
    obtain ⟨cs, hc⟩ := hrow k e2.symm
    exact ha.no hc e
  intro j hj
  rcases Nat.lt_or_ge j m with hlt | hge
  · obtain ⟨bs, h1, h2, h3, h4⟩ := h j hlt
    have e : ∀ i, i < m → (us ++ [Value.bool l, u, .slice B k cap]).getD (3 * i + 1) undef = us.getD (3 * i + 1) undef := fun i hi => by
      rw [List.getD_eq_getElem?_getD, List.getD_eq_getElem?_getD, List.getElem?_append_left (by omega)]
    rw [e j hlt]
    exact ⟨bs, keep h1, h2, h3, fun i k hi => by rw [e i (by omega)]; exact h4 i k hi⟩
  · obtain rfl : j = m := by omega
    obtain ⟨l', v', B', m', cap', bs, us', e1, h1, h2, h3, _⟩ := ht
    have e2 : u = v' := by have := congrArg (fun z : Value => match z with | .agg cs => cs[1]? | _ => none) e1; simpa using this
    subst e2
    have e : (us ++ [Value.bool l, u, .slice B k cap]).getD (3 * j + 1) undef = u := by
      rw [List.getD_eq_getElem?_getD, List.getElem?_append_right (by omega), show 3 * j + 1 - us.length = 1 by omega]; rfl
    rw [e]
    refine ⟨bs, acc_mono (keep h1) hlo, h2, h3, fun i k hi hk hk2 => ?_⟩
    rw [List.getD_eq_getElem?_getD, List.getElem?_append_left (by omega), ← List.getD_eq_getElem?_getD] at hk
    have := hold i k hi hk
    have := h1.own k hk2
    omega
/-- An item appended: what stood stands. -/
theorem AccI.grow {w w' : World} {base : Nat} {v v' : Value} {us : List Value} {xs : List Itm} {x : Itm} {p q r : Value} {lo : Nat} (h : AccI w base v us xs) (hlo : base ≤ lo) (hv : ∀ k, v.ownBlock = some k → k < lo) (hx : IAt (fun b => lo ≤ b) w (.agg #[p, q, r]) x)
    (ho : w'.ownsRow base 56 3 v' (xs.length + 1) (us ++ [p, q, r])) (hg : w.grownBy w' v.ownBlock) (hat : v'.ownBlock = v.ownBlock ∨ v'.ownBlock = some w.heap.size) : AccI w' base v' (us ++ [p, q, r]) (xs ++ [x]) := by
  refine h.more ho (fun j y hj => (h.2 j y hj).move hg.size (fun b hb hS => ⟨hS.1, ?_⟩) fun p hp hlt => World.cell?_of_block (w := w) (hg.block _ hlt (Ne.symm hp.2))) (hx.move hg.size (fun b hb hS => ⟨Nat.le_trans hlo hS, ?_⟩) fun p hp hlt => World.cell?_of_block (w := w) (hg.block _ hlt fun e => ?_))
  · rcases hat with e | e
    · rw [e]; exact hS.2
    · rw [e]; intro e2; injection e2 with e2; omega
  · rcases hat with e | e
    · rw [e]; intro e2; have := hv _ e2; omega
    · rw [e]; intro e2; injection e2 with e2; omega
  · have := hv _ e.symm
    omega

set_option maxRecDepth 100000 in
set_option maxHeartbeats 6400000 in
theorem row_of_read {A : Option Addr} {c : Nat} {raw : List Nat} (w : World) (h : Rd .u8 w A c raw) (hd : Ds 256 raw) (hl : raw.length ≤ 16777216) (d : Nat)
    (hread : ∀ (A : Option Addr) (c : Nat) (u : List Nat) (w : World), u.length ≤ raw.length → Rd .u8 w A c u → Ds 256 u → Calls Try.prog 61 #[.slice A u.length c, .int .i64 (d : Int)] w (ReadQ A u d w)) :
    Calls Try.prog 85 #[.slice A raw.length c, .int .i64 (d : Int)] w (RowQ raw d w) := by
  obtain ⟨i0, hi, hz0, hz1, hz2⟩ : ∃ i, Try.prog.info? 56 = some i ∧ i.zero = some (.agg #[.bool false, .slice none 0 0, .slice none 0 0]) ∧ i.size = 3 ∧ i.bytes = 56 := by
    obtain ⟨i, hi, he⟩ := Option.map_eq_some_iff.1 infoIt
    injection he with h1 h2
    injection h2 with h2 h3
    exact ⟨i, hi, h1, h2, h3⟩
  have HREAD := Lib.hid hread
  have HL := Lib.hid hl
  have H0 : Hid (Byt w (.slice A raw.length c) raw) := ⟨A, c, rfl, h, hd⟩
  obtain ⟨L, hL⟩ : ∃ L, L = raw.length := ⟨_, rfl⟩
  have HLL := Lib.hid hL
  rw [← hL] at H0 ⊢
  clear h hd hl hread hL
  go_enter Try.func85, Try.ntmps85
  go_upto_region 2 with (fail)
  go_loopw [0, 6] (fun r l wr => ∃ (rest : List Nat) (xs : List Itm) (us : List Value), Hid (Byt wr r rest ∧ r.ownBlock = (Value.slice A 0 0).ownBlock) ∧ Hid (AccI wr w.heap.size l us xs ∧ Kids wr w.heap.size us xs.length) ∧ Hid (Below w.heap.size w wr) ∧ Hid (xs.length + rest.length ≤ raw.length) ∧ Hid (∀ o, RowR rest d o → RowR raw d (preR xs o)))
    (fun r _ _ => lenOfV r)
  case atStart => exact ⟨raw, [], [], ⟨H0.out, own_slice _ _ _ _ _⟩, ⟨AccI.nil _ _, fun j hj => absurd hj (by simp)⟩, Below.refl _ _, by show _ ≤ _; simp, fun o ho => by cases o <;> exact ho⟩
  case round =>
    obtain ⟨rest, xs, us, hbyt, hacc9, hbel, hlen, hinv⟩ := hrel
    have hacc := Lib.hid hacc9.out.1
    have hkid := Lib.hid hacc9.out.2
    clear hacc9
    obtain ⟨⟨A1, c1, rfl, hA1, dA1⟩, hown⟩ := hbyt.out
    obtain ⟨B, cc, rfl⟩ := hacc.out.form
    by_cases hr0 : rest.length = 0
    · have e : rest = [] := List.eq_nil_of_length_eq_zero hr0
      subst e
      have HQ : Hid (RowQ raw d w (.returned (.tuple #[.slice B xs.length cc, .int .i64 0])) wr) :=
        ⟨hbel.out, .ok xs, by have := hinv.out _ (RowR.nil); simpa [preR] using this, _, _, _, _, rfl, hacc.out, hkid.out⟩
      clear hbyt hacc hkid hbel hlen hinv hA1 dA1 hr0 hown
      go_wp2_with fail
      go_ret2
      exact HQ.out
    · have C1 := Lib.hid (HREAD.out A1 c1 rest wr (by have := hlen.out; omega) hA1 dA1)
      obtain ⟨K, hK⟩ : ∃ K, K = rest.length := ⟨_, rfl⟩
      have k1 : (0 : Int) < (K : Int) := by omega
      have HK := Lib.hid hK
      obtain ⟨X, hX⟩ : ∃ X, X = xs.length := ⟨_, rfl⟩
      have HX := Lib.hid hX
      rw [← hK] at C1 ⊢
      rw [← hX]
      have HR0 := Lib.hid hr0
      clear hA1 dA1 hK hX hr0
      go_wp2_with fail
      (with_reducible refine C1.out.mono ?_)
      rintro e w2 ⟨hb2, o, ho, hm⟩
      have HO := Lib.hid ho
      have HB2 := Lib.hid (hbel.out.trans (hb2.mono hbel.out.size))
      clear ho C1
      rcases o with k | ⟨x, r⟩
      · obtain ⟨l1, a1, n1, c2, b1, m1, cp1, vr, rfl, hk⟩ := hm
        have hk1 : ¬ (k : Int) = 0 := by omega
        have hk2 : ((k : Int) != 0) = true := by simpa using hk1
        have HQ : Hid (∀ w', Below w.heap.size w w' → RowQ raw d w (.returned (.tuple #[.slice none 0 0, .int .i64 (k : Nat)])) w') := fun w' hb' =>
          ⟨hb', .error k, hinv.out _ (.here (by have := HR0.out; omega) HO.out), rfl, hk⟩
        have HB3 := Lib.hid (HB2.out.alloc HB2.out.size (.cells #[.bool l1, .slice a1 n1 c2, .slice b1 m1 cp1] 56))
        clear hbyt hacc hkid hbel hlen hinv hb2 hk hown
        go_wp2_with fail
        go_ret2
        exact HQ.out _ HB3.out
      · obtain ⟨vx, vr, rfl, hx, hr, hor, htop⟩ := hm
        obtain ⟨l1, a1, n1, c2, b1, m1, cp1, rfl⟩ := hx.parts
        have h13 := hread_len HO.out
        have hxl : X ≤ 16777216 := by have := hlen.out; have := HL.out; have := HX.out; omega
        have hbel2 : w.heap.size ≤ wr.heap.size := hbel.out.size
        have hb3 := ((Below.refl w2.heap.size w2).alloc (Nat.le_refl _) (.cells #[.bool l1, .slice a1 n1 c2, .slice b1 m1 cp1] 56)).alloc (by simp) (.cells #[.bool l1, .slice a1 n1 c2, .slice b1 m1 cp1] 56)
        have hsz : ((w2.alloc (.cells #[.bool l1, .slice a1 n1 c2, .slice b1 m1 cp1] 56)).alloc (.cells #[.bool l1, .slice a1 n1 c2, .slice b1 m1 cp1] 56)).heap.size = w2.heap.size + 2 := by simp
        have hacc3 := (hacc.out.below hb2).below hb3
        rw [← HX.out] at hacc3
        have HA := Lib.hid hacc3
        have HXI := Lib.hid (hx.keep hb3)
        have HTP := Lib.hid (htop.below hb3)
        have HKD := Lib.hid ((hkid.out.move fun k _ hlt => hb2.block k hlt).move fun k _ hlt => hb3.block k hlt)
        have HKO : Hid (∀ j k, j < xs.length → (us.getD (3 * j + 1) undef).ownBlock = some k → k < wr.heap.size) := fun j k hj hk => by
          obtain ⟨bs, h1, _⟩ := hkid.out j hj
          exact (World.ownsRow.lt h1 k hk).2
        have HUL : Hid (us.length = 3 * xs.length) := by have := hacc.out.1.1; show _ = _; omega
        have HIB : Hid (∀ g, (Value.slice B X cc).ownBlock = some g → ∃ cs, ((w2.alloc (.cells #[.bool l1, .slice a1 n1 c2, .slice b1 m1 cp1] 56)).alloc (.cells #[.bool l1, .slice a1 n1 c2, .slice b1 m1 cp1] 56)).heap[g]? = some (.cells cs 56 (0, 0))) := fun g hg => by
          rcases hacc3.1.2 with ⟨e, _⟩ | ⟨g', cap', cur, e, _, hg', _⟩
          · rw [e] at hg; cases hg
          · rw [e] at hg
            injection hg with hg
            subst hg
            exact ⟨cur, hg'⟩
        have HRB := Lib.hid (hr.below hb3)
        have HB3 := Lib.hid ((HB2.out.alloc HB2.out.size (.cells #[.bool l1, .slice a1 n1 c2, .slice b1 m1 cp1] 56)).alloc (by simp; have := HB2.out.size; omega) (.cells #[.bool l1, .slice a1 n1 c2, .slice b1 m1 cp1] 56))
        have HN : Hid (∀ j u, ([.bool l1, .slice a1 n1 c2, .slice b1 m1 cp1] : List Value)[j]? = some u → ((w2.alloc (.cells #[.bool l1, .slice a1 n1 c2, .slice b1 m1 cp1] 56)).alloc (.cells #[.bool l1, .slice a1 n1 c2, .slice b1 m1 cp1] 56)).cell? ((⟨w2.heap.size + 1, 0, none⟩ : Addr).add j) = some u) := by
          intro j u hj
          have := item_new (w := w2.alloc (.cells #[.bool l1, .slice a1 n1 c2, .slice b1 m1 cp1] 56)) (t := 56) j u hj
          simpa using this
        have HOW : Hid (∀ k, (Value.slice B xs.length cc).ownBlock = some k → w.heap.size ≤ k ∧ k < wr.heap.size) := hacc.out.1.lt
        rw [← HX.out] at HOW
        have HS := Lib.hid hb2.size
        have HSZ := Lib.hid hsz
        have HV : Hid (vr.ownBlock = (Value.slice A 0 0).ownBlock) := hor.trans ((own_slice A1 _ _ _ _).symm.trans hown)
        have HRL : Hid (X + r.length + 1 ≤ raw.length) := by have := hlen.out; have := HX.out; show _ ≤ _; omega
        have HSB := Lib.hid HB2.out.size
        obtain ⟨A2, c3, rfl, hA2, dA2⟩ := hr
        have hA0 : ∀ k, (Value.slice A 0 0).ownBlock = some k → k < w.heap.size := fun k hk => by
          obtain ⟨A0, c0, e, hrd, _⟩ := H0.out
          injection e with e1 e2 e3
          obtain ⟨b, o, e4, hb, _⟩ := hrd.at_ (by have := HRL.out; omega)
          rw [e1, e4] at hk
          simp [Value.ownBlock] at hk
          omega
        have HA0 := Lib.hid hA0
        clear hbyt hacc hkid htop hbel hb2 hb3 hacc3 hx hsz hA2 dA2 hor hown hA0 HB2 h13
        go_wp2_with (at_builtin; refine wpList_append_own_at _ rfl (.tmp 23) (.tmp 25) 54 rfl w.heap.size 56 i0 (.agg #[.bool false, .slice none 0 0, .slice none 0 0]) 3 56 Try.underlying54 hi hz0 hz1 hz2 rfl (by decide) (.slice B X cc) X us rfl (by rw [HX.out]; have := HA.out.1; rwa [HX.out] at this) ⟨w2.heap.size + 1, 0, none⟩ 1 1 [.bool l1, .slice a1 n1 c2, .slice b1 m1 cp1] rfl rfl HN.out (by intro u hu; simp at hu; rcases hu with rfl | rfl | rfl <;> rfl) (by unfold maxLen; omega) (by omega) (by rw [HSZ.out]; have := HSB.out; omega) ?_)
        intro v' w3 hown hg _ hat
        have hnew := HA.out.grow (lo := wr.heap.size) hbel2 (fun k hk => (HOW.out k hk).2) HXI.out (by rw [← HX.out]; exact hown) hg (by rw [HSZ.out]; exact hat)
        have hkn := HKD.out.grow (lo := wr.heap.size) hbel2 HUL.out HKO.out HTP.out HIB.out hg
        have hown2 : ∀ k, (Value.slice B X cc).ownBlock = some k → w.heap.size ≤ k := fun k hk => (HOW.out k hk).1
        have hbyt := byt_grown HRB.out hg (fun k hk e => by
          have h1 := hown2 k hk
          have h2 := HA0.out k (HV.out.symm.trans e)
          omega)
        have hbel := HB3.out.grown hg (by rw [HSZ.out]; have := HSB.out; omega) hown2
        have N1 : Hid (_ ∧ Kids w3 w.heap.size _ (xs ++ [x]).length) := ⟨hnew, by rw [List.length_append, List.length_singleton]; exact hkn⟩
        have N2 := Lib.hid hbyt
        have N3 := Lib.hid hbel
        clear hnew hkn hbyt hbel hg hat hown hown2
        go_wp2_with fail
        refine ⟨⟨r, xs ++ [x], _, ⟨N2.out, HV.out⟩, N1.out, N3.out, ?_, fun o ho => ?_⟩, ?_⟩
        · show _ ≤ _
          rw [List.length_append, List.length_singleton]; have := HRL.out; have := HX.out; omega
        · have h0 : 0 < rest.length := by have := HR0.out; omega
          have h1 : RowR rest d (preR [x] o) := by
            cases o with
            | ok l => exact .cons h0 HO.out ho
            | error k => exact .behind h0 HO.out ho
          have h2 := hinv.out _ h1
          cases o with
          | ok l => simpa [preR] using h2
          | error k => exact h2
        · show r.length < K
          have := hread_len HO.out; have := HK.out; omega

/-- read and readRow, of any bytes. -/
theorem read_row (N : Nat) (hN : N ≤ 16777216) : (∀ (d : Nat), d ≤ 1024 → ∀ (A : Option Addr) (c : Nat) (u : List Nat) (w : World), u.length ≤ N → Rd .u8 w A c u → Ds 256 u → Calls Try.prog 61 #[.slice A u.length c, .int .i64 (d : Int)] w (ReadQ A u d w)) ∧
    (∀ (d : Nat), d ≤ 1024 → ∀ (A : Option Addr) (c : Nat) (u : List Nat) (w : World), u.length ≤ N → Rd .u8 w A c u → Ds 256 u → Calls Try.prog 85 #[.slice A u.length c, .int .i64 (d : Int)] w (RowQ u d w)) := by
  induction N with
  | zero =>
    have h1 : ∀ (d : Nat), d ≤ 1024 → ∀ (A : Option Addr) (c : Nat) (u : List Nat) (w : World), u.length ≤ 0 → Rd .u8 w A c u → Ds 256 u → Calls Try.prog 61 #[.slice A u.length c, .int .i64 (d : Int)] w (ReadQ A u d w) :=
      fun d hd A c u w hu h hds => read_of_row w h hds (by omega) d hd (fun _ _ _ _ _ hlt => absurd hlt (by omega))
    exact ⟨h1, fun d hd A c u w hu h hds => row_of_read w h hds (by omega) d (fun A c v w hv h hds => h1 d hd A c v w (by omega) h hds)⟩
  | succ N ih =>
    obtain ⟨i1, i2⟩ := ih (by omega)
    have h1 : ∀ (d : Nat), d ≤ 1024 → ∀ (A : Option Addr) (c : Nat) (u : List Nat) (w : World), u.length ≤ N + 1 → Rd .u8 w A c u → Ds 256 u → Calls Try.prog 61 #[.slice A u.length c, .int .i64 (d : Int)] w (ReadQ A u d w) :=
      fun d hd A c u w hu h hds => by
        refine read_of_row w h hds (by omega) d hd (fun hne A' c' v w' hlt h' hds' => i2 (d + 1) (by omega) A' c' v w' (by omega) h' hds')
    exact ⟨h1, fun d hd A c u w hu h hds => row_of_read w h hds (by omega) d (fun A c v w hv h hds => h1 d hd A c v w (by omega) h hds)⟩

/-- What Decode tells: the item and the error. -/
def decR : Except Nat (Itm × List Nat) → Itm × Nat
  | .error k => (.text [], k)
  | .ok (x, r) => if r.length = 0 then (x, 0) else (.text [], 2)
theorem item0 (S : Nat → Prop) (w : World) : IAt S w (.agg #[.bool false, .slice none 0 0, .slice none 0 0]) (.text []) :=
  .mk false none 0 none 0 0 0 (fun _ => undef) [] [] (Rd.nil _) Ds.nil (fun h => absurd h (by simp)) (fun h => absurd h (by simp)) (Nat.le_refl _) (fun _ => rfl) (fun j hj => absurd hj (by simp)) (fun j x hj => by simp at hj)
set_option maxRecDepth 100000 in
set_option maxHeartbeats 6400000 in
theorem decode_o {A : Option Addr} {c : Nat} {raw : List Nat} (w : World) (h : Rd .u8 w A c raw) (hd : Ds 256 raw) (hl : raw.length ≤ 16777216) :
    Calls Try.prog 28 #[.slice A raw.length c] w fun e w' => Below w.heap.size w w' ∧ ∃ o vx, ReadR raw 0 o ∧ e = .returned (.tuple #[vx, .int .i64 ((decR o).2 : Nat)]) ∧ IAt (fun b => w.heap.size ≤ b) w' vx (decR o).1 ∧ Top w' w.heap.size vx := by
  have hg0 := heap_alloc_new w (.cells #[.bool false, .slice none 0 0, .slice none 0 0] 56)
  have HX : Hid ((w.alloc (.cells #[.bool false, .slice none 0 0, .slice none 0 0] 56)).heap.size = w.heap.size + 1) := by show _ = _; simp
  have c1 : Calls Try.prog 61 #[.slice A raw.length c, .int .i64 0] (w.alloc (.cells #[.bool false, .slice none 0 0, .slice none 0 0] 56)) (ReadQ A raw 0 (w.alloc (.cells #[.bool false, .slice none 0 0, .slice none 0 0] 56))) :=
    (read_row raw.length hl).1 0 (by omega) A c raw _ (Nat.le_refl _) (h.alloc _) hd
  have C1 := Lib.hid c1
  have HB0 : Hid (Below w.heap.size w (w.alloc (.cells #[.bool false, .slice none 0 0, .slice none 0 0] 56))) := (Below.refl _ _).alloc (Nat.le_refl _) _
  have HG := Lib.hid hg0
  obtain ⟨L, hL⟩ : ∃ L, L = raw.length := ⟨_, rfl⟩
  rw [← hL] at C1 ⊢
  clear h hd hl hg0 c1 hL
  go_enter Try.func28, Try.ntmps28
  go_wp2_with fail
  (with_reducible refine C1.out.mono ?_)
  rintro e w1 ⟨hb, o, ho, hm⟩
  have hg1 := (hb.block w.heap.size (by rw [HX.out]; omega)).trans HG.out
  have HB1 := Lib.hid (HB0.out.trans (hb.mono (by rw [HX.out]; omega)))
  have hw1 : w.heap.size + 1 ≤ w1.heap.size := by have := hb.size; rw [HX.out] at this; exact this
  have HO := Lib.hid ho
  clear HB0 HG C1 hb ho
  rcases o with k | ⟨x, r⟩
  · obtain ⟨l1, a1, n1, c2, b1, m1, cp1, vr, rfl, hk⟩ := hm
    have hg2 := (Below.heap_alloc w1 (.cells #[.bool l1, .slice a1 n1 c2, .slice b1 m1 cp1] 56) w.heap.size (by omega)).trans hg1
    obtain ⟨x0, x1, x2, y0, y1, y2⟩ := three_cells hg2
    have HG2 := Lib.hid hg2
    have HB2 := Lib.hid (HB1.out.alloc HB1.out.size (.cells #[.bool l1, .slice a1 n1 c2, .slice b1 m1 cp1] 56))
    have hk2 : ((k : Int) != 0) = true := by simp; omega
    clear hg1 hg2 hk
    go_wp2_with fail
    refine bodyPost_ret (results_item1 Try.results28 _ _ w.heap.size _ _ _ rfl (item_set HG2.out _ _ _)) rfl ⟨below_item HB2.out (Nat.le_refl _) _ _ _, .error k, _, HO.out, rfl, item0 _ _, Top.item0 _ _⟩
  · obtain ⟨vx, vr, rfl, hx, hr, -, htop⟩ := hm
    obtain ⟨l1, a1, n1, c2, b1, m1, cp1, rfl⟩ := hx.parts
    obtain ⟨A2, c3, rfl, hA2, dA2⟩ := hr
    have hg2 := (Below.heap_alloc w1 (.cells #[.bool l1, .slice a1 n1 c2, .slice b1 m1 cp1] 56) w.heap.size (by omega)).trans hg1
    have hn2 := heap_alloc_new w1 (.cells #[.bool l1, .slice a1 n1 c2, .slice b1 m1 cp1] 56)
    have HG2 := Lib.hid hg2
    have HB2 := Lib.hid (HB1.out.alloc HB1.out.size (.cells #[.bool l1, .slice a1 n1 c2, .slice b1 m1 cp1] 56))
    have HI := Lib.hid (hx.keep ((Below.refl w1.heap.size w1).alloc (Nat.le_refl _) (.cells #[.bool l1, .slice a1 n1 c2, .slice b1 m1 cp1] 56)))
    have HTP := Lib.hid (htop.below ((Below.refl w1.heap.size w1).alloc (Nat.le_refl _) (.cells #[.bool l1, .slice a1 n1 c2, .slice b1 m1 cp1] 56)))
    clear htop
    by_cases hr0 : r.length = 0
    · have hr1 : ¬ (0 : Int) < (r.length : Int) := by omega
      have hr2 : ¬ 0 < r.length := by omega
      have HD : Hid (decR (.ok (x, r)) = (x, 0)) := if_pos hr0
      obtain ⟨K, hK⟩ : ∃ K, K = r.length := ⟨_, rfl⟩
      rw [← hK] at hr1 hr2 ⊢
      obtain ⟨x0, x1, x2, y0, y1, y2⟩ := three_cells hg2
      obtain ⟨z0, z1, z2, -, -, -⟩ := three_cells hn2
      have HW := Lib.hid hw1
      clear hg1 hg2 hr0 hx hA2 dA2 hK hn2
      go_wp2_with fail
      refine bodyPost_ret (results_item1 Try.results28 _ _ w.heap.size _ _ _ rfl (item_set HG2.out _ _ _)) rfl ⟨below_item HB2.out (Nat.le_refl _) _ _ _, .ok (x, r), _, HO.out, by rw [HD.out]; rfl, ?_⟩
      rw [HD.out]
      refine ⟨HI.out.move (by simp) (fun b _ h => by have := HX.out; omega) (fun p hp hlt => below_cell_item (by have := HX.out; omega)), ?_⟩
      have hne : ∀ k, (w.alloc (.cells #[.bool false, .slice none 0 0, .slice none 0 0] 56)).heap.size ≤ k → k ≠ w.heap.size := fun k hk => by have := HX.out; omega
      exact (HTP.out.move fun k hk _ => (Below.heap_setCell _ _ _ _ (hne k hk)).trans ((Below.heap_setCell _ _ _ _ (hne k hk)).trans (Below.heap_setCell _ _ _ _ (hne k hk)))).mono (by have := HX.out; omega)
    · have hr1 : (0 : Int) < (r.length : Int) := by omega
      have hr2 : 0 < r.length := by omega
      have HD : Hid (decR (.ok (x, r)) = (.text [], 2)) := if_neg hr0
      obtain ⟨K, hK⟩ : ∃ K, K = r.length := ⟨_, rfl⟩
      rw [← hK] at hr1 hr2 ⊢
      obtain ⟨x0, x1, x2, y0, y1, y2⟩ := three_cells hg2
      clear hg1 hg2 hr0 hx hA2 dA2 hK hn2
      go_wp2_with fail
      refine bodyPost_ret (results_item1 Try.results28 _ _ w.heap.size _ _ _ rfl (item_set HG2.out _ _ _)) rfl ⟨below_item HB2.out (Nat.le_refl _) _ _ _, .ok (x, r), _, HO.out, by rw [HD.out]; rfl, ?_⟩
      rw [HD.out]
      exact ⟨item0 _ _, Top.item0 _ _⟩
theorem decode_c {A : Option Addr} {c : Nat} {raw : List Nat} (w : World) (h : Rd .u8 w A c raw) (hd : Ds 256 raw) (hl : raw.length ≤ 16777216) :
    Calls Try.prog 28 #[.slice A raw.length c] w fun e w' => Below w.heap.size w w' ∧ ∃ o vx, ReadR raw 0 o ∧ e = .returned (.tuple #[vx, .int .i64 ((decR o).2 : Nat)]) ∧ IAt (fun b => w.heap.size ≤ b) w' vx (decR o).1 :=
  (decode_o w h hd hl).mono fun _ _ ⟨h1, o, vx, h2, h3, h4, _⟩ => ⟨h1, o, vx, h2, h3, h4⟩
end Go.Proofs.Ytgjiealcjaojaaa
