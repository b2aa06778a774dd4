/- The contract of the law HexaReads. -/
import Derived.Test.YtpeebcgeefjpbaaHRef5
import Derived.Test.YtpeebcgeefjpbaaHRef4
import Derived.Test.YtpeebcgeefjpbaaHWakes
import Derived.Test.YtpeebcgeefjpbaaHSame
namespace Go.Proofs.Ytpeebcgeefjpbaa
open Go.RowKit

theorem rnumber_h (s : ByteArray) (w : World) (hs : s.size ≤ 1073741824) : Calls Try.prog 10 #[.string s] w fun e w' =>
    e = .returned (.tuple #[W (nres s).1, .agg #[.int .i64 ((nres s).2.1 : Nat), .int .i64 ((nres s).2.2 : Nat)]]) ∧ Below w.heap.size w w' := by
  obtain ⟨h1, h2, h3⟩ := num_same s
  have h := rnumber_c s w hs
  rw [h1, h2, h3] at h
  exact h
theorem bres_ds (s : ByteArray) : Ds 256 (bres s).1 := by
  rw [← (bytes_same s).1]
  unfold rres rresQ
  split
  · exact fun x hx => by cases hx
  · split
    · exact fun x hx => by cases hx
    · exact pb_ds _ (rscan_ds _ _ _ fun x hx => by cases hx)

set_option maxRecDepth 100000 in
theorem eqIn8 {T : TypeId} {N : Nat} (hU : Try.prog.underlying T = some (.array N 5)) (bs : List Nat) (hl : bs.length = N) (w : World) : (Op.equalIn 10000 T (BV bs) (BV bs)).run Try.prog w = .ok true w := by
  obtain ⟨i, hi⟩ : ∃ i, Try.prog.info? 5 = some i := Option.isSome_iff_exists.1 (by kernel_rfl)
  have hc : Try.prog.cellsOf 5 = 1 := by kernel_rfl
  unfold BV
  rw [run_equalIn_array w 9999 _ _ hU hi, hc]
  have hp : ∀ j, j < N → (part 5 (Cs8 bs) (j * 1)).run Try.prog w = .ok (.int .u8 (bs.getD j 0 : Nat)) w := fun j hj => by
    have ha : (isAgg 5).run Try.prog w = .ok false w := by kernel_rfl
    unfold part
    rw [Sem.run_bind, ha]
    simp [hj, hl]
  have he : ∀ x : Nat, (Op.equalIn 9999 5 (.int .u8 (x : Nat)) (.int .u8 (x : Nat))).run Try.prog w = .ok true w := fun x => by
    rw [run_equalIn_int w 9998 _ _ _ _ _ Try.underlying5]
    simp
  have key : ∀ is : List Nat, (∀ j ∈ is, j < N) → (Op.eqItems 9999 5 1 (Cs8 bs) (Cs8 bs) is).run Try.prog w = .ok true w := by
    intro is
    induction is with
    | nil => intro _; simp [Op.eqItems]
    | cons j is ih =>
      intro h
      simp only [Op.eqItems, Sem.run_bind, hp j (h j (by simp)), he, Result.andThen_ok]
      exact ih fun k hk => h k (by simp [hk])
  exact key _ fun j hj => by simpa using hj

/-- Two blocks of one Fault each, kept through a law's calls. -/
structure HSt (w X : World) (g h : Nat) (u v u' v' : Nat) : Prop where
  f : X.heap[g]? = some (.cells #[.int .i64 u, .int .i64 v] 25 (0, 0))
  k : X.heap[h]? = some (.cells #[.int .i64 u', .int .i64 v'] 25 (0, 0))
  b : Below w.heap.size w X
  n : w.heap.size ≤ g ∧ w.heap.size ≤ h ∧ g < h
theorem heap_lt {w : World} {g : Nat} {o : Obj} (h : w.heap[g]? = some o) : g < w.heap.size := (Array.getElem?_eq_some_iff.1 h).1
section
variable {w X Y : World} {g h u v u' v' : Nat}
theorem HSt.call (s : HSt w X g h u v u' v') (hb : Below X.heap.size X Y) : HSt w Y g h u v u' v' :=
  ⟨(hb.block g (heap_lt s.f)).trans s.f, (hb.block h (heap_lt s.k)).trans s.k, s.b.trans (hb.mono s.b.size), s.n⟩
theorem HSt.alloc (s : HSt w X g h u v u' v') (o : Obj) : HSt w (X.alloc o) g h u v u' v' := s.call ((Below.refl _ _).alloc (Nat.le_refl _) o)
theorem fault_set {w : World} {g : Nat} {u v : Value} {t : TypeId} (h : w.heap[g]? = some (.cells #[u, v] t (0, 0))) (x y : Value) : ((w.setCell ⟨g, 0, none⟩ x).setCell ⟨g, 1, none⟩ y).heap[g]? = some (.cells #[x, y] t (0, 0)) := by
  have a := heap_setCell_same w g 0 _ t x h
  have b := heap_setCell_same _ g 1 _ t y a
  simpa using b
theorem fault_other {w : World} {g k : Nat} (h : k ≠ g) (x y : Value) : ((w.setCell ⟨g, 0, none⟩ x).setCell ⟨g, 1, none⟩ y).heap[k]? = w.heap[k]? :=
  (Below.heap_setCell _ _ _ k h).trans (Below.heap_setCell _ _ _ k h)
theorem HSt.set4 (s : HSt w X g h u v u' v') (x y : Nat) : HSt w ((X.setCell ⟨g, 0, none⟩ (.int .i64 x)).setCell ⟨g, 1, none⟩ (.int .i64 y)) g h x y u' v' :=
  ⟨fault_set s.f _ _, (fault_other (by have := s.n; omega) _ _).trans s.k, (s.b.setCell s.n.1 _).setCell s.n.1 _, s.n⟩
theorem HSt.set6 (s : HSt w X g h u v u' v') (x y : Nat) : HSt w ((X.setCell ⟨h, 0, none⟩ (.int .i64 x)).setCell ⟨h, 1, none⟩ (.int .i64 y)) g h u v x y :=
  ⟨(fault_other (by have := s.n; omega) _ _).trans s.f, fault_set s.k _ _, (s.b.setCell s.n.2.1 _).setCell s.n.2.1 _, s.n⟩
theorem HSt.row (s : HSt w X g h u v u' v') {k : Nat} (hk : h < k) (cs : Array Value) : HSt w (X.setRow k cs) g h u v u' v' :=
  ⟨(setRow_other _ _ _ _ (by have := s.n; omega)).trans s.f, (setRow_other _ _ _ _ (by omega)).trans s.k, below_setRow s.b (by have := s.n; omega) cs, s.n⟩
/-- A block beside the two. -/
def HBy (X : World) (h k : Nat) (o : Obj) : Prop := h < k ∧ X.heap[k]? = some o
theorem HBy.call {k : Nat} {o : Obj} (s : HBy X h k o) (hb : Below X.heap.size X Y) : HBy Y h k o := ⟨s.1, (hb.block k (heap_lt s.2)).trans s.2⟩
theorem HBy.alloc {k : Nat} {o : Obj} (s : HBy X h k o) (p : Obj) : HBy (X.alloc p) h k o := s.call ((Below.refl _ _).alloc (Nat.le_refl _) p)
theorem HBy.set {k m : Nat} {o : Obj} (s : HBy X h k o) (hm : m ≤ h) (x y : Value) : HBy ((X.setCell ⟨m, 0, none⟩ x).setCell ⟨m, 1, none⟩ y) h k o := ⟨s.1, (fault_other (by have := s.1; omega) _ _).trans s.2⟩
theorem HBy.row {k m : Nat} {o : Obj} (s : HBy X h k o) (hm : k < m) (cs : Array Value) : HBy (X.setRow m cs) h k o := ⟨s.1, (setRow_other _ _ _ _ (by omega)).trans s.2⟩
theorem HBy.new (hh : h < X.heap.size) (o : Obj) : HBy (X.alloc o) h X.heap.size o := ⟨hh, heap_alloc_new _ _⟩
end
theorem four_cells {w : World} {g : Nat} {u v x y : Value} {t : TypeId} (h : w.heap[g]? = some (.cells #[u, v, x, y] t (0, 0))) : w.cell? ⟨g, 0, none⟩ = some u ∧ w.cell? ⟨g, 1, none⟩ = some v ∧ w.cell? ⟨g, 2, none⟩ = some x ∧ w.cell? ⟨g, 3, none⟩ = some y := by
  refine ⟨?_, ?_, ?_, ?_⟩ <;> (rw [cell_of_row _ _ _ _ t (0, 0) h]; rfl)

set_option maxRecDepth 100000 in
set_option maxHeartbeats 6400000 in
theorem hexaReads_c (s : ByteArray) (w : World) (hs : s.size ≤ 1073741824) : Calls Try.prog 3 #[.string s] w (RetV (.bool true) w) := by
  have k1 := fun w => bytes_h s w hs
  have k2 := fun w => rbytes_h s w hs
  have k3 := fun w => number_h s w hs
  have k4 := fun w => rnumber_h s w hs
  have k5 := fun w => address_h s w hs
  have k6 := fun w => raddress_h s w hs
  have k7 := fun w => hash_h s w hs
  have k8 := fun w => rhash_h s w hs
  have hds := bres_ds s
  have hl20 := fbytes_len 20 s
  have hl32 := fbytes_len 32 s
  obtain ⟨xs, hxs⟩ : ∃ z, z = (bres s).1 := ⟨_, rfl⟩
  obtain ⟨b1, hb1⟩ : ∃ z, z = (bres s).2.1 := ⟨_, rfl⟩
  obtain ⟨b2, hb2⟩ : ∃ z, z = (bres s).2.2 := ⟨_, rfl⟩
  obtain ⟨n1, hn1⟩ : ∃ z, z = (nres s).2.1 := ⟨_, rfl⟩
  obtain ⟨n2, hn2⟩ : ∃ z, z = (nres s).2.2 := ⟨_, rfl⟩
  obtain ⟨nn, hnn⟩ : ∃ z, z = (nres s).1 := ⟨_, rfl⟩
  obtain ⟨a1, ha1⟩ : ∃ z, z = (fres 20 s).1 := ⟨_, rfl⟩
  obtain ⟨a2, ha2⟩ : ∃ z, z = (fres 20 s).2 := ⟨_, rfl⟩
  obtain ⟨Y, hY⟩ : ∃ z, z = fbytes 20 s := ⟨_, rfl⟩
  obtain ⟨c1, hc1⟩ : ∃ z, z = (fres 32 s).1 := ⟨_, rfl⟩
  obtain ⟨c2, hc2⟩ : ∃ z, z = (fres 32 s).2 := ⟨_, rfl⟩
  obtain ⟨Z, hZ⟩ : ∃ z, z = fbytes 32 s := ⟨_, rfl⟩
  rw [← hxs] at hds
  rw [← hY] at hl20
  rw [← hZ] at hl32
  simp only [← hxs, ← hb1, ← hb2] at k1 k2
  simp only [← hnn, ← hn1, ← hn2] at k3 k4
  simp only [← hY, ← ha1, ← ha2] at k5 k6
  simp only [← hZ, ← hc1, ← hc2] at k7 k8
  obtain ⟨l0, e0⟩ : ∃ z, z = lim 0 nn := ⟨_, rfl⟩
  obtain ⟨l1, e1⟩ : ∃ z, z = lim 1 nn := ⟨_, rfl⟩
  obtain ⟨l2, e2⟩ : ∃ z, z = lim 2 nn := ⟨_, rfl⟩
  obtain ⟨l3, e3⟩ : ∃ z, z = lim 3 nn := ⟨_, rfl⟩
  unfold W W4 at k3 k4
  simp only [← e0, ← e1, ← e2, ← e3] at k3 k4
  have K1 := Lib.hid k1
  have K2 := Lib.hid k2
  have K3 := Lib.hid k3
  have K4 := Lib.hid k4
  have K5 := Lib.hid k5
  have K6 := Lib.hid k6
  have K7 := Lib.hid k7
  have K8 := Lib.hid k8
  have HDS := Lib.hid hds
  have HL20 := Lib.hid hl20
  have HL32 := Lib.hid hl32
  clear k1 k2 k3 k4 k5 k6 k7 k8 hds hl20 hl32 hxs hb1 hb2 hn1 hn2 hnn ha1 ha2 hY hc1 hc2 hZ e0 e1 e2 e3
  go_enter Try.func3, Try.ntmps3
  go_wp2_with fail
  (with_reducible refine (K1.out _).mono ?_)
  rintro e w1 ⟨v, rfl, hacc, hB1⟩
  obtain ⟨A, c, rfl⟩ := hacc.form
  obtain ⟨L, hL⟩ : ∃ L, L = xs.length := ⟨_, rfl⟩
  rw [← hL]
  have hby := hacc.byt HDS.out
  rw [← hL] at hby
  have BY1 := Lib.hid hby
  have HB1 := Lib.hid hB1
  have HLL := Lib.hid hL
  clear hby hB1 hacc hL K1
  have f1 := heap_alloc_new w1 (.cells #[.int .i64 (b1 : Nat), .int .i64 (b2 : Nat)] 25)
  have F1 := Lib.hid f1
  have hX1 : (w1.alloc (.cells #[.int .i64 (b1 : Nat), .int .i64 (b2 : Nat)] 25)).heap.size = w1.heap.size + 1 := by simp
  have hsw : w.heap.size ≤ w1.heap.size := HB1.out.size
  have BY2 := Lib.hid (BY1.out.below ((Below.refl w1.heap.size w1).alloc (Nat.le_refl _) (.cells #[.int .i64 (b1 : Nat), .int .i64 (b2 : Nat)] 25)))
  have HB2 := Lib.hid (HB1.out.alloc hsw (.cells #[.int .i64 (b1 : Nat), .int .i64 (b2 : Nat)] 25))
  have HS1 := Lib.hid hX1
  clear f1 hX1 BY1 HB1
  go_wp2_with fail
  (with_reducible refine (K2.out _).mono ?_)
  rintro e w2 ⟨v, rfl, hacc, hB3⟩
  obtain ⟨A2, c2', rfl⟩ := hacc.form
  rw [← HLL.out]
  have hby := hacc.byt HDS.out
  rw [← HLL.out] at hby
  have BY3 := Lib.hid hby
  have BY4 := Lib.hid (BY2.out.below hB3)
  have F2 := Lib.hid ((hB3.block w1.heap.size (by rw [HS1.out]; omega)).trans F1.out)
  have hs2 : w1.heap.size + 1 ≤ w2.heap.size := by have := hB3.size; rw [HS1.out] at this; exact this
  have HB3 := Lib.hid (HB2.out.trans (hB3.mono (by rw [HS1.out]; omega)))
  clear hby hacc hB3 K2 F1 BY2 HB2 HS1
  have f2 := heap_alloc_new w2 (.cells #[.int .i64 (b1 : Nat), .int .i64 (b2 : Nat)] 25)
  have f1 := (Below.heap_alloc w2 (.cells #[.int .i64 (b1 : Nat), .int .i64 (b2 : Nat)] 25) w1.heap.size (by omega)).trans F2.out
  have hxx := (Below.refl w2.heap.size w2).alloc (Nat.le_refl _) (.cells #[.int .i64 (b1 : Nat), .int .i64 (b2 : Nat)] 25)
  have s1 := run_sOf (BY3.out.below hxx)
  have s2 := run_sOf (BY4.out.below hxx)
  obtain ⟨x0, x1, -, -⟩ := two_cells f1
  obtain ⟨y0, y1, -, -⟩ := two_cells f2
  have ST : Hid (HSt w (w2.alloc (.cells #[.int .i64 (b1 : Nat), .int .i64 (b2 : Nat)] 25)) w1.heap.size w2.heap.size b1 b2 b1 b2) := ⟨f1, f2, HB3.out.alloc (by omega) _, hsw, by omega, by omega⟩
  clear f1 f2 hxx BY3 BY4 F2 HB3 HDS HLL hsw hs2
  go_wp2_with fail
  (with_reducible refine (K3.out _).mono ?_)
  rintro e w3 ⟨rfl, hB⟩
  have ST := Lib.hid (ST.out.call hB)
  have W7 := Lib.hid (HBy.new (X := w3) (heap_lt ST.out.k) (.cells #[.int .u64 (l0 : Nat), .int .u64 (l1 : Nat), .int .u64 (l2 : Nat), .int .u64 (l3 : Nat)] 30))
  have ST := Lib.hid (ST.out.alloc (.cells #[.int .u64 (l0 : Nat), .int .u64 (l1 : Nat), .int .u64 (l2 : Nat), .int .u64 (l3 : Nat)] 30))
  obtain ⟨g7, hg7⟩ : ∃ g, g = w3.heap.size := ⟨_, rfl⟩
  clear hB K3 s1 s2 x0 x1 y0 y1
  obtain ⟨x0, x1, x2, x3⟩ := two_cells ST.out.f
  go_wp2_with fail
  rename_i KK hKK
  have ST := Lib.hid (ST.out.set4 n1 n2)
  have W7 := Lib.hid (W7.out.set (m := w1.heap.size) (by have := ST.out.n; omega) (.int .i64 n1) (.int .i64 n2))
  clear x0 x1 x2 x3
  (with_reducible refine (K4.out _).mono ?_)
  rintro e w4 ⟨rfl, hB⟩
  have ST := Lib.hid (ST.out.call hB)
  have W7 := Lib.hid (W7.out.call hB)
  have W8 := Lib.hid (HBy.new (X := w4) (heap_lt ST.out.k) (.cells #[.int .u64 (l0 : Nat), .int .u64 (l1 : Nat), .int .u64 (l2 : Nat), .int .u64 (l3 : Nat)] 30))
  have ST := Lib.hid (ST.out.alloc (.cells #[.int .u64 (l0 : Nat), .int .u64 (l1 : Nat), .int .u64 (l2 : Nat), .int .u64 (l3 : Nat)] 30))
  have W7 := Lib.hid (W7.out.alloc (.cells #[.int .u64 (l0 : Nat), .int .u64 (l1 : Nat), .int .u64 (l2 : Nat), .int .u64 (l3 : Nat)] 30))
  obtain ⟨x0, x1, x2, x3⟩ := two_cells ST.out.k
  have ST := Lib.hid (ST.out.set6 n1 n2)
  have W7 := Lib.hid (W7.out.set (m := w2.heap.size) (Nat.le_refl _) (.int .i64 n1) (.int .i64 n2))
  have W8 := Lib.hid (W8.out.set (m := w2.heap.size) (Nat.le_refl _) (.int .i64 n1) (.int .i64 n2))
  clear hB K4
  refine hKK _ _ ?_
  clear hKK KK
  iterate 6 (refine wpList_plain rfl fun K hK => ?_; go_simp; refine hK _ _ ?_; clear hK K)
  generalize hXe : ((w4.alloc (.cells #[.int .u64 (l0 : Nat), .int .u64 (l1 : Nat), .int .u64 (l2 : Nat), .int .u64 (l3 : Nat)] 30)).setCell ⟨w2.heap.size, 0, none⟩ (.int .i64 n1)).setCell ⟨w2.heap.size, 1, none⟩ (.int .i64 n2) = X at *
  clear hXe x0 x1 x2 x3
  obtain ⟨x0, x1, -, -⟩ := two_cells ST.out.f
  obtain ⟨y0, y1, -, -⟩ := two_cells ST.out.k
  obtain ⟨u0, u1, u2, u3⟩ := four_cells W7.out.2
  obtain ⟨v0, v1, v2, v3⟩ := four_cells W8.out.2
  have qq : ∀ w, (Op.equalIn 10000 30 (.agg #[.int .u64 l0, .int .u64 l1, .int .u64 l2, .int .u64 l3]) (.agg #[.int .u64 l0, .int .u64 l1, .int .u64 l2, .int .u64 l3])).run Try.prog w = .ok true w := eqIn_same l0 l1 l2 l3
  go_simp
  go_wp2_with fail
  clear x0 x1 y0 y1 u0 u1 u2 u3 v0 v1 v2 v3 qq W7 W8
  rename_i KK hKK
  (with_reducible refine (K5.out _).mono ?_)
  rintro e w5 ⟨rfl, hB⟩
  have ST := Lib.hid (ST.out.call hB)
  have r0 : Row .u8 (w5.alloc (.cells #[.int .u8 0, .int .u8 0, .int .u8 0, .int .u8 0, .int .u8 0, .int .u8 0, .int .u8 0, .int .u8 0, .int .u8 0, .int .u8 0, .int .u8 0, .int .u8 0, .int .u8 0, .int .u8 0, .int .u8 0, .int .u8 0, .int .u8 0, .int .u8 0, .int .u8 0, .int .u8 0] 34)) w5.heap.size 34 (List.replicate 20 0) := Row.new (k := .u8) w5 34 (List.replicate 20 0)
  have hlt := heap_lt ST.out.k
  have WN := Lib.hid (show HBy ((w5.alloc (.cells #[.int .u8 0, .int .u8 0, .int .u8 0, .int .u8 0, .int .u8 0, .int .u8 0, .int .u8 0, .int .u8 0, .int .u8 0, .int .u8 0, .int .u8 0, .int .u8 0, .int .u8 0, .int .u8 0, .int .u8 0, .int .u8 0, .int .u8 0, .int .u8 0, .int .u8 0, .int .u8 0] 34)).setRow w5.heap.size (Cs8 Y)) w2.heap.size w5.heap.size (.cells (Cs8 Y) 34) from ⟨hlt, r0.toSet Y⟩)
  have ST := Lib.hid ((ST.out.alloc (.cells #[.int .u8 0, .int .u8 0, .int .u8 0, .int .u8 0, .int .u8 0, .int .u8 0, .int .u8 0, .int .u8 0, .int .u8 0, .int .u8 0, .int .u8 0, .int .u8 0, .int .u8 0, .int .u8 0, .int .u8 0, .int .u8 0, .int .u8 0, .int .u8 0, .int .u8 0, .int .u8 0] 34)).row hlt (Cs8 Y))
  have R0 := Lib.hid r0
  obtain ⟨x0, x1, x2, x3⟩ := two_cells ST.out.f
  have ST := Lib.hid (ST.out.set4 a1 a2)
  have W9 := Lib.hid (WN.out.set (m := w1.heap.size) (by have := ST.out.n; omega) (.int .i64 a1) (.int .i64 a2))
  clear hB K5 r0 hlt WN
  refine hKK _ _ ?_
  clear hKK KK
  iterate 4 (refine wpList_plain rfl fun K hK => ?_; go_simp; refine hK _ _ ?_; clear hK K)
  refine wpList_store_row rfl 34 (.tmp 9) (.tmp 54) rfl w5.heap.size (Cs8 Y) (by go_simp) (by go_simp; try rfl) 34 (Cs8 (List.replicate 20 0)) R0.out (by rw [infoAddress, cs8_size, HL20.out]) (by rw [cs8_size, cs8_size, HL20.out]; simp) (cs8_one _) ?_
  refine wpList_plain rfl fun K hK => ?_; go_simp; refine hK _ _ ?_; clear hK K
  generalize hXe : ((((w5.alloc (.cells #[.int .u8 0, .int .u8 0, .int .u8 0, .int .u8 0, .int .u8 0, .int .u8 0, .int .u8 0, .int .u8 0, .int .u8 0, .int .u8 0, .int .u8 0, .int .u8 0, .int .u8 0, .int .u8 0, .int .u8 0, .int .u8 0, .int .u8 0, .int .u8 0, .int .u8 0, .int .u8 0] 34)).setRow w5.heap.size (Cs8 Y)).setCell ⟨w1.heap.size, 0, none⟩ (.int .i64 a1)).setCell ⟨w1.heap.size, 1, none⟩ (.int .i64 a2)) = w5x at *
  clear hXe x0 x1 x2 x3 R0
  go_simp
  go_wp2_with fail
  rename_i KK hKK
  (with_reducible refine (K6.out _).mono ?_)
  rintro e w6 ⟨rfl, hB⟩
  have ST := Lib.hid (ST.out.call hB)
  have W9 := Lib.hid (W9.out.call hB)
  have r0 : Row .u8 (w6.alloc (.cells #[.int .u8 0, .int .u8 0, .int .u8 0, .int .u8 0, .int .u8 0, .int .u8 0, .int .u8 0, .int .u8 0, .int .u8 0, .int .u8 0, .int .u8 0, .int .u8 0, .int .u8 0, .int .u8 0, .int .u8 0, .int .u8 0, .int .u8 0, .int .u8 0, .int .u8 0, .int .u8 0] 34)) w6.heap.size 34 (List.replicate 20 0) := Row.new (k := .u8) w6 34 (List.replicate 20 0)
  have hlt := heap_lt ST.out.k
  have WN := Lib.hid (show HBy ((w6.alloc (.cells #[.int .u8 0, .int .u8 0, .int .u8 0, .int .u8 0, .int .u8 0, .int .u8 0, .int .u8 0, .int .u8 0, .int .u8 0, .int .u8 0, .int .u8 0, .int .u8 0, .int .u8 0, .int .u8 0, .int .u8 0, .int .u8 0, .int .u8 0, .int .u8 0, .int .u8 0, .int .u8 0] 34)).setRow w6.heap.size (Cs8 Y)) w2.heap.size w6.heap.size (.cells (Cs8 Y) 34) from ⟨hlt, r0.toSet Y⟩)
  have ST := Lib.hid ((ST.out.alloc (.cells #[.int .u8 0, .int .u8 0, .int .u8 0, .int .u8 0, .int .u8 0, .int .u8 0, .int .u8 0, .int .u8 0, .int .u8 0, .int .u8 0, .int .u8 0, .int .u8 0, .int .u8 0, .int .u8 0, .int .u8 0, .int .u8 0, .int .u8 0, .int .u8 0, .int .u8 0, .int .u8 0] 34)).row hlt (Cs8 Y))
  have W9 := Lib.hid ((W9.out.alloc (.cells #[.int .u8 0, .int .u8 0, .int .u8 0, .int .u8 0, .int .u8 0, .int .u8 0, .int .u8 0, .int .u8 0, .int .u8 0, .int .u8 0, .int .u8 0, .int .u8 0, .int .u8 0, .int .u8 0, .int .u8 0, .int .u8 0, .int .u8 0, .int .u8 0, .int .u8 0, .int .u8 0] 34)).row (by have := heap_lt W9.out.2; omega) (Cs8 Y))
  have R0 := Lib.hid r0
  obtain ⟨x0, x1, x2, x3⟩ := two_cells ST.out.k
  have ST := Lib.hid (ST.out.set6 a1 a2)
  have W10 := Lib.hid (WN.out.set (m := w2.heap.size) (by have := ST.out.n; omega) (.int .i64 a1) (.int .i64 a2))
  have W9 := Lib.hid (W9.out.set (m := w2.heap.size) (by have := ST.out.n; omega) (.int .i64 a1) (.int .i64 a2))
  clear hB K6 r0 hlt WN
  refine hKK _ _ ?_
  clear hKK KK
  iterate 4 (refine wpList_plain rfl fun K hK => ?_; go_simp; refine hK _ _ ?_; clear hK K)
  refine wpList_store_row rfl 34 (.tmp 10) (.tmp 59) rfl w6.heap.size (Cs8 Y) (by go_simp) (by go_simp; try rfl) 34 (Cs8 (List.replicate 20 0)) R0.out (by rw [infoAddress, cs8_size, HL20.out]) (by rw [cs8_size, cs8_size, HL20.out]; simp) (cs8_one _) ?_
  refine wpList_plain rfl fun K hK => ?_; go_simp; refine hK _ _ ?_; clear hK K
  generalize hXe : ((((w6.alloc (.cells #[.int .u8 0, .int .u8 0, .int .u8 0, .int .u8 0, .int .u8 0, .int .u8 0, .int .u8 0, .int .u8 0, .int .u8 0, .int .u8 0, .int .u8 0, .int .u8 0, .int .u8 0, .int .u8 0, .int .u8 0, .int .u8 0, .int .u8 0, .int .u8 0, .int .u8 0, .int .u8 0] 34)).setRow w6.heap.size (Cs8 Y)).setCell ⟨w2.heap.size, 0, none⟩ (.int .i64 a1)).setCell ⟨w2.heap.size, 1, none⟩ (.int .i64 a2)) = w6x at *
  clear hXe x0 x1 x2 x3 R0
  obtain ⟨x0, x1, -, -⟩ := two_cells ST.out.f
  obtain ⟨y0, y1, -, -⟩ := two_cells ST.out.k
  have qq := eqIn8 Try.underlying34 Y HL20.out
  unfold BV at qq
  obtain ⟨CS, hCS⟩ : ∃ C, C = Cs8 Y := ⟨_, rfl⟩
  simp only [← hCS] at qq
  have L1 := W9.out.2
  have L2 := W10.out.2
  have LI : (Try.prog.info? 34).map (·.size) = some CS.size := by rw [infoAddress, hCS, cs8_size, HL20.out]
  rw [← hCS] at L1 L2
  have L1 := Lib.hid L1
  have L2 := Lib.hid L2
  have LI := Lib.hid LI
  clear hCS W9 W10
  go_simp
  go_upto_region 11 with (fail)
  refine wp_region_lit ?_
  iterate 4 (refine wpList_plain rfl fun K hK => ?_; go_simp; refine hK _ _ ?_; clear hK K)
  refine wpList_step fun K hK => ?_
  rw [if_pos (wanted_some (g := 3) (t := 64) (b := false) rfl rfl (by go_simp))]
  refine wp_load_row 34 (.tmp 9) rfl w5.heap.size (by go_simp) 34 CS (0, 0) _ L1.out Try.underlying34 rfl LI.out ?_
  refine hK _ _ ?_; clear hK K
  refine wpList_step fun K hK => ?_
  rw [if_pos (wanted_some (g := 3) (t := 64) (b := false) rfl rfl (by go_simp))]
  refine wp_load_row 34 (.tmp 10) rfl w6.heap.size (by go_simp) 34 CS (0, 0) _ L2.out Try.underlying34 rfl LI.out ?_
  refine hK _ _ ?_; clear hK K
  refine wpList_step fun K hK => ?_
  rw [if_pos (wanted_some (g := 3) (t := 64) (b := false) rfl rfl (by go_simp))]
  go_simp
  refine hK _ _ ?_; clear hK K
  refine wpList_plain rfl fun K hK => ?_; go_simp; refine hK _ _ ?_; clear hK K
  go_simp
  go_wp2_with fail
  clear x0 x1 y0 y1 qq L1 L2 LI
  rename_i KK hKK
  (with_reducible refine (K7.out _).mono ?_)
  rintro e w7 ⟨rfl, hB⟩
  have ST := Lib.hid (ST.out.call hB)
  have r0 : Row .u8 (w7.alloc (.cells #[.int .u8 0, .int .u8 0, .int .u8 0, .int .u8 0, .int .u8 0, .int .u8 0, .int .u8 0, .int .u8 0, .int .u8 0, .int .u8 0, .int .u8 0, .int .u8 0, .int .u8 0, .int .u8 0, .int .u8 0, .int .u8 0, .int .u8 0, .int .u8 0, .int .u8 0, .int .u8 0, .int .u8 0, .int .u8 0, .int .u8 0, .int .u8 0, .int .u8 0, .int .u8 0, .int .u8 0, .int .u8 0, .int .u8 0, .int .u8 0, .int .u8 0, .int .u8 0] 38)) w7.heap.size 38 (List.replicate 32 0) := Row.new (k := .u8) w7 38 (List.replicate 32 0)
  have hlt := heap_lt ST.out.k
  have WN := Lib.hid (show HBy ((w7.alloc (.cells #[.int .u8 0, .int .u8 0, .int .u8 0, .int .u8 0, .int .u8 0, .int .u8 0, .int .u8 0, .int .u8 0, .int .u8 0, .int .u8 0, .int .u8 0, .int .u8 0, .int .u8 0, .int .u8 0, .int .u8 0, .int .u8 0, .int .u8 0, .int .u8 0, .int .u8 0, .int .u8 0, .int .u8 0, .int .u8 0, .int .u8 0, .int .u8 0, .int .u8 0, .int .u8 0, .int .u8 0, .int .u8 0, .int .u8 0, .int .u8 0, .int .u8 0, .int .u8 0] 38)).setRow w7.heap.size (Cs8 Z)) w2.heap.size w7.heap.size (.cells (Cs8 Z) 38) from ⟨hlt, r0.toSet Z⟩)
  have ST := Lib.hid ((ST.out.alloc (.cells #[.int .u8 0, .int .u8 0, .int .u8 0, .int .u8 0, .int .u8 0, .int .u8 0, .int .u8 0, .int .u8 0, .int .u8 0, .int .u8 0, .int .u8 0, .int .u8 0, .int .u8 0, .int .u8 0, .int .u8 0, .int .u8 0, .int .u8 0, .int .u8 0, .int .u8 0, .int .u8 0, .int .u8 0, .int .u8 0, .int .u8 0, .int .u8 0, .int .u8 0, .int .u8 0, .int .u8 0, .int .u8 0, .int .u8 0, .int .u8 0, .int .u8 0, .int .u8 0] 38)).row hlt (Cs8 Z))
  have R0 := Lib.hid r0
  obtain ⟨x0, x1, x2, x3⟩ := two_cells ST.out.f
  have ST := Lib.hid (ST.out.set4 c1 c2)
  have W11 := Lib.hid (WN.out.set (m := w1.heap.size) (by have := ST.out.n; omega) (.int .i64 c1) (.int .i64 c2))
  clear hB K7 r0 hlt WN
  refine hKK _ _ ?_
  clear hKK KK
  iterate 4 (refine wpList_plain rfl fun K hK => ?_; go_simp; refine hK _ _ ?_; clear hK K)
  refine wpList_store_row rfl 38 (.tmp 11) (.tmp 72) rfl w7.heap.size (Cs8 Z) (by go_simp) (by go_simp; try rfl) 38 (Cs8 (List.replicate 32 0)) R0.out (by rw [infoHash, cs8_size, HL32.out]) (by rw [cs8_size, cs8_size, HL32.out]; simp) (cs8_one _) ?_
  refine wpList_plain rfl fun K hK => ?_; go_simp; refine hK _ _ ?_; clear hK K
  generalize hXe : ((((w7.alloc (.cells #[.int .u8 0, .int .u8 0, .int .u8 0, .int .u8 0, .int .u8 0, .int .u8 0, .int .u8 0, .int .u8 0, .int .u8 0, .int .u8 0, .int .u8 0, .int .u8 0, .int .u8 0, .int .u8 0, .int .u8 0, .int .u8 0, .int .u8 0, .int .u8 0, .int .u8 0, .int .u8 0, .int .u8 0, .int .u8 0, .int .u8 0, .int .u8 0, .int .u8 0, .int .u8 0, .int .u8 0, .int .u8 0, .int .u8 0, .int .u8 0, .int .u8 0, .int .u8 0] 38)).setRow w7.heap.size (Cs8 Z)).setCell ⟨w1.heap.size, 0, none⟩ (.int .i64 c1)).setCell ⟨w1.heap.size, 1, none⟩ (.int .i64 c2)) = w7x at *
  clear hXe x0 x1 x2 x3 R0
  go_simp
  go_wp2_with fail
  rename_i KK hKK
  (with_reducible refine (K8.out _).mono ?_)
  rintro e w8 ⟨rfl, hB⟩
  have ST := Lib.hid (ST.out.call hB)
  have W11 := Lib.hid (W11.out.call hB)
  have r0 : Row .u8 (w8.alloc (.cells #[.int .u8 0, .int .u8 0, .int .u8 0, .int .u8 0, .int .u8 0, .int .u8 0, .int .u8 0, .int .u8 0, .int .u8 0, .int .u8 0, .int .u8 0, .int .u8 0, .int .u8 0, .int .u8 0, .int .u8 0, .int .u8 0, .int .u8 0, .int .u8 0, .int .u8 0, .int .u8 0, .int .u8 0, .int .u8 0, .int .u8 0, .int .u8 0, .int .u8 0, .int .u8 0, .int .u8 0, .int .u8 0, .int .u8 0, .int .u8 0, .int .u8 0, .int .u8 0] 38)) w8.heap.size 38 (List.replicate 32 0) := Row.new (k := .u8) w8 38 (List.replicate 32 0)
  have hlt := heap_lt ST.out.k
  have WN := Lib.hid (show HBy ((w8.alloc (.cells #[.int .u8 0, .int .u8 0, .int .u8 0, .int .u8 0, .int .u8 0, .int .u8 0, .int .u8 0, .int .u8 0, .int .u8 0, .int .u8 0, .int .u8 0, .int .u8 0, .int .u8 0, .int .u8 0, .int .u8 0, .int .u8 0, .int .u8 0, .int .u8 0, .int .u8 0, .int .u8 0, .int .u8 0, .int .u8 0, .int .u8 0, .int .u8 0, .int .u8 0, .int .u8 0, .int .u8 0, .int .u8 0, .int .u8 0, .int .u8 0, .int .u8 0, .int .u8 0] 38)).setRow w8.heap.size (Cs8 Z)) w2.heap.size w8.heap.size (.cells (Cs8 Z) 38) from ⟨hlt, r0.toSet Z⟩)
  have ST := Lib.hid ((ST.out.alloc (.cells #[.int .u8 0, .int .u8 0, .int .u8 0, .int .u8 0, .int .u8 0, .int .u8 0, .int .u8 0, .int .u8 0, .int .u8 0, .int .u8 0, .int .u8 0, .int .u8 0, .int .u8 0, .int .u8 0, .int .u8 0, .int .u8 0, .int .u8 0, .int .u8 0, .int .u8 0, .int .u8 0, .int .u8 0, .int .u8 0, .int .u8 0, .int .u8 0, .int .u8 0, .int .u8 0, .int .u8 0, .int .u8 0, .int .u8 0, .int .u8 0, .int .u8 0, .int .u8 0] 38)).row hlt (Cs8 Z))
  have W11 := Lib.hid ((W11.out.alloc (.cells #[.int .u8 0, .int .u8 0, .int .u8 0, .int .u8 0, .int .u8 0, .int .u8 0, .int .u8 0, .int .u8 0, .int .u8 0, .int .u8 0, .int .u8 0, .int .u8 0, .int .u8 0, .int .u8 0, .int .u8 0, .int .u8 0, .int .u8 0, .int .u8 0, .int .u8 0, .int .u8 0, .int .u8 0, .int .u8 0, .int .u8 0, .int .u8 0, .int .u8 0, .int .u8 0, .int .u8 0, .int .u8 0, .int .u8 0, .int .u8 0, .int .u8 0, .int .u8 0] 38)).row (by have := heap_lt W11.out.2; omega) (Cs8 Z))
  have R0 := Lib.hid r0
  obtain ⟨x0, x1, x2, x3⟩ := two_cells ST.out.k
  have ST := Lib.hid (ST.out.set6 c1 c2)
  have W12 := Lib.hid (WN.out.set (m := w2.heap.size) (by have := ST.out.n; omega) (.int .i64 c1) (.int .i64 c2))
  have W11 := Lib.hid (W11.out.set (m := w2.heap.size) (by have := ST.out.n; omega) (.int .i64 c1) (.int .i64 c2))
  clear hB K8 r0 hlt WN
  refine hKK _ _ ?_
  clear hKK KK
  iterate 4 (refine wpList_plain rfl fun K hK => ?_; go_simp; refine hK _ _ ?_; clear hK K)
  refine wpList_store_row rfl 38 (.tmp 12) (.tmp 77) rfl w8.heap.size (Cs8 Z) (by go_simp) (by go_simp; try rfl) 38 (Cs8 (List.replicate 32 0)) R0.out (by rw [infoHash, cs8_size, HL32.out]) (by rw [cs8_size, cs8_size, HL32.out]; simp) (cs8_one _) ?_
  refine wpList_plain rfl fun K hK => ?_; go_simp; refine hK _ _ ?_; clear hK K
  generalize hXe : ((((w8.alloc (.cells #[.int .u8 0, .int .u8 0, .int .u8 0, .int .u8 0, .int .u8 0, .int .u8 0, .int .u8 0, .int .u8 0, .int .u8 0, .int .u8 0, .int .u8 0, .int .u8 0, .int .u8 0, .int .u8 0, .int .u8 0, .int .u8 0, .int .u8 0, .int .u8 0, .int .u8 0, .int .u8 0, .int .u8 0, .int .u8 0, .int .u8 0, .int .u8 0, .int .u8 0, .int .u8 0, .int .u8 0, .int .u8 0, .int .u8 0, .int .u8 0, .int .u8 0, .int .u8 0] 38)).setRow w8.heap.size (Cs8 Z)).setCell ⟨w2.heap.size, 0, none⟩ (.int .i64 c1)).setCell ⟨w2.heap.size, 1, none⟩ (.int .i64 c2)) = w8x at *
  clear hXe x0 x1 x2 x3 R0
  obtain ⟨x0, x1, -, -⟩ := two_cells ST.out.f
  obtain ⟨y0, y1, -, -⟩ := two_cells ST.out.k
  have qq := eqIn8 Try.underlying38 Z HL32.out
  unfold BV at qq
  obtain ⟨CS, hCS⟩ : ∃ C, C = Cs8 Z := ⟨_, rfl⟩
  simp only [← hCS] at qq
  have L1 := W11.out.2
  have L2 := W12.out.2
  have LI : (Try.prog.info? 38).map (·.size) = some CS.size := by rw [infoHash, hCS, cs8_size, HL32.out]
  rw [← hCS] at L1 L2
  have L1 := Lib.hid L1
  have L2 := Lib.hid L2
  have LI := Lib.hid LI
  clear hCS W11 W12
  go_simp
  go_upto_region 15 with (fail)
  refine wp_region_lit ?_
  iterate 4 (refine wpList_plain rfl fun K hK => ?_; go_simp; refine hK _ _ ?_; clear hK K)
  refine wpList_step fun K hK => ?_
  rw [if_pos (wanted_some (g := 3) (t := 82) (b := true) rfl rfl (by go_simp))]
  refine wp_load_row 38 (.tmp 11) rfl w7.heap.size (by go_simp) 38 CS (0, 0) _ L1.out Try.underlying38 rfl LI.out ?_
  refine hK _ _ ?_; clear hK K
  refine wpList_step fun K hK => ?_
  rw [if_pos (wanted_some (g := 3) (t := 82) (b := true) rfl rfl (by go_simp))]
  refine wp_load_row 38 (.tmp 12) rfl w8.heap.size (by go_simp) 38 CS (0, 0) _ L2.out Try.underlying38 rfl LI.out ?_
  refine hK _ _ ?_; clear hK K
  refine wpList_step fun K hK => ?_
  rw [if_pos (wanted_some (g := 3) (t := 82) (b := true) rfl rfl (by go_simp))]
  go_simp
  refine hK _ _ ?_; clear hK K
  refine wpList_plain rfl fun K hK => ?_; go_simp; refine hK _ _ ?_; clear hK K
  refine wpList_plain rfl fun K hK => ?_; go_simp; refine hK _ _ ?_; clear hK K
  go_simp
  go_wp2_with fail
  (with_reducible refine (hwakes_c _).mono ?_)
  rintro e w9 ⟨rfl, hB⟩
  have ST := Lib.hid (ST.out.call hB)
  go_wp2_with fail
  go_ret
  exact ⟨rfl, ST.out.b⟩
end Go.Proofs.Ytpeebcgeefjpbaa
