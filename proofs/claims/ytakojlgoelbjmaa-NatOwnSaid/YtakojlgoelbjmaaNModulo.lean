/- The contracts of package nat's modulo and of the closure that it makes. -/
import Derived.Test.YtakojlgoelbjmaaNDivMod
import Derived.OneCell
import Derived.Laws.CopyOwn
namespace Go.Proofs.Ytakojlgoelbjmaa
open Go.RowKit

/-- Blocks of S alone may have changed. -/
structure Chg (S : Nat → Prop) (w w' : World) : Prop where
  os : w'.os = w.os
  tape : w'.tape = w.tape
  output : w'.output = w.output
  size : w'.heap.size = w.heap.size
  block : ∀ i, ¬ S i → w'.heap[i]? = w.heap[i]?
section
variable {S : Nat → Prop} {a b c : World}
theorem Chg.refl (S : Nat → Prop) (w : World) : Chg S w w := ⟨rfl, rfl, rfl, rfl, fun _ _ => rfl⟩
theorem Chg.trans (h : Chg S a b) (k : Chg S b c) : Chg S a c :=
  ⟨k.os.trans h.os, k.tape.trans h.tape, k.output.trans h.output, k.size.trans h.size, fun i hi => (k.block i hi).trans (h.block i hi)⟩
theorem Chg.one {g : Nat} (h : Tch g a b) (hg : S g) : Chg S a b := ⟨h.os, h.tape, h.output, h.size, fun i hi => h.block i (fun e => hi (e ▸ hg))⟩
theorem Chg.two {g f : Nat} (h : Tch2 g f a b) (hg : S g) (hf : S f) : Chg S a b := ⟨h.os, h.tape, h.output, h.size, fun i hi => h.block i (fun e => hi (e ▸ hg)) (fun e => hi (e ▸ hf))⟩
theorem Chg.setRow {g : Nat} (w : World) (cs : Array Value) (hg : S g) : Chg S w (w.setRow g cs) := ⟨rfl, rfl, rfl, by simp [World.setRow], fun i hi => setRow_other w g i cs (fun e => hi (e ▸ hg))⟩
theorem Chg.row {k : IntKind} {t : TypeId} {xs : List Nat} {i : Nat} (h : Chg S a b) (r : Row k a i t xs) (hi : ¬ S i) : Row k b i t xs := (h.block i hi).trans r
theorem Chg.below {B : Nat} (h : Chg S b c) (k : Below B a b) (hS : ∀ i, S i → B ≤ i) : Below B a c :=
  k.trans ⟨h.os, h.tape, h.output, by rw [h.size]; exact Nat.le_refl _, fun i hi => h.block i (fun s => by have := hS i s; omega)⟩
end

/-- What the closure of modulo has captured: the room for products and quotients, and the multiple of the modulus. -/
structure MM (w : World) (Bp Bq Bm Gp Gq Gm n P D : Nat) : Prop where
  bp : w.heap[Bp]? = some (.cells #[.slice (some ⟨Gp, 0, none⟩) P P] 74 (0, 0))
  bq : w.heap[Bq]? = some (.cells #[.slice (some ⟨Gq, 0, none⟩) n n] 74 (0, 0))
  bm : w.heap[Bm]? = some (.cells #[.slice (some ⟨Gm, 0, none⟩) n (n + 1)] 74 (0, 0))
  p : ∃ ps, Row .u64 w Gp 68 ps ∧ ps.length = P
  q : ∃ qs, Row .u64 w Gq 68 qs ∧ Ds 18446744073709551616 qs ∧ qs.length = n
  m : ∃ es, Row .u64 w Gm 68 es ∧ Ds 18446744073709551616 es ∧ es.length = n + 1 ∧ D = dv 18446744073709551616 (es.take n) ∧ 9223372036854775808 ≤ es.getD (n - 1) 0
  ord : Gm < Bm ∧ Bm < Gp ∧ Gp < Bp ∧ Bp < Gq ∧ Gq < Bq
  hP : P = n + n
  hn : 1 ≤ n ∧ n ≤ 1048576
theorem MM.below {w w' : World} {Bp Bq Bm Gp Gq Gm n P D : Nat} (h : MM w Bp Bq Bm Gp Gq Gm n P D) {B : Nat} (hb : Below B w w') (hB : Bq < B) : MM w' Bp Bq Bm Gp Gq Gm n P D := by
  have o := h.ord
  obtain ⟨ps, p1, p2⟩ := h.p
  obtain ⟨qs, q1, q2⟩ := h.q
  obtain ⟨es, m1, m2⟩ := h.m
  exact ⟨(hb.block _ (by omega)).trans h.bp, (hb.block _ (by omega)).trans h.bq, (hb.block _ (by omega)).trans h.bm, ⟨ps, p1.below hb (by omega), p2⟩, ⟨qs, q1.below hb (by omega), q2⟩, ⟨es, m1.below hb (by omega), m2⟩, o, h.hP, h.hn⟩
theorem MM.far {w : World} {Bp Bq Bm Gp Gq Gm n P D : Nat} (h : MM w Bp Bq Bm Gp Gq Gm n P D) {a : Addr} (ha : Bq < a.block) (v : Value) : MM (w.setCell a v) Bp Bq Bm Gp Gq Gm n P D :=
  h.below ((Below.refl a.block w).setCell (Nat.le_refl _) v) ha

/-- What the closure leaves. -/
def RetCl (Ga : Nat) (t : TypeId) (Bp Bq Bm Gp Gq Gm n P D r : Nat) (w : World) (e : Ending) (w' : World) : Prop := ∃ zs, e = .returned (.tuple #[]) ∧ Row .u64 w' Ga t zs ∧ Ds 18446744073709551616 zs ∧ dv 18446744073709551616 zs = r ∧ zs.length = n ∧
  MM w' Bp Bq Bm Gp Gq Gm n P D ∧ Chg (fun i => i = Ga ∨ i = Gp ∨ i = Gq) w w'

set_option maxRecDepth 100000 in
set_option maxHeartbeats 3200000 in
theorem closure_c {Ga Gb Bp Bq Bm Gp Gq Gm n P D : Nat} {ta tb : TypeId} {xs ys : List Nat} (w : World) (hM : MM w Bp Bq Bm Gp Gq Gm n P D) (ha : Row .u64 w Ga ta xs) (hb : Row .u64 w Gb tb ys) (hGa : Bq < Ga) (hGb : Bq < Gb)
    (lx : Ds 18446744073709551616 xs) (ly : Ds 18446744073709551616 ys) (hx : xs.length = n) (hy : ys.length = n) (hlt : dv 18446744073709551616 xs < D) :
    Calls Try.prog 69 #[.slice (some ⟨Ga, 0, none⟩) n n, .slice (some ⟨Gb, 0, none⟩) n n, .pointer (some ⟨Bp, 0, none⟩), .pointer (some ⟨Bq, 0, none⟩), .pointer (some ⟨Bm, 0, none⟩)] w
      (RetCl Ga ta Bp Bq Bm Gp Gq Gm n P D (dv 18446744073709551616 xs * dv 18446744073709551616 ys % D) w) := by
  have o := hM.ord
  obtain ⟨ps, p1, p2⟩ := hM.p
  obtain ⟨qs, q1, q2, q3⟩ := hM.q
  obtain ⟨es, m1, m2, m3, m4, m5⟩ := hM.m
  have hP := hM.hP
  have hn := hM.hn
  have C1 := Lib.hid (multiply_c (ca := n) (cb := n) (cp := P) w p1 ha hb (by omega) (by omega) lx ly (by omega) (by omega) (by omega) (by omega))
  rw [p2, hx, hy] at C1
  have cp := cell_of_one hM.bp
  obtain ⟨V, hV⟩ : ∃ V, V = dv 18446744073709551616 xs * dv 18446744073709551616 ys := ⟨_, rfl⟩
  have hVlt : V < D * 18446744073709551616 ^ n := by
    rw [hV]
    have h2 := dv_lt ys ly
    rw [hy] at h2
    exact Nat.mul_lt_mul'' hlt h2
  rw [← hV] at C1 ⊢
  have HM := Lib.hid hM
  have HQ1 := Lib.hid q1
  have HM1 := Lib.hid m1
  have HA := Lib.hid ha
  have HQ2 := Lib.hid q2
  have HQ3 := Lib.hid q3
  have HM2 := Lib.hid m2
  have HM3 := Lib.hid m3
  have HM4 := Lib.hid m4
  have HM5 := Lib.hid m5
  have HVl := Lib.hid hVlt
  have HX := Lib.hid hx
  have HPn := Lib.hid hP
  have HO := Lib.hid o
  have HN := Lib.hid hn
  have hP8 : (P : Int) ≤ 2097152 := by omega
  have hn8 : (n : Int) ≤ 1048576 := by omega
  clear hM p1 p2 q1 q2 q3 m1 m2 m3 m4 m5 ha hb lx ly hx hy hlt hV hVlt hP o hn
  go_enter Try.func69, Try.ntmps69
  go_wp2_with fail
  (with_reducible refine C1.out.mono ?_)
  rintro e w1 ⟨zs, rfl, r1, d1, v1, l1, t1⟩
  have o := HO.out
  have HM1b := Lib.hid (t1.row HM1.out (by omega))
  have HQ1b := Lib.hid (t1.row HQ1.out (by omega))
  have bp1 := (t1.block Bp (by omega)).trans HM.out.bp
  have bq1 := (t1.block Bq (by omega)).trans HM.out.bq
  have bm1 := (t1.block Bm (by omega)).trans HM.out.bm
  have C2 := Lib.hid (ndivide_c (n := n) (D := D) (cq := n) (cl := P) (cd := n + 1) w1 HQ1b.out r1 HM1b.out (by omega) (by omega) (by omega) HQ2.out d1 HM2.out HN.out.1 (by rw [HM3.out]; omega) (by rw [HM3.out]; omega) (by rw [l1]; omega) HM4.out HM5.out (by rw [v1, HQ3.out]; exact HVl.out) (by rw [HQ3.out, l1, HPn.out]; omega) (by rw [l1]; omega))
  rw [HQ3.out, l1, v1] at C2
  have cp1 := cell_of_one bp1
  have cq1 := cell_of_one bq1
  have cm1 := cell_of_one bm1
  have HT1 := Lib.hid t1
  have HBP := Lib.hid bp1
  have HBQ := Lib.hid bq1
  have HBM := Lib.hid bm1
  have HRA := Lib.hid (t1.row HA.out (by omega))
  clear C1 r1 d1 v1 l1 t1 cp bp1 bq1 bm1 o
  go_wp2_with fail
  (with_reducible refine C2.out.mono ?_)
  rintro e w2 ⟨us, rs, rfl, r3, r4, d3, d4, v3, v4, l3, l4, t2⟩
  have o := HO.out
  have bp2 := (t2.block Bp (by omega) (by omega)).trans HBP.out
  have bq2 := (t2.block Bq (by omega) (by omega)).trans HBQ.out
  have bm2 := (t2.block Bm (by omega) (by omega)).trans HBM.out
  have HRA := Lib.hid (t2.row HRA.out (by omega) (by omega))
  have HM1c := Lib.hid (t2.row HM1b.out (by omega) (by omega))
  have cp2 := cell_of_one bp2
  clear cp1 cq1 cm1 C2
  go_upto_region 2 with (fail)
  refine wp_region_lit ?_
  iterate 2 (refine wpList_plain rfl fun K hK => ?_; go_simp; refine hK _ _ ?_; clear hK K)
  have hcs : ((rs.take n).map fun n : Nat => Value.int .u64 (n : Int)).length = n := by rw [List.length_map, List.length_take, l4]; have := HPn.out; omega
  refine wpList_copy_own rfl (.tmp 15) (.tmp 16) 74 74 rfl 68 Try.underlying74 (by kernel_rfl) Ga 0 n n ⟨Gp, 0, none⟩ P P rfl rfl (xs.map fun n : Nat => Value.int .u64 (n : Int)).toArray ta HRA.out ((rs.take n).map fun n : Nat => Value.int .u64 (n : Int)) (by rw [hcs]; show n = min P n; have := HPn.out; omega) ?_ (by rw [hcs]; simp; have := HX.out; omega) ?_ ?_
  · intro j v hv
    rw [List.getElem?_map] at hv
    obtain ⟨u, hu, rfl⟩ := Option.map_eq_some_iff.1 hv
    have hj : j < n := by have := (List.getElem?_eq_some_iff.1 hu).1; rw [List.length_take] at this; omega
    have e : (⟨Gp, 0, none⟩ : Addr).add j = ⟨Gp, j, none⟩ := by unfold Addr.add; split <;> simp_all
    rw [e, r4.cell j (by rw [l4]; have := HPn.out; omega)]
    rw [List.getElem?_take_of_lt hj] at hu
    rw [List.getD_eq_getElem?_getD, hu]
    rfl
  · intro v hv
    rw [List.mem_map] at hv
    obtain ⟨n, _, rfl⟩ := hv
    rfl
  · have hrow : Row .u64 (w2.setRow Ga ((xs.map fun n : Nat => Value.int .u64 (n : Int)).toArray.toList.take 0 ++ (((rs.take n).map fun n : Nat => Value.int .u64 (n : Int)) ++ (xs.map fun n : Nat => Value.int .u64 (n : Int)).toArray.toList.drop (0 + ((rs.take n).map fun n : Nat => Value.int .u64 (n : Int)).length))).toArray) Ga ta (rs.take n) := by
      have h := setRow_heap w2 Ga _ ((xs.map fun n : Nat => Value.int .u64 (n : Int)).toArray.toList.take 0 ++ (((rs.take n).map fun n : Nat => Value.int .u64 (n : Int)) ++ (xs.map fun n : Nat => Value.int .u64 (n : Int)).toArray.toList.drop (0 + ((rs.take n).map fun n : Nat => Value.int .u64 (n : Int)).length))).toArray ta (0, 0) HRA.out
      unfold Row
      rw [h]
      congr 2
      rw [List.take_zero, List.nil_append, hcs, List.drop_eq_nil_of_le (by simp; have := HX.out; omega), List.append_nil]
    have hch : Chg (fun i => i = Ga ∨ i = Gp ∨ i = Gq) w2 _ := Chg.setRow w2 ((xs.map fun n : Nat => Value.int .u64 (n : Int)).toArray.toList.take 0 ++ (((rs.take n).map fun n : Nat => Value.int .u64 (n : Int)) ++ (xs.map fun n : Nat => Value.int .u64 (n : Int)).toArray.toList.drop (0 + ((rs.take n).map fun n : Nat => Value.int .u64 (n : Int)).length))).toArray (g := Ga) (.inl rfl)
    have hone : Chg (fun i => i = Ga) w2 _ := Chg.setRow w2 ((xs.map fun n : Nat => Value.int .u64 (n : Int)).toArray.toList.take 0 ++ (((rs.take n).map fun n : Nat => Value.int .u64 (n : Int)) ++ (xs.map fun n : Nat => Value.int .u64 (n : Int)).toArray.toList.drop (0 + ((rs.take n).map fun n : Nat => Value.int .u64 (n : Int)).length))).toArray (g := Ga) rfl
    generalize w2.setRow Ga _ = w3 at *
    have hval : dv 18446744073709551616 (rs.take n) = V % D := by
      have hDp : 0 < D := by
        rcases Nat.eq_zero_or_pos D with h | h
        · have := HVl.out; rw [h, Nat.zero_mul] at this; omega
        · exact h
      have hDl : D < 18446744073709551616 ^ n := by rw [HM4.out]; exact dv_take_lt HM2.out n (by rw [HM3.out]; omega)
      rw [← v4, dv_take_eq (m := n) (by rw [l4]; have := HPn.out; omega) fun j hj => dv_tail_zero (by omega) (show dv 18446744073709551616 rs < 18446744073709551616 ^ n by rw [v4]; exact Nat.lt_trans (Nat.mod_lt _ hDp) hDl) hj]
    have one : ∀ i, i ≠ Ga → w3.heap[i]? = w2.heap[i]? := fun i hi => hone.block i hi
    have hmm : MM w3 Bp Bq Bm Gp Gq Gm n P D := by
      exact ⟨(one _ (by omega)).trans bp2, (one _ (by omega)).trans bq2, (one _ (by omega)).trans bm2, ⟨rs, (one _ (by omega)).trans r4, l4⟩, ⟨us, (one _ (by omega)).trans r3, d3, l3⟩, ⟨es, (one _ (by omega)).trans HM1c.out, HM2.out, HM3.out, HM4.out, HM5.out⟩, o, HPn.out, HN.out⟩
    have HROW := Lib.hid hrow
    have HCH : Hid (Chg (fun i => i = Ga ∨ i = Gp ∨ i = Gq) w w3) := ((Chg.one HT1.out (.inr (.inl rfl))).trans (Chg.two t2 (.inr (.inr rfl)) (.inr (.inl rfl)))).trans hch
    have HV := Lib.hid hval
    have HMM := Lib.hid hmm
    have HDS := Lib.hid (d4.take n)
    have HLN : Hid ((rs.take n).length = n) := by show _ = _; rw [List.length_take, l4]; have := HPn.out; omega
    clear hrow hch hone hval hmm one bp2 bq2 bm2 r3 r4 d3 d4 v3 v4 l3 l4 t2 cp2 o
    generalize rs.take n = zs at *
    generalize ((zs.map fun n : Nat => Value.int .u64 (n : Int)).length) = L at *
    refine wpList_nil ?_
    go_wp2_with fail
    go_end0
    exact ⟨zs, rfl, HROW.out, HDS.out, HV.out, HLN.out, HMM.out, HCH.out⟩

/-- A new variable that holds v. -/
theorem new_one (w : World) (z v : Value) (t : TypeId) : ((w.alloc (.cells #[z] t)).setCell ⟨w.heap.size, 0, none⟩ v).heap[w.heap.size]? = some (.cells #[v] t (0, 0)) := one_setCell (heap_alloc_new w _)
theorem new_one_below (B : Nat) (a w : World) (h : Below B a w) (hB : B ≤ w.heap.size) (z v : Value) (t : TypeId) : Below B a ((w.alloc (.cells #[z] t)).setCell ⟨w.heap.size, 0, none⟩ v) := (h.alloc hB _).setCell (p := ⟨w.heap.size, 0, none⟩) hB v
/-- The function that modulo makes. -/
def RetFn (b n : Nat) (w : World) (e : Ending) (w' : World) : Prop := ∃ Bp Bq Bm Gp Gq Gm P s, e = .returned (.func (.func 69) #[] #[.pointer (some ⟨Bp, 0, none⟩), .pointer (some ⟨Bq, 0, none⟩), .pointer (some ⟨Bm, 0, none⟩)]) ∧
  MM w' Bp Bq Bm Gp Gq Gm n P (b * 2 ^ s) ∧ Bq < w'.heap.size ∧ w.heap.size ≤ Gm ∧ Below w.heap.size w w'

set_option maxRecDepth 100000 in
set_option maxHeartbeats 3200000 in
theorem nmodulo_c {A : Option Addr} {c b : Nat} {ms : List Nat} (w : World) (h : Rd .u64 w A c ms) (hm : Can 18446744073709551616 ms b) (hl : ms.length ≤ 1048576) (h0 : 0 < ms.length) :
    Calls Try.prog 45 #[.slice A ms.length c] w (RetFn b ms.length w) := by
  have C1 := Lib.hid (raised_c w h hm (by omega) h0)
  have hmf : ∀ (fn : Fn) (first cap : Array Value) (w : World), (Instr.makeFunc fn first cap).run Try.prog w = .ok (.func fn first cap) w := fun _ _ _ _ => rfl
  obtain ⟨n, hn⟩ : ∃ n, n = ms.length := ⟨_, rfl⟩
  rw [← hn] at C1 hl h0 ⊢
  obtain ⟨P, hP⟩ : ∃ P, P = n + n := ⟨_, rfl⟩
  have e2 : 2 * (n : Int) = (P : Int) := by omega
  have hwP : IntKind.i64.wrap (P : Int) = (P : Int) := IntWalk.i64_in _ (by omega)
  have hn8 : (n : Int) ≤ 1048576 := by omega
  have HP := Lib.hid hP
  have HN0 := Lib.hid h0
  clear h hm hn hP
  go_enter Try.func45, Try.ntmps45
  go_wp2_with fail
  (with_reducible refine C1.out.mono ?_)
  rintro e w1 ⟨Gm, es, s, rfl, hr2, hg2, hd2, hl2, hv2, hlt2, htop2, htk2, hs, hb2⟩
  have hGm := hr2.lt
  have hsz := hb2.size
  have hD : b * 2 ^ s = dv 18446744073709551616 (es.take n) := by rw [← htk2, hv2]
  have HD := Lib.hid hD
  have HL2 := Lib.hid hl2
  have HD2 := Lib.hid hd2
  have HT2 := Lib.hid htop2
  have HR2 := Lib.hid hr2
  have HB2 := Lib.hid hb2
  have hz : Hid (w.heap.size ≤ w1.heap.size) := hsz
  have HG2 := Lib.hid hg2
  clear C1 hr2 hd2 hl2 hv2 hlt2 htop2 htk2 hs hb2 hD
  go_upto_region 2 with (fail)
  have bm : (w1.alloc (.cells #[.slice (some ⟨Gm, 0, none⟩) n (n + 1)] 74)).heap[w1.heap.size]? = some (.cells #[.slice (some ⟨Gm, 0, none⟩) n (n + 1)] 74 (0, 0)) := heap_alloc_new w1 _
  have HR3 := Lib.hid (HR2.out.alloc (.cells #[.slice (some ⟨Gm, 0, none⟩) n (n + 1)] 74))
  have HB3 := Lib.hid (HB2.out.alloc hz.out (.cells #[.slice (some ⟨Gm, 0, none⟩) n (n + 1)] 74))
  have hs3 : (w1.alloc (.cells #[.slice (some ⟨Gm, 0, none⟩) n (n + 1)] 74)).heap.size = w1.heap.size + 1 := by simp
  generalize w1.alloc (.cells #[.slice (some ⟨Gm, 0, none⟩) n (n + 1)] 74) = W1 at *
  obtain ⟨Bm, hBm⟩ : ∃ Bm, Bm = w1.heap.size := ⟨_, rfl⟩
  rw [← hBm] at bm hs3 hGm hsz
  rw [← hBm]
  have HBM := Lib.hid bm
  have HS3 := Lib.hid hs3
  have hmk := mk64 (P : Int) P rfl (by omega) W1
  clear bm hs3 HR2 HB2 hz hBm
  go_upto_region 3 with (fail)
  have hP : Row .u64 (W1.alloc (.cells (madeCells #[Value.int .u64 0] P) 68)) W1.heap.size 68 (List.replicate P 0) := Row.made W1 _ P
  have hs4 : (W1.alloc (.cells (madeCells #[Value.int .u64 0] P) 68)).heap.size = W1.heap.size + 1 := by simp
  have HB4 := HB3.out.alloc (by have := HS3.out; omega) (.cells (madeCells #[Value.int .u64 0] P) 68)
  have HR4 := HR3.out.alloc (.cells (madeCells #[Value.int .u64 0] P) 68)
  have HBM4 := (Below.heap_alloc W1 (.cells (madeCells #[Value.int .u64 0] P) 68) Bm (by have := HS3.out; omega)).trans HBM.out
  generalize W1.alloc (.cells (madeCells #[Value.int .u64 0] P) 68) = W2 at *
  obtain ⟨Gp, hGp⟩ : ∃ Gp, Gp = W1.heap.size := ⟨_, rfl⟩
  rw [← hGp] at hP hs4 HS3
  rw [← hGp]
  have bp : (W2.alloc (.cells #[.slice (some ⟨Gp, 0, none⟩) P P] 74)).heap[W2.heap.size]? = some (.cells #[.slice (some ⟨Gp, 0, none⟩) P P] 74 (0, 0)) := heap_alloc_new W2 _
  have hs5 : (W2.alloc (.cells #[.slice (some ⟨Gp, 0, none⟩) P P] 74)).heap.size = W2.heap.size + 1 := by simp
  have hP5 := hP.alloc (.cells #[.slice (some ⟨Gp, 0, none⟩) P P] 74)
  have HB5 := Lib.hid (HB4.alloc (by have := HS3.out; omega) (.cells #[.slice (some ⟨Gp, 0, none⟩) P P] 74))
  have HR5 := HR4.alloc (.cells #[.slice (some ⟨Gp, 0, none⟩) P P] 74)
  have HBM5 := (Below.heap_alloc W2 (.cells #[.slice (some ⟨Gp, 0, none⟩) P P] 74) Bm (by have := HS3.out; omega)).trans HBM4
  rw [hs4] at bp hs5
  generalize W2.alloc (.cells #[.slice (some ⟨Gp, 0, none⟩) P P] 74) = W3 at *
  have HP5 := Lib.hid hP5
  have HR5 := Lib.hid HR5
  have HBM5 := Lib.hid HBM5
  have HBP5 := Lib.hid bp
  have HS5 := Lib.hid hs5
  have hmk2 := mk64 (n : Int) n rfl (by omega) W3
  clear hP hs4 HB4 HR4 HBM4 bp hs5 hP5 hGp hmk HB3 HR3 HBM
  go_upto_region 4 with (fail)
  have hQ : Row .u64 (W3.alloc (.cells (madeCells #[Value.int .u64 0] n) 68)) W3.heap.size 68 (List.replicate n 0) := Row.made W3 _ n
  have hs6 : (W3.alloc (.cells (madeCells #[Value.int .u64 0] n) 68)).heap.size = W3.heap.size + 1 := by simp
  have HB6 := HB5.out.alloc (by have := HS5.out; have := HS3.out; omega) (.cells (madeCells #[Value.int .u64 0] n) 68)
  have HR6 := HR5.out.alloc (.cells (madeCells #[Value.int .u64 0] n) 68)
  have HP6 := HP5.out.alloc (.cells (madeCells #[Value.int .u64 0] n) 68)
  have HBM6 := (Below.heap_alloc W3 (.cells (madeCells #[Value.int .u64 0] n) 68) Bm (by have := HS3.out; have := HS5.out; omega)).trans HBM5.out
  have HBP6 := (Below.heap_alloc W3 (.cells (madeCells #[Value.int .u64 0] n) 68) (Gp + 1) (by have := HS5.out; omega)).trans HBP5.out
  generalize W3.alloc (.cells (madeCells #[Value.int .u64 0] n) 68) = W4 at *
  obtain ⟨Gq, hGq⟩ : ∃ Gq, Gq = W3.heap.size := ⟨_, rfl⟩
  rw [← hGq] at hQ hs6 HS5
  rw [← hGq]
  have bq : (W4.alloc (.cells #[.slice (some ⟨Gq, 0, none⟩) n n] 74)).heap[W4.heap.size]? = some (.cells #[.slice (some ⟨Gq, 0, none⟩) n n] 74 (0, 0)) := heap_alloc_new W4 _
  have hs7 : (W4.alloc (.cells #[.slice (some ⟨Gq, 0, none⟩) n n] 74)).heap.size = W4.heap.size + 1 := by simp
  have HB7 := HB6.alloc (by have := HS3.out; have := HS5.out; omega) (.cells #[.slice (some ⟨Gq, 0, none⟩) n n] 74)
  have HR7 := HR6.alloc (.cells #[.slice (some ⟨Gq, 0, none⟩) n n] 74)
  have HP7 := HP6.alloc (.cells #[.slice (some ⟨Gq, 0, none⟩) n n] 74)
  have HQ7 := hQ.alloc (.cells #[.slice (some ⟨Gq, 0, none⟩) n n] 74)
  have HBM7 := (Below.heap_alloc W4 (.cells #[.slice (some ⟨Gq, 0, none⟩) n n] 74) Bm (by have := HS3.out; have := HS5.out; omega)).trans HBM6
  have HBP7 := (Below.heap_alloc W4 (.cells #[.slice (some ⟨Gq, 0, none⟩) n n] 74) (Gp + 1) (by have := HS5.out; omega)).trans HBP6
  rw [hs6] at bq hs7
  generalize W4.alloc (.cells #[.slice (some ⟨Gq, 0, none⟩) n n] 74) = W5 at *
  have HMM : Hid (MM W5 (Gp + 1) (Gq + 1) Bm Gp Gq Gm n P (b * 2 ^ s)) := ⟨HBP7, bq, HBM7, ⟨_, HP7, List.length_replicate⟩, ⟨_, HQ7, Ds.zeros (by omega) _, List.length_replicate⟩, ⟨es, HR7, HD2.out, HL2.out, HD.out, HT2.out⟩, by have := HS3.out; have := HS5.out; omega, HP.out, HN0.out, hl⟩
  have HBZ := Lib.hid HB7
  have HSZ := Lib.hid hs7
  clear hQ hs6 HB6 HR6 HP6 HBM6 HBP6 bq hs7 HB7 HR7 HP7 HQ7 HBM7 HBP7 hGq hmk2 HB5 HP5 HR5 HBM5 HBP5
  go_wp2_with fail
  go_ret
  exact ⟨_, _, _, _, _, _, _, s, rfl, HMM.out, by have := HSZ.out; omega, HG2.out, HBZ.out⟩
end Go.Proofs.Ytakojlgoelbjmaa
