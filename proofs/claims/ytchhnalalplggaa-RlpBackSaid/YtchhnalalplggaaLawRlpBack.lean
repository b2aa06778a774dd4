/- The law RlpBack. -/
import Derived.Test.YtchhnalalplggaaRlPlain
import Derived.Test.YtchhnalalplggaaRlEncode
import Derived.Test.YtchhnalalplggaaLawRlpDecode
import Derived.Test.YtchhnalalplggaaRlWakes
import Derived.Test.YtchhnalalplggaaRlDs
import Derived.Test.YtchhnalalplggaaLawRlpNumbers
namespace Go.Proofs.Ytchhnalalplggaa
open Go.RowKit

mutual
theorem ReadR.err' {raw d o} (h : ReadR raw d o) : ∀ k, o = .error k → k ≠ 0 := by
  match h with
  | .bad _ => intro k e; injection e with e; omega
  | .text _ => intro k e; cases e
  | .deep _ => intro k e; injection e with e; omega
  | .list _ _ _ => intro k e; cases e
  | .wrong _ _ r => intro k e; injection e with e; exact r.err' k (by rw [e])
theorem RowR.err' {u d o} (h : RowR u d o) : ∀ k, o = .error k → k ≠ 0 := by
  match h with
  | .nil => intro k e; cases e
  | .cons _ _ _ => intro k e; cases e
  | .here _ r => intro k e; injection e with e; exact r.err' k (by rw [e])
  | .behind _ _ r => intro k e; injection e with e; exact r.err' k (by rw [e])
end
/-- What Decode tells: an error and nothing else, or the whole's item. -/
theorem decR_two {raw : List Nat} {o : Except Nat (Itm × List Nat)} (h : ReadR raw 0 o) : ((decR o).2 ≠ 0 ∧ (decR o).1 = .text []) ∨ ∃ x, o = .ok (x, []) := by
  cases o with
  | error k => exact .inl ⟨h.err' k rfl, rfl⟩
  | ok q =>
    obtain ⟨x, r⟩ := q
    rcases Nat.eq_zero_or_pos r.length with h0 | h0
    · have e := List.eq_nil_of_length_eq_zero h0
      subst e
      exact .inr ⟨x, rfl⟩
    · have e : decR (.ok (x, r)) = (.text [], 2) := if_neg (by omega)
      exact .inl (by rw [e]; exact ⟨by decide, rfl⟩)
/-- An item, whatever block it lies in. -/
def Fact.itm (x : Itm) : Fact := ⟨fun v w => IAt (fun _ => True) w v x, fun _ _ _ hb h => h.keep hb⟩

section
variable {ops : Array Oper} {T : Facts} {o : Oper} {a : Act} {w : World}
theorem op_neE {z : Int} (x y : Operand) (t : TypeId) (ho : o.op = .binOp .neq 28 x y t) (hx : a.eval x = .int .i64 z) (hy : a.eval y = .int .i64 z) (hw : Region.wanted o (yielded ops a.tmps) = true) (hf : factTo T o.dst (.bool false) w) : relStep Try.prog ops T o a w :=
  relStep_val (.bool false) hw hf (by
    unfold execOp
    rw [ho]
    simp only [hx, hy]
    go_simp)
theorem op_not {b : Bool} (x : Operand) (t : TypeId) (ho : o.op = .unOp .not t x) (hx : a.eval x = .bool b) (hw : Region.wanted o (yielded ops a.tmps) = true) (hf : factTo T o.dst (.bool (!b)) w) : relStep Try.prog ops T o a w :=
  relStep_val (.bool (!b)) hw hf (by
    unfold execOp
    rw [ho]
    simp only [hx]
    go_simp)
end

set_option maxRecDepth 100000 in
set_option maxHeartbeats 6400000 in
theorem rlpBack_c {S : Nat → Prop} {x : Itm} {vx : Value} {A : Option Addr} {c : Nat} {raw : List Nat} {m : Nat} (w : World) (hx : IAt S w vx x) (h : Rd .u8 w A c raw) (hd : Ds 256 raw) (hm : m < 256) :
    Calls Try.prog 5 #[vx, .slice A raw.length c, .int .u8 (m : Nat)] w (RetV (.bool true) w) := by
  obtain ⟨l0, a0, n0, c0, b0, k0, d0, rfl⟩ := hx.parts
  have hbx : Below w.heap.size w (w.alloc (.cells #[.bool l0, .slice a0 n0 c0, .slice b0 k0 d0] 25)) := (Below.refl _ _).alloc (Nat.le_refl _) _
  have hc3 := heap_alloc_new w (.cells #[.bool l0, .slice a0 n0 c0, .slice b0 k0 d0] 25)
  have K1 := Lib.hid (cut_c _ (hx.keep hbx))
  obtain ⟨y, hy⟩ : ∃ y, y = cutI x := ⟨_, rfl⟩
  rw [← hy] at K1
  have hys := cutI_sz x
  rw [← hy] at hys
  have HYS := Lib.hid hys
  have K2 := Lib.hid (fun (vx : Value) (w : World) (S : Nat → Prop) (h : IAt S w vx y) => encode_c y vx w h (by have := HYS.out; omega))
  have k1 : ∀ (w : World), Rd .u8 w A c raw → Calls Try.prog 16 #[.slice A raw.length c, .int .i64 6000] w (RetR (fun w' v => Byt w' v (raw.take 6000)) w) := fun w h => twin_c w h hd 6000 (by omega) (by omega)
  obtain ⟨p, hp⟩ : ∃ p, p = raw.take 6000 := ⟨_, rfl⟩
  have hpl : p.length ≤ 6000 := by rw [hp, List.length_take]; omega
  have hpt : p.take 6000 = p := List.take_of_length_le hpl
  rw [← hp] at k1
  have k2 : ∀ (w : World) (A : Option Addr) (c : Nat), Rd .u8 w A c p → Ds 256 p → Calls Try.prog 16 #[.slice A p.length c, .int .i64 6000] w (RetR (fun w' v => Byt w' v p) w) := fun w A c h hd => by
    have := twin_c w h hd 6000 (by omega) (by omega)
    rw [hpt] at this
    exact this
  have k3 := fun (w : World) (A : Option Addr) (c : Nat) (h : Rd .u8 w A c p) (hd : Ds 256 p) => decode_c w h hd (by omega)
  have K3 := Lib.hid k1
  have K4 := Lib.hid k2
  have K5 := Lib.hid k3
  have HPL := Lib.hid hpl
  have HM := Lib.hid hm
  have HC3 := Lib.hid hc3
  have HBX := Lib.hid hbx
  have HRD := Lib.hid (h.below hbx)
  obtain ⟨i0, hi, hz0, hz1, hz2⟩ : ∃ i, Try.prog.info? 5 = some i ∧ i.zero = some (.int .u8 0) ∧ i.size = 1 ∧ i.bytes = 1 := info_parts info8
  obtain ⟨R, hR⟩ : ∃ R, R = raw.length := ⟨_, rfl⟩
  obtain ⟨L, hL⟩ : ∃ L, L = p.length := ⟨_, rfl⟩
  rw [← hR] at K3 ⊢
  simp only [← hL] at K4 K5
  have HL := Lib.hid hL
  clear hx h hd hm hys hpl hpt hp hy hL hR hbx k1 k2 k3
  obtain ⟨x0, x1, x2, -, -, -⟩ := three_cells hc3
  clear hc3
  go_enter Try.func5, Try.ntmps5
  go_wp2_with fail
  (with_reducible refine K1.out.mono ?_)
  rintro e w1 ⟨v1, rfl, hi1, hb1⟩
  obtain ⟨l1, a1, n1, c1, b1, k1, d1, rfl⟩ := hi1.parts
  have hA : Below w1.heap.size w1 (w1.alloc (.cells #[.bool l1, .slice a1 n1 c1, .slice b1 k1 d1] 25)) := (Below.refl _ _).alloc (Nat.le_refl _) _
  have hc7 := heap_alloc_new w1 (.cells #[.bool l1, .slice a1 n1 c1, .slice b1 k1 d1] 25)
  have C := Lib.hid (K2.out _ _ _ (hi1.keep hA))
  have HI1 := Lib.hid (hi1.keep hA)
  have HC7 := Lib.hid hc7
  have HB1 := Lib.hid ((HBX.out.trans (hb1.mono HBX.out.size)).trans (hA.mono (Nat.le_trans HBX.out.size hb1.size)))
  have HRD1 := Lib.hid ((HRD.out.below hb1).below hA)
  obtain ⟨y0, y1, y2, -, -, -⟩ := three_cells hc7
  have HW1 : Hid (w.heap.size ≤ w1.heap.size) := by show _ ≤ _; have h1 := HBX.out.size; have h2 := hb1.size; omega
  clear hi1 hb1 hA hc7 x0 x1 x2 K1 HRD HBX HC3
  go_wp2_with fail
  (with_reducible refine C.out.mono ?_)
  rintro e w2 ⟨hb2, hcase⟩
  have HI2 := Lib.hid (HI1.out.keep hb2)
  have HC72 := Lib.hid ((hb2.block _ (heap_lt2 HC7.out)).trans HC7.out)
  have HRD2 := Lib.hid (HRD1.out.below hb2)
  have HB2 := Lib.hid (HB1.out.trans (hb2.mono HB1.out.size))
  have HW2 := Lib.hid hb2.size
  clear hb2 C y0 y1 y2 HI1 HC7 HRD1 HB1
  rcases hcase with ⟨hk, v8, rfl, hacc8⟩ | ⟨hk, rfl⟩
  case' inl =>
    have hfs : Ds 256 (form y) := HI2.out.form_ds (by have := HYS.out; omega)
    have hfl : (form y).length = fsz y := form_len y
    have hfp := fsz_pos y
    obtain ⟨fy, hfy⟩ : ∃ fy, fy = form y := ⟨_, rfl⟩
    have hr0 : ReadR (fy ++ []) 0 (.ok (plainI y, [])) := by rw [hfy]; exact read_form0 [] hk (by have := HYS.out; omega)
    have hr1 : ReadR (fy ++ [m]) 0 (.ok (plainI y, [m])) := by rw [hfy]; exact read_form0 [m] hk (by have := HYS.out; omega)
    rw [List.append_nil] at hr0
    rw [← hfy] at hfs hfl hacc8
    have HR0 := Lib.hid hr0
    have HR1 := Lib.hid hr1
    have HFS := Lib.hid hfs
    have HFS1 : Hid (Ds 256 (fy ++ [m])) := hfs.append (Ds.mk HM.out Ds.nil)
    have HFL : Hid (0 < fy.length ∧ fy.length ≤ 1227000) := by show _ ∧ _; have := HYS.out; omega
    obtain ⟨A8, c8, rfl⟩ := hacc8.form
    have HA8 := Lib.hid hacc8.rd
    obtain ⟨b8, o8, rfl, -, -⟩ := hacc8.rd.at_ HFL.out.1
    have HAC := Lib.hid (acc_empty w2)
    have HBE : Hid (Below w2.heap.size w2 (w2.alloc (.cells #[] 5))) := (Below.refl _ _).alloc (Nat.le_refl _) _
    have HSE : Hid ((w2.alloc (.cells #[] 5)).heap.size = w2.heap.size + 1) := by show _ = _; simp
    have HNW := Lib.hid (HA8.out.alloc (.cells #[] 5)).news
    obtain ⟨F, hF⟩ : ∃ F, F = fy.length := ⟨_, rfl⟩
    rw [← hF]
    have HF := Lib.hid hF
    have hFb : F ≤ 1227000 := by have := HFL.out; omega
    clear hk hacc8 hfs hfl hfp hr0 hr1 hF hfy
    go_wp2_with (at_builtin; refine wpList_append_own _ rfl (.tmp 29) (.tmp 30) 22 rfl w2.heap.size 5 i0 (.int .u8 0) 1 1 Try.underlying22 hi hz0 hz1 hz2 rfl (by decide) (.slice (some ⟨w2.heap.size, 0, none⟩) 0 0) 0 [] rfl HAC.out ⟨b8, o8, none⟩ F c8 (bv fy) rfl (by rw [bv_length, HF.out]; omega) HNW.out (by intro u hu; simp [bv] at hu; obtain ⟨x, _, rfl⟩ := hu; rfl) (by unfold maxLen; omega) (by omega) (by rw [HSE.out]; omega) ?_)
    intro v' w3 hown hg _
    have hacc : Acc w3 w2.heap.size v' fy := by
      unfold Acc
      have h := hown
      rw [HF.out] at h
      simpa using h
    have hb3 : Below w2.heap.size w2 w3 := HBE.out.grown hg (by rw [HSE.out]; omega) (fun k hk => by simp [Value.ownBlock] at hk; omega)
    obtain ⟨A9, c9, rfl⟩ := hacc.form
    have C3 := Lib.hid (decode_c w3 hacc.rd HFS.out (by rw [← HF.out]; omega))
    rw [← HF.out] at C3 ⊢
    have HB3 := Lib.hid hb3
    have HI3 := Lib.hid (HI2.out.keep hb3)
    have HC73 := Lib.hid ((hb3.block _ (heap_lt2 HC72.out)).trans HC72.out)
    have HRD3 := Lib.hid (HRD2.out.below hb3)
    have HA83 := Lib.hid (HA8.out.below hb3)
    have HB03 := Lib.hid (HB2.out.trans (hb3.mono HB2.out.size))
    clear hacc hown hg hb3 HAC HBE HSE HNW HA8 HB3 HRD2 HC72 HI2 HB2
    go_wp2_with fail
    (with_reducible refine C3.out.mono ?_)
    rintro e w4 ⟨hb4, o, vz, ho, rfl, hz⟩
    obtain rfl := ho.det HR0.out
    obtain ⟨lz, az, nz, cz, bz, kz, dz, rfl⟩ := hz.parts
    have hz' : IAt (fun b => w3.heap.size ≤ b) w4 (.agg #[.bool lz, .slice az nz cz, .slice bz kz dz]) (plainI y) := hz
    have hA : Below w4.heap.size w4 (w4.alloc (.cells #[.bool lz, .slice az nz cz, .slice bz kz dz] 25)) := (Below.refl _ _).alloc (Nat.le_refl _) _
    have HC10 := Lib.hid (heap_alloc_new w4 (.cells #[.bool lz, .slice az nz cz, .slice bz kz dz] 25))
    have HIZ := Lib.hid (hz'.keep hA)
    have hbA := hb4.trans (hA.mono hb4.size)
    have HI4 := Lib.hid (HI3.out.keep hbA)
    have HC74 := Lib.hid ((hbA.block _ (heap_lt2 HC73.out)).trans HC73.out)
    have HRD4 := Lib.hid (HRD3.out.below hbA)
    have HA84 := Lib.hid (HA83.out.below hbA)
    have HB04 := Lib.hid (HB03.out.trans (hbA.mono HB03.out.size))
    have hdec : ((decR (.ok (plainI y, []))).2 : Nat) = 0 := rfl
    clear ho hz hz' hA hbA hb4 C3 HI3 HC73 HRD3 HA83 HB03
    go_upto_region 5 with (fail)
    generalize hw5 : w4.alloc (.cells #[.bool lz, .slice az nz cz, .slice bz kz dz] 25) = w5 at *
    clear hw5
    have HAC := Lib.hid (acc_empty w5)
    have HBE : Hid (Below w5.heap.size w5 (w5.alloc (.cells #[] 5))) := (Below.refl _ _).alloc (Nat.le_refl _) _
    have HSE : Hid ((w5.alloc (.cells #[] 5)).heap.size = w5.heap.size + 1) := by show _ = _; simp
    have HNW := Lib.hid (HA84.out.alloc (.cells #[] 5)).news
    go_wp2_with (at_builtin; refine wpList_append_own _ rfl (.tmp 36) (.tmp 37) 22 rfl w5.heap.size 5 i0 (.int .u8 0) 1 1 Try.underlying22 hi hz0 hz1 hz2 rfl (by decide) (.slice (some ⟨w5.heap.size, 0, none⟩) 0 0) 0 [] rfl HAC.out ⟨b8, o8, none⟩ F c8 (bv fy) rfl (by rw [bv_length, HF.out]; omega) HNW.out (by intro u hu; simp [bv] at hu; obtain ⟨x, _, rfl⟩ := hu; rfl) (by unfold maxLen; omega) (by omega) (by rw [HSE.out]; omega) ?_)
    intro v' w6 hown hg _
    have hacc : Acc w6 w5.heap.size v' fy := by
      unfold Acc
      have h := hown
      rw [HF.out] at h
      simpa using h
    have hb3 : Below w5.heap.size w5 w6 := HBE.out.grown hg (by rw [HSE.out]; omega) (fun k hk => by simp [Value.ownBlock] at hk; omega)
    obtain ⟨A10, c10, rfl⟩ := hacc.form
    have hb3' : Below w5.heap.size w5 (w6.alloc (.cells #[.int .u8 (m : Int)] 5)) := hb3.alloc hb3.size _
    have HAC2 : Hid ((w6.alloc (.cells #[.int .u8 (m : Int)] 5)).ownsRow w5.heap.size 5 1 (.slice A10 fy.length c10) fy.length (bv fy)) := World.ownsRow.alloc hacc _
    have HS6 := Lib.hid hb3.size
    have HB56 := Lib.hid hb3'
    rw [← HF.out] at HAC2 ⊢
    clear hacc hown hg hb3 hb3' HAC HBE HSE HNW
    go_wp2_with (at_builtin; refine wpList_append_own _ rfl (.tmp 38) (.tmp 40) 22 rfl w5.heap.size 5 i0 (.int .u8 0) 1 1 Try.underlying22 hi hz0 hz1 hz2 rfl (by decide) (.slice A10 F c10) F (bv fy) rfl HAC2.out ⟨w6.heap.size, 0, none⟩ 1 1 [.int .u8 (m : Int)] rfl rfl one_cells (by intro u hu; simp at hu; subst hu; rfl) (by unfold maxLen; omega) (by omega) (by have := HS6.out; simp; omega) ?_)
    intro v' w7 hown hg _
    have hacc : Acc w7 w5.heap.size v' (fy ++ [m]) := by
      unfold Acc
      rw [bv_append, List.length_append, ← HF.out]
      exact hown
    have hb3 : Below w5.heap.size w5 w7 := HB56.out.grown hg (by have := HS6.out; simp; omega) (fun k hk => (World.ownsRow.lt HAC2.out k hk).1)
    obtain ⟨A11, c11, rfl⟩ := hacc.form
    have hF1 : (fy ++ [m]).length = F + 1 := by rw [List.length_append, ← HF.out]; rfl
    have C3 := Lib.hid (decode_c w7 hacc.rd HFS1.out (by rw [hF1]; omega))
    rw [hF1] at C3 ⊢
    have HI5 := Lib.hid (HI4.out.keep hb3)
    have HIZ5 := Lib.hid (HIZ.out.keep hb3)
    have HC75 := Lib.hid ((hb3.block _ (heap_lt2 HC74.out)).trans HC74.out)
    have HC105 := Lib.hid ((hb3.block _ (heap_lt2 HC10.out)).trans HC10.out)
    have HRD5 := Lib.hid (HRD4.out.below hb3)
    have HB05 := Lib.hid (HB04.out.trans (hb3.mono HB04.out.size))
    clear hacc hown hg hb3 hF1 HI4 HIZ HC74 HC10 HRD4 HB04 HAC2 HS6 HB56
    go_wp2_with fail
    (with_reducible refine C3.out.mono ?_)
    rintro e w8 ⟨hb4, o, vz, ho, rfl, hz⟩
    obtain rfl := ho.det HR1.out
    obtain ⟨lq, aq, nq, cq, bq, kq, dq, rfl⟩ := hz.parts
    have hA : Below w8.heap.size w8 (w8.alloc (.cells #[.bool lq, .slice aq nq cq, .slice bq kq dq] 25)) := (Below.refl _ _).alloc (Nat.le_refl _) _
    have hbA := hb4.trans (hA.mono hb4.size)
    have HI6 := Lib.hid (HI5.out.keep hbA)
    have HIZ6 := Lib.hid (HIZ5.out.keep hbA)
    have HC76 := Lib.hid ((hbA.block _ (heap_lt2 HC75.out)).trans HC75.out)
    have HC106 := Lib.hid ((hbA.block _ (heap_lt2 HC105.out)).trans HC105.out)
    have HRD6 := Lib.hid (HRD5.out.below hbA)
    have HB06 := Lib.hid (HB05.out.trans (hbA.mono HB05.out.size))
    have hdec1 : ((decR (.ok (plainI y, [m]))).2 : Nat) = 2 := rfl
    clear ho hz hA hbA hb4 C3 HI5 HIZ5 HC75 HC105 HRD5 HB05
    go_upto_region 6 with (fail)
    generalize hw5 : w8.alloc (.cells #[.bool lq, .slice aq nq cq, .slice bq kq dq] 25) = w9 at *
    clear hw5
    have HISZ : Hid (isz (plainI y) ≤ 1099511627776) := by
      have h1 := HR0.out.isz
      have := HFL.out
      exact Lib.hid (by omega)
    refine wp_region_see 13 [45, 46, 47, 48, 49, 50, 51, 52, 53, 54, 55, 56, 57] [(45, .is (.int .i64 0)), (46, .is (.bool false)), (47, .is (.bool false)), (48, .itm (plainI y)), (49, .itm y), (50, .itm (plainI y)), (51, .is (.bool true)), (52, .is (.bool false)), (53, .is (.bool false)), (54, .is (.bool false)), (55, .is (.int .i64 2)), (56, .is (.bool false)), (57, .is (.bool false))] (by kernel_rfl) (by kernel_rfl) (by rfl) ?_ ?_
    · refine seeOps_cons ?_ (seeOps_cons ?_ (seeOps_cons ?_ (seeOps_cons ?_ (seeOps_cons ?_ (seeOps_cons ?_ (seeOps_cons ?_ (seeOps_cons ?_ (seeOps_cons ?_ (seeOps_cons ?_ (seeOps_cons ?_ (seeOps_cons ?_ (seeOps_cons ?_ (seeOps_nil)))))))))))))
      · intro w2 hb2 fr hout hin
        have h11 : fr.tmps.getD 11 undef = .int .i64 0 := hout 11 (by decide)
        clear hout hin
        exact relStep_move (.tmp 11) rfl (wanted_none rfl) (by show fr.tmps.getD 11 undef = _; rw [h11])
      · intro w2 hb2 fr hout hin
        have h45 : fr.tmps.getD 45 undef = .int .i64 0 := hin 45 (by decide) (by decide)
        clear hout hin
        exact op_neE (.tmp 45) (.const (.int .i64 0)) _ rfl h45 rfl (wanted_none rfl) rfl
      · intro w2 hb2 fr hout hin
        have h46 : fr.tmps.getD 46 undef = .bool false := hin 46 (by decide) (by decide)
        clear hout hin
        exact relStep_move (.tmp 46) rfl (wanted_none rfl) (by show fr.tmps.getD 46 undef = _; rw [h46])
      · intro w2 hb2 fr hout hin
        have h10 : fr.tmps.getD 10 undef = .pointer (some ⟨w4.heap.size, 0, none⟩) := hout 10 (by decide)
        have h47 : fr.tmps.getD 47 undef = .bool false := hin 47 (by decide) (by decide)
        clear hout hin
        exact op_loadRow (.tmp 10) rfl h10 (run_loadVar_row w2 _ 25 _ _ _ _ ((hb2.block _ (heap_lt2 HC106.out)).trans HC106.out) Try.underlying25 rfl infoItem) (wanted_some (g := 2) (t := 47) (b := false) rfl rfl h47) ((HIZ6.out.mono (fun _ _ _ => trivial)).keep hb2)
      · intro w2 hb2 fr hout hin
        have h7 : fr.tmps.getD 7 undef = .pointer (some ⟨w1.heap.size, 0, none⟩) := hout 7 (by decide)
        have h47 : fr.tmps.getD 47 undef = .bool false := hin 47 (by decide) (by decide)
        clear hout hin
        exact op_loadRow (.tmp 7) rfl h7 (run_loadVar_row w2 _ 25 _ _ _ _ ((hb2.block _ (heap_lt2 HC76.out)).trans HC76.out) Try.underlying25 rfl infoItem) (wanted_some (g := 2) (t := 47) (b := false) rfl rfl h47) ((HI6.out.mono (fun _ _ _ => trivial)).keep hb2)
      · intro w2 hb2 fr hout hin
        have h49 : IAt (fun _ => True) w2 (fr.tmps.getD 49 undef) (y) := hin 49 (by decide) (by decide)
        have h47 : fr.tmps.getD 47 undef = .bool false := hin 47 (by decide) (by decide)
        clear hout hin
        exact op_call1 (R := fun w' v => IAt (fun _ => True) w' v (plainI y)) (.tmp 49) rfl en_plain (wanted_some (g := 2) (t := 47) (b := false) rfl rfl h47) ((plain_c y w2.heap.size w2 _ (Nat.le_refl _) (h49.mono fun b hb _ => hb) (by have := HYS.out; omega)).mono fun e w' ⟨v, he, hv, hb⟩ => ⟨v, he, hv.mono (fun _ _ _ => trivial), hb⟩) (fun _ _ h => h)
      · intro w2 hb2 fr hout hin
        have h48 : IAt (fun _ => True) w2 (fr.tmps.getD 48 undef) ((plainI y)) := hin 48 (by decide) (by decide)
        have h50 : IAt (fun _ => True) w2 (fr.tmps.getD 50 undef) ((plainI y)) := hin 50 (by decide) (by decide)
        have h47 : fr.tmps.getD 47 undef = .bool false := hin 47 (by decide) (by decide)
        clear hout hin
        exact op_callB (.tmp 48) (.tmp 50) rfl en_same (wanted_some (g := 2) (t := 47) (b := false) rfl rfl h47) ((same_c (plainI y) _ _ _ _ _ HISZ.out h48 h50).mono fun e w' hk => hk.ret) (fun _ _ h => h)
      · intro w2 hb2 fr hout hin
        have h51 : fr.tmps.getD 51 undef = .bool true := hin 51 (by decide) (by decide)
        have h47 : fr.tmps.getD 47 undef = .bool false := hin 47 (by decide) (by decide)
        clear hout hin
        exact op_not (b := true) (.tmp 51) _ rfl h51 (wanted_some (g := 2) (t := 47) (b := false) rfl rfl h47) rfl
      · intro w2 hb2 fr hout hin
        have h47 : fr.tmps.getD 47 undef = .bool false := hin 47 (by decide) (by decide)
        have h52 : fr.tmps.getD 52 undef = .bool false := hin 52 (by decide) (by decide)
        clear hout hin
        exact relStep_pickF (.tmp 47) (.const (.bool true)) (.tmp 52) rfl h47 (wanted_none rfl) (by show fr.tmps.getD 52 undef = _; rw [h52])
      · intro w2 hb2 fr hout hin
        have h53 : fr.tmps.getD 53 undef = .bool false := hin 53 (by decide) (by decide)
        clear hout hin
        exact relStep_move (.tmp 53) rfl (wanted_none rfl) (by show fr.tmps.getD 53 undef = _; rw [h53])
      · intro w2 hb2 fr hout hin
        have h13 : fr.tmps.getD 13 undef = .int .i64 2 := hout 13 (by decide)
        have h54 : fr.tmps.getD 54 undef = .bool false := hin 54 (by decide) (by decide)
        clear hout hin
        exact relStep_move (.tmp 13) rfl (wanted_some (g := 9) (t := 54) (b := false) rfl rfl h54) (by show fr.tmps.getD 13 undef = _; rw [h13])
      · intro w2 hb2 fr hout hin
        have h55 : fr.tmps.getD 55 undef = .int .i64 2 := hin 55 (by decide) (by decide)
        have h54 : fr.tmps.getD 54 undef = .bool false := hin 54 (by decide) (by decide)
        clear hout hin
        exact op_neE (.tmp 55) (.const (.int .i64 2)) _ rfl h55 rfl (wanted_some (g := 9) (t := 54) (b := false) rfl rfl h54) rfl
      · intro w2 hb2 fr hout hin
        have h54 : fr.tmps.getD 54 undef = .bool false := hin 54 (by decide) (by decide)
        have h56 : fr.tmps.getD 56 undef = .bool false := hin 56 (by decide) (by decide)
        clear hout hin
        exact relStep_pickF (.tmp 54) (.const (.bool true)) (.tmp 56) rfl h54 (wanted_none rfl) (by show fr.tmps.getD 56 undef = _; rw [h56])
    intro w10 hb10
    refine relAsk_in (by rfl) ?_
    intro v45 h45
    obtain rfl : v45 = .int .i64 0 := h45
    refine relAsk_in (by rfl) ?_
    intro v46 h46
    obtain rfl : v46 = .bool false := h46
    refine relAsk_in (by rfl) ?_
    intro v47 h47
    obtain rfl : v47 = .bool false := h47
    refine relAsk_in (by rfl) ?_
    intro v48 h48
    clear h48
    refine relAsk_in (by rfl) ?_
    intro v49 h49
    clear h49
    refine relAsk_in (by rfl) ?_
    intro v50 h50
    clear h50
    refine relAsk_in (by rfl) ?_
    intro v51 h51
    obtain rfl : v51 = .bool true := h51
    refine relAsk_in (by rfl) ?_
    intro v52 h52
    obtain rfl : v52 = .bool false := h52
    refine relAsk_in (by rfl) ?_
    intro v53 h53
    obtain rfl : v53 = .bool false := h53
    refine relAsk_in (by rfl) ?_
    intro v54 h54
    obtain rfl : v54 = .bool false := h54
    refine relAsk_in (by rfl) ?_
    intro v55 h55
    obtain rfl : v55 = .int .i64 2 := h55
    refine relAsk_in (by rfl) ?_
    intro v56 h56
    obtain rfl : v56 = .bool false := h56
    refine relAsk_in (by rfl) ?_
    intro v57 h57
    obtain rfl : v57 = .bool false := h57
    refine relAsk_nil ?_
    refine wpList_nil ?_
    have HRD7 := Lib.hid (HRD6.out.below hb10)
    have HB7 := Lib.hid (HB06.out.trans (hb10.mono HB06.out.size))
    clear hb10 HI6 HIZ6 HC76 HC106 HRD6 HB06
    go_simp
    generalize w10 = wn at *
    go_wp2_with fail
    (with_reducible refine (K3.out _ HRD7.out).mono ?_)
    clear hFb hdec hdec1 HF HFL HFS HFS1 HR0 HR1 HISZ HW2 HW1 HYS HM K2
  case' inr =>
    have HRD7 := HRD2
    have HB7 := HB2
    generalize w2 = wn at *
    go_wp2_with fail
    (with_reducible refine (K3.out _ HRD7.out).mono ?_)
    clear HW2 HW1 HYS HM K2
  all_goals
    rintro e u1 ⟨v1, rfl, ⟨Ap, cp, rfl, hr1, hd1⟩, hb1⟩
    rw [← HL.out]
    have HP1 := Lib.hid hr1
    have HDP := Lib.hid hd1
    have HB8 := Lib.hid (HB7.out.trans (hb1.mono HB7.out.size))
    clear hr1 hd1 hb1 HB7 HRD7 K3
    go_wp2_with fail
    (with_reducible refine (K4.out _ _ _ HP1.out HDP.out).mono ?_)
    rintro e u2 ⟨v2, rfl, ⟨Aq, cq, rfl, hr2, hd2⟩, hb2⟩
    rw [← HL.out]
    have HP2 := Lib.hid (HP1.out.below hb2)
    have HQ2 := Lib.hid hr2
    have HB9 := Lib.hid (HB8.out.trans (hb2.mono HB8.out.size))
    clear hr2 hd2 hb2 HB8 HP1 K4
    go_wp2_with fail
    (with_reducible refine (K5.out _ _ _ HQ2.out HDP.out).mono ?_)
    rintro e u3 ⟨hb3, o, vx, ho, rfl, hx⟩
    have HP3 := Lib.hid (HP2.out.below hb3)
    have HB10 := Lib.hid (HB9.out.trans (hb3.mono HB9.out.size))
    clear hb3 HB9 HP2 HQ2 K5
    rcases decR_two ho with ⟨hk, hx0⟩ | ⟨xo, rfl⟩
    · rw [hx0] at hx
      obtain ⟨lv, av, nv, cv, bv', kv, dv, rfl⟩ := hx.parts
      obtain ⟨e1, ⟨_, _, e2, -, -⟩, _, _, _, _, _, e3, -⟩ := hx.inv
      injection e1 with e1
      injection e2 with f1 e2 f2
      injection e3 with f3 e3 f4
      clear f1 f2 f3 f4
      replace e2 : nv = 0 := e2
      replace e3 : kv = 0 := e3
      subst e1 e2 e3
      obtain ⟨k, hk'⟩ : ∃ k, k = (decR o).2 := ⟨_, rfl⟩
      rw [← hk'] at hk ⊢
      have hk2 : ((k : Int) != 0) = true := by simp; omega
      have hA : Below u3.heap.size u3 (u3.alloc (.cells #[.bool false, .slice av 0 cv, .slice bv' 0 dv] 25)) := (Below.refl _ _).alloc (Nat.le_refl _) _
      have HB11 := Lib.hid (HB10.out.trans (hA.mono HB10.out.size))
      obtain ⟨z0, z1, z2, -, -, -⟩ := three_cells (heap_alloc_new u3 (.cells #[.bool false, .slice av 0 cv, .slice bv' 0 dv] 25))
      clear ho hx0 hx hk hk' hA HB10
      go_wp2_with fail
      (with_reducible refine (rwakes_c _).mono ?_)
      rintro e u4 ⟨rfl, hb4⟩
      have HB12 := Lib.hid (HB11.out.trans (hb4.mono HB11.out.size))
      clear hb4 HB11 z0 z1 z2
      go_wp2_with fail
      go_ret
      exact ⟨rfl, HB12.out⟩
    · have hx1 : IAt (fun _ => True) u3 vx xo := hx.mono (fun _ _ _ => trivial)
      obtain ⟨hpe, hok, -⟩ := read_back0 ho HDP.out (by have := HPL.out; omega)
      rw [List.append_nil] at hpe
      have hfs : fsz xo ≤ 6000 := by have := form_len xo; rw [← hpe] at this; have := HPL.out; omega
      obtain ⟨lv, av, nv, cv, bv', kv, dv, rfl⟩ := hx1.parts
      have hA : Below u3.heap.size u3 (u3.alloc (.cells #[.bool lv, .slice av nv cv, .slice bv' kv dv] 25)) := (Below.refl _ _).alloc (Nat.le_refl _) _
      have HB11 := Lib.hid (HB10.out.trans (hA.mono HB10.out.size))
      have HP4 := Lib.hid (HP3.out.below hA)
      have hdec2 : ((decR (.ok (xo, []))).2 : Nat) = 0 := rfl
      have C := Lib.hid (encode_c xo _ _ (hx1.keep hA) (by omega))
      have HOK := Lib.hid hok
      have HPE := Lib.hid hpe
      obtain ⟨z0, z1, z2, -, -, -⟩ := three_cells (heap_alloc_new u3 (.cells #[.bool lv, .slice av nv cv, .slice bv' kv dv] 25))
      clear ho hx hx1 hpe hok hfs hA HB10 HP3
      go_wp2_with fail
      (with_reducible refine C.out.mono ?_)
      rintro e u4 ⟨hb4, hcase⟩
      rcases hcase with ⟨-, v8, rfl, hacc8⟩ | ⟨hk, rfl⟩
      · rw [← HPE.out] at hacc8
        obtain ⟨A8, c8, rfl⟩ := hacc8.form
        have s1 := run_sOf (show Byt u4 (.slice A8 p.length c8) p from ⟨_, _, rfl, hacc8.rd, HDP.out⟩)
        have s2 := run_sOf (show Byt u4 (.slice Ap p.length cp) p from ⟨_, _, rfl, HP4.out.below hb4, HDP.out⟩)
        have HB12 := Lib.hid (HB11.out.trans (hb4.mono HB11.out.size))
        rw [← HL.out] at s1 s2 ⊢
        clear hacc8 hb4 HB11 HP4 z0 z1 z2 C
        go_wp2_with fail
        (with_reducible refine (rwakes_c _).mono ?_)
        rintro e u5 ⟨rfl, hb5⟩
        have HB13 := Lib.hid (HB12.out.trans (hb5.mono HB12.out.size))
        clear hb5 HB12 s1 s2
        go_wp2_with fail
        go_ret
        exact ⟨rfl, HB13.out⟩
      · exact absurd hk (by rw [HOK.out]; decide)
end Go.Proofs.Ytchhnalalplggaa
