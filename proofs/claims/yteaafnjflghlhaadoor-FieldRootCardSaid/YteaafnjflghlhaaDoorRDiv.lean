/- The contracts of package quarryref02's DivMod and Mod. -/
import Derived.Test.YteaafnjflghlhaaDoorRCmp
import Derived.Test.YteaafnjflghlhaaDoorRLess
import Derived.Test.YteaafnjflghlhaaDoorDig
import Derived.Test.YteaafnjflghlhaaDoorRBit
import Derived.Test.YteaafnjflghlhaaDoorRShl
import Derived.Deep.DeepCutAuto
import Derived.Deep.QuietTactic
import Derived.BigQuiet
import Derived.Deep.CutBlock
namespace Go.Proofs.YteaafnjflghlhaaDoor
open Go.RowKit

/-- Two numbers are told. -/
def RetTwo (a b L M : Nat) (w : World) (e : Ending) (w' : World) : Prop := ∃ u v, e = .returned (.tuple #[u, v]) ∧ Num w' u a L ∧ Num w' v b M ∧ Below w.heap.size w w'

set_option maxRecDepth 100000 in
set_option maxHeartbeats 6400000 in
theorem rdiv_less {A B : Option Addr} {c d a b : Nat} {xs ys : List Nat} (w : World) (h : Rd .u32 w A c xs) (h' : Rd .u32 w B d ys) (hx : Can 4294967296 xs a) (hy : Can 4294967296 ys b) (hl : xs.length ≤ 4194304) (hab : a < b) :
    Calls Tryd.prog 52 #[.slice A xs.length c, .slice B ys.length d] w (RetTwo (a / b) (a % b) xs.length ys.length w) := by
  have hC := rcmp_c w h h' hx hy (by omega)
  have ho : ordI a b = -1 := if_pos hab
  rw [ho] at hC
  have HC := Lib.hid hC
  have H1 : Hid (a / b = 0 ∧ a % b = a) := ⟨Nat.div_eq_of_lt hab, Nat.mod_eq_of_lt hab⟩
  have HR := Lib.hid h
  have HX := Lib.hid hx
  have HY := Lib.hid hy
  have HAB := Lib.hid hab
  clear hC ho h h' hx hy hab
  go_enter Tryd.func52, Tryd.ntmps52
  go_wp2_with fail
  (with_reducible refine HC.out.mono ?_)
  rintro e w' ⟨rfl, nd, rfl⟩
  go_wp2_with fail
  go_ret2
  refine ⟨_, _, rfl, ?_, ?_, ?_⟩
  · rw [H1.out.1]; exact (Num.nil _).mono (by omega)
  · rw [H1.out.2]
    have hlen : xs.length ≤ ys.length := HX.out.len_le (by omega) (Nat.lt_trans HAB.out HY.out.lt)
    exact ⟨_, _, xs, rfl, HR.out.drewN nd, HX.out, hlen⟩
  · exact Below.drewN_ _ _ _

theorem shift_of {ys : List Nat} {b : Nat} (hy : Can 4294967296 ys b) (hb : 0 < b) : ∃ S, blen b + S = 32 * ys.length ∧ S < 32 := by
  have h1 := hy.lt
  rw [pow32] at h1
  have h0 : 0 < ys.length := by
    rcases Nat.eq_zero_or_pos ys.length with h | h
    · rw [h] at h1; simp at h1; omega
    · exact h
  have h2 := hy.ge h0
  rw [pow32] at h2
  have a1 := blen_lt b
  have a2 := blen_ge hb
  have h3 : blen b ≤ 32 * ys.length := by
    rcases Nat.lt_or_ge (32 * ys.length) (blen b) with h | h
    · have : (2 : Nat) ^ (32 * ys.length) ≤ 2 ^ (blen b - 1) := Nat.pow_le_pow_right (by omega) (by omega)
      omega
    · exact h
  have h4 : 32 * (ys.length - 1) < blen b := by
    rcases Nat.lt_or_ge (32 * (ys.length - 1)) (blen b) with h | h
    · exact h
    · have : (2 : Nat) ^ blen b ≤ 2 ^ (32 * (ys.length - 1)) := Nat.pow_le_pow_right (by omega) h
      omega
  exact ⟨32 * ys.length - blen b, by omega, by omega⟩
theorem top_pos {ds : List Nat} {D : Nat} (h : Can 4294967296 ds D) (h0 : 0 < ds.length) : 0 < ds.getD (ds.length - 1) 0 := Nat.pos_of_ne_zero (h.2.2 h0)

set_option maxRecDepth 100000 in
set_option maxHeartbeats 12800000 in
theorem rdiv_ge {A B : Option Addr} {c d a b : Nat} {xs ys : List Nat} (w : World) (h : Rd .u32 w A c xs) (h' : Rd .u32 w B d ys) (hx : Can 4294967296 xs a) (hy : Can 4294967296 ys b) (hl : xs.length ≤ 1048576) (hl' : ys.length ≤ 1048576) (hab : b ≤ a) (hb : 0 < b) :
    Calls Tryd.prog 52 #[.slice A xs.length c, .slice B ys.length d] w (RetTwo (a / b) (a % b) xs.length ys.length w) := by
  obtain ⟨S, hS, hS32⟩ := shift_of hy hb
  have hyx : ys.length ≤ xs.length := hy.len_le (by omega) (Nat.lt_of_le_of_lt hab hx.lt)
  have HC := Lib.hid (rcmp_c w h h' hx hy (by omega))
  obtain ⟨o, eo⟩ : ∃ o, o = ordI a b := ⟨_, rfl⟩
  have ho : 0 ≤ o := by rw [eo]; unfold ordI; rw [if_neg (by omega)]; split <;> omega
  rw [← eo] at HC
  have hLn := fun n => rlen_c (w.drewN n) (h'.drewN n) hy (by omega)
  obtain ⟨bl, ebl⟩ : ∃ bl, bl = blen b := ⟨_, rfl⟩
  rw [← ebl] at hLn hS
  have HLn := Lib.hid hLn
  have HBl := Lib.hid ebl
  have vS : (32 : Int) * ys.length - bl = (S : Int) := by omega
  have bS : bl ≤ 33554432 := by omega
  have HA := Lib.hid hab
  have HB0 := Lib.hid hb
  have HX := Lib.hid hx
  have HY := Lib.hid hy
  have HSS := Lib.hid hS
  have HR := Lib.hid h
  have HR' := Lib.hid h'
  clear eo hLn ebl hab hb hx hy hS h h'
  go_enter Tryd.func52, Tryd.ntmps52
  go_wp2_with fail
  (with_reducible refine HC.out.mono ?_)
  rintro e w' ⟨rfl, nd, rfl⟩
  go_wp2_with fail
  (with_reducible refine (HLn.out nd).mono ?_)
  rintro e w' ⟨rfl, rfl⟩
  go_upto_if 32 with (fail)
  go_cut [7, 8] (fun vd vx wr => Num wr vd (b * 2 ^ S) ys.length ∧ Num wr vx (a * 2 ^ S) (xs.length + 1) ∧ Below w.heap.size w wr)
  case first =>
    have hAl : a * 2 ^ S < 4294967296 ^ (xs.length + 1) := by
      rw [Nat.pow_succ]
      have h1 := HX.out.lt
      have h2 : (2 : Nat) ^ S ≤ 4294967296 := by rw [show (4294967296 : Nat) = 2 ^ 32 by decide]; exact Nat.pow_le_pow_right (by omega) (by omega)
      exact Nat.lt_of_lt_of_le (Nat.mul_lt_mul_of_pos_right h1 (Nat.two_pow_pos _)) (Nat.mul_le_mul_left _ h2)
    have hBl : b * 2 ^ S < 4294967296 ^ ys.length := by
      have h1 : b < 2 ^ bl := by
        have := blen_lt b
        have h3 := HSS.out
        have h4 : bl = blen b := HBl.out
        rwa [← h4] at this
      rw [pow32, ← HSS.out, Nat.pow_add]
      exact Nat.mul_lt_mul_of_pos_right h1 (Nat.two_pow_pos _)
    have HAl := Lib.hid hAl
    have HBl2 := Lib.hid hBl
    clear hAl hBl
    rcases Nat.eq_zero_or_pos S with hS0 | hS0
    · have hS1 : ¬ (0 : Int) < (S : Int) := by omega
      have HS0 := Lib.hid hS0
      clear hS0
      go_wp2_with fail
      go_meet
      refine ⟨?_, ?_, Below.drewN_ _ _ _⟩
      · rw [HS0.out, Nat.pow_zero, Nat.mul_one]
        exact ⟨_, _, ys, rfl, HR'.out.drewN _, HY.out, Nat.le_refl _⟩
      · rw [HS0.out, Nat.pow_zero, Nat.mul_one]
        exact ⟨_, _, xs, rfl, HR.out.drewN _, HX.out, by omega⟩
    · go_wp2_with fail
      refine (rshl_c _ (HR'.out.drewN _) HY.out (by omega) S (by omega)).mono ?_
      rintro e w1 ⟨v1, rfl, hv1, hb1⟩
      have hbel1 := (Below.drewN_ w.heap.size w nd).trans hb1
      have HV1 := Lib.hid hv1
      have HBe1 := Lib.hid hbel1
      have H1 := Lib.hid hb1
      clear hv1 hb1 hbel1
      go_wp2_with fail
      refine (rshl_c _ (HR.out.below HBe1.out) HX.out (by omega) S (by omega)).mono ?_
      rintro e w2 ⟨v2, rfl, hv2, hb2⟩
      have HV2 := Lib.hid hv2
      have HB2 := Lib.hid hb2
      clear hv2 hb2
      go_wp2_with fail
      go_meet
      exact ⟨(HV1.out.below HB2.out).small HBl2.out, HV2.out.small HAl.out, HBe1.out.trans (HB2.out.mono HBe1.out.size)⟩
  case rest =>
    obtain ⟨⟨A1, c1, ds, rfl, hrd1, hcan1, hdl⟩, ⟨A2, c2, us, rfl, hrd2, hcan2, hul⟩, hbel⟩ := hcut
    obtain ⟨wb, ewb⟩ : ∃ wb : World, wb = wc := ⟨_, rfl⟩
    subst ewb
    have hD0 : 0 < b * 2 ^ S := Nat.mul_pos HB0.out (Nat.two_pow_pos _)
    have hn0 : 0 < ds.length := by
      rcases Nat.eq_zero_or_pos ds.length with h | h
      · have := List.eq_nil_of_length_eq_zero h
        have := (hcan1.pos (by omega)).1 this
        omega
      · exact h
    have hmk := mk32 ((xs.length : Int) + 2) (xs.length + 2) (by omega) (by omega)
    have hrow0 := Lib.hid (Row.made (k := .u32) wb 65 (xs.length + 2))
    have hb0 : Hid (Below wb.heap.size wb (wb.alloc (.cells (madeCells #[Value.int .u32 0] (xs.length + 2)) 65))) := (Below.refl _ _).alloc (Nat.le_refl _) _
    have HD0 := Lib.hid hD0
    have HC1 := Lib.hid hcan1
    have HC2 := Lib.hid hcan2
    have HRd1 := Lib.hid hrd1
    have HRd2 := Lib.hid hrd2
    clear hD0 hcan1 hcan2 hrd1 hrd2
    go_wp2_with fail
    clear hmk
    go_loopw [10] (fun i wr => ∃ (k : Nat) (zs : List Nat), k ≤ us.length ∧ i = .int .i64 k ∧ zs.length = xs.length + 2 ∧ Ds 4294967296 zs ∧ Hid (dv 4294967296 zs = dv 4294967296 (us.take k) ∧ ∀ j, k ≤ j → zs.getD j 0 = 0) ∧
        Row .u32 wr wb.heap.size 65 zs ∧ Below wb.heap.size wb wr)
      (fun i _ => us.length - (intOf i).toNat)
    case atStart =>
      exact ⟨0, List.replicate (xs.length + 2) 0, by omega, rfl, List.length_replicate, Ds.zeros (by omega) _, ⟨by simp [dv_zeros, dv], fun j hj => by
        rw [List.getD_eq_getElem?_getD, List.getElem?_replicate]; split <;> rfl⟩, hrow0.out, hb0.out⟩
    case round =>
      obtain ⟨k, zs, hk, rfl, hlen, hds, hinv, hrow, hbel2⟩ := hrel
      have HL := Lib.hid hlen
      clear hlen hrow0 hb0
      by_cases hlt : k < us.length
      · obtain ⟨b1, o1, rfl, hb1, hc1⟩ := (HRd2.out.below hbel2).at_ (by omega)
        have cx := hc1 k hlt
        obtain ⟨x, ex⟩ : ∃ x, x = us.getD k 0 := ⟨_, rfl⟩
        rw [← ex] at cx
        have cz := hrow.cell k (by rw [HL.out]; omega)
        have fz := hrow.frozen k
        have hnew : dv 4294967296 (zs.set k x) = dv 4294967296 (us.take (k + 1)) ∧ ∀ j, k + 1 ≤ j → (zs.set k x).getD j 0 = 0 := by
          refine ⟨?_, fun j hj => by rw [getD_set_ne (by omega)]; exact hinv.out.2 j (by omega)⟩
          have e := dv_set (B := 4294967296) zs k x (by rw [HL.out]; omega)
          rw [hinv.out.2 k (Nat.le_refl _)] at e
          rw [dv_take_succ us k hlt, ← hinv.out.1, ← ex]; omega
        have bx : x < 4294967296 := by rw [ex]; exact HC2.out.1.get (by omega) _
        have HN := Lib.hid hnew
        have BX := Lib.hid bx
        clear hc1 ex hnew bx
        go_wp2_with fail
        go_roundw
        case rel => exact ⟨k + 1, zs.set k x, by omega, by go_num, by rw [List.length_set]; exact HL.out, hds.set _ _ BX.out, HN.out, hrow.set _ _, hbel2.setCell (Nat.le_refl _) _⟩
        case measure => simp [intOf] <;> omega
      · obtain rfl : k = us.length := by omega
        have hX : dv 4294967296 zs = a * 2 ^ S := by have := hinv.out.1; rwa [List.take_length, HC2.out.2.1] at this
        have hst : DivInv (a * 2 ^ S) (b * 2 ^ S) (xs.length + 2 - ds.length) (List.replicate (xs.length + 2 - ds.length) 0) zs := by
          refine ⟨by rw [dv_zeros, hX]; omega, ?_, fun j hj => by rw [List.getD_eq_getElem?_getD, List.getElem?_replicate]; split <;> rfl⟩
          rw [hX]
          exact div_start HC1.out (Nat.mul_lt_mul_of_pos_right HX.out.lt (Nat.two_pow_pos _)) (by omega) (by omega) hn0
        have hmk := mk32 ((xs.length : Int) + 2 - ds.length) (xs.length + 2 - ds.length) (by omega) (by omega)
        have HST := Lib.hid hst
        have hgq := hrow.lt
        have hrowC := Lib.hid (hrow.alloc (.cells (madeCells #[Value.int .u32 0] (xs.length + 2 - ds.length)) 65))
        have hrowQ := Lib.hid (Row.made (k := .u32) wr 65 (xs.length + 2 - ds.length))
        have hbel3 := Lib.hid (hbel2.alloc hbel2.size (.cells (madeCells #[Value.int .u32 0] (xs.length + 2 - ds.length)) 65))
        clear hst hX hinv hbel2 hrow
        go_wp2_with fail
        clear hmk
        obtain ⟨wa, ewa⟩ : ∃ wa : World, wa = wr := ⟨_, rfl⟩
        subst ewa
        go_loopw [13, 14, 15, 16, 17] (fun v13 _ _ _ _ wq => ∃ (k : Nat) (qs zs : List Nat), k + ds.length ≤ xs.length + 2 ∧ v13 = .int .i64 ((k : Int) - 1) ∧ qs.length = xs.length + 2 - ds.length ∧ zs.length = xs.length + 2 ∧ Ds 4294967296 qs ∧ Ds 4294967296 zs ∧
            Hid (DivInv (a * 2 ^ S) (b * 2 ^ S) k qs zs) ∧ Row .u32 wq wb.heap.size 65 zs ∧ Row .u32 wq wa.heap.size 65 qs ∧ Below wb.heap.size wb wq)
          (fun v13 _ _ _ _ _ => (intOf v13 + 1).toNat)
        case atStart =>
          exact ⟨xs.length + 2 - ds.length, _, zs, by omega, by go_num, List.length_replicate, HL.out, Ds.zeros (by omega) _, hds, HST.out, hrowC.out, hrowQ.out, hbel3.out⟩
        case round =>
          clear hrowC hrowQ hbel3 hds
          obtain ⟨k, qs, zs, hk, rfl, hql, hzl, hqd, hzd, hinv, hrowC, hrowQ, hbel4⟩ := hrel
          have HQL := Lib.hid hql
          have HZL := Lib.hid hzl
          clear hql hzl
          rcases Nat.eq_zero_or_pos k with rfl | hk0
          · have hend := div_end hinv.out
            obtain ⟨s1, s2⟩ := div_shift a b S
            have hq1 : dv 4294967296 qs = a / b := hend.1.trans s1
            have hr1 : dv 4294967296 zs / 2 ^ S = a % b := by rw [hend.2]; exact s2
            have hrdQ := hrowQ.rd0
            have hrdC := hrowC.rd0
            rw [HQL.out] at hrdQ
            rw [HZL.out] at hrdC
            have hbw := hbel.trans (hbel4.mono hbel.size)
            have hquo : a / b < 4294967296 ^ xs.length := Nat.lt_of_le_of_lt (Nat.div_le_self _ _) HX.out.lt
            have hrem : a % b < 4294967296 ^ ys.length := Nat.lt_trans (Nat.mod_lt _ HB0.out) HY.out.lt
            have HQ1 := Lib.hid hq1
            have HR1 := Lib.hid hr1
            have HRQ := Lib.hid hrdQ
            have HRC := Lib.hid hrdC
            have HBW := Lib.hid hbw
            have HQU := Lib.hid hquo
            have HRE := Lib.hid hrem
            clear hend s1 s2 hq1 hr1 hrdQ hrdC hinv hrowC hrowQ hbw hquo hrem
            rcases Nat.eq_zero_or_pos S with hS0 | hS0
            · have t1 : ((S : Int) == 0) = true := by simp; omega
              have HS0 := Lib.hid hS0
              clear hS0
              go_wp2_with fail
              (with_reducible refine (rtrim_n _ HRQ.out HQL.out hqd (by omega)).mono ?_)
              rintro e w8 ⟨v1, rfl, hv1, rfl⟩
              have HV1 := Lib.hid hv1
              clear hv1
              go_wp2_with fail
              (with_reducible refine (rtrim_n _ HRC.out HZL.out hzd (by omega)).mono ?_)
              rintro e w8 ⟨v2, rfl, hv2, rfl⟩
              have HV2 := Lib.hid hv2
              clear hv2
              go_wp2_with fail
              go_ret2
              have h1 := HV1.out
              rw [HQ1.out] at h1
              have h2 := HV2.out
              have h3 := HR1.out
              rw [HS0.out, Nat.pow_zero, Nat.div_one] at h3
              rw [h3] at h2
              exact ⟨v1, v2, rfl, h1.small HQU.out, h2.small HRE.out, HBW.out⟩
            · have t1 : ((S : Int) == 0) = false := by simp; omega
              go_wp2_with fail
              (with_reducible refine (rtrim_n _ HRQ.out HQL.out hqd (by omega)).mono ?_)
              rintro e w8 ⟨v1, rfl, hv1, rfl⟩
              have HV1 := Lib.hid hv1
              clear hv1
              go_wp2_with fail
              (with_reducible refine (rtrim_n _ HRC.out HZL.out hzd (by omega)).mono ?_)
              rintro e w8 ⟨v2, rfl, hv2, rfl⟩
              have HV2 := Lib.hid hv2
              clear hv2
              go_wp2_with fail
              (with_reducible refine (rshr_n _ HV2.out (by omega) S (by omega)).mono ?_)
              rintro e w9 ⟨v3, rfl, hv3, hb3⟩
              have HV3 := Lib.hid hv3
              have HB3 := Lib.hid hb3
              clear hv3 hb3
              go_wp2_with fail
              go_ret2
              have h1 := HV1.out
              rw [HQ1.out] at h1
              have h3 := HV3.out
              rw [HR1.out] at h3
              exact ⟨v1, v3, rfl, (h1.below HB3.out).small HQU.out, h3.small HRE.out, HBW.out.trans (HB3.out.mono HBW.out.size)⟩
          · obtain ⟨p, rfl⟩ : ∃ p, k = p + 1 := ⟨k - 1, by omega⟩
            rw [show (((p + 1 : Nat) : Int) - 1) = (p : Int) by omega]
            have hrd := HRd1.out.below hbel4
            obtain ⟨b1, o1, rfl, hb1, hc1⟩ := hrd.at_ hn0
            have ct := hc1 (ds.length - 1) (by omega)
            have cz1 := hrowC.cell (p + ds.length) (by rw [HZL.out]; omega)
            have cz0 := hrowC.cell (p + ds.length - 1) (by rw [HZL.out]; omega)
            obtain ⟨dt, edt⟩ : ∃ dt, dt = ds.getD (ds.length - 1) 0 := ⟨_, rfl⟩
            obtain ⟨z1, ez1⟩ : ∃ z, z = zs.getD (p + ds.length) 0 := ⟨_, rfl⟩
            obtain ⟨z0, ez0⟩ : ∃ z, z = zs.getD (p + ds.length - 1) 0 := ⟨_, rfl⟩
            rw [← edt] at ct
            rw [← ez1] at cz1
            rw [← ez0] at cz0
            have bt : dt < 4294967296 := by rw [edt]; exact HC1.out.1.get (by omega) _
            have bt0 : 0 < dt := by rw [edt]; exact top_pos HC1.out hn0
            have b1' : z1 < 4294967296 := by rw [ez1]; exact hzd.get (by omega) _
            have b0' : z0 < 4294967296 := by rw [ez0]; exact hzd.get (by omega) _
            have hge := rguess_ge (i := p) (n := ds.length) HC1.out.1 hzd rfl hn0 (by rw [HZL.out]; omega) (by rw [← edt]; exact bt0) (by rw [HC1.out.2.1]; exact hinv.out.2.1)
            rw [← edt, ← ez1, ← ez0, HC1.out.2.1] at hge
            obtain ⟨tp, etp⟩ : ∃ tp, tp = z1 * 4294967296 + z0 := ⟨_, rfl⟩
            obtain ⟨th, eth⟩ : ∃ th, th = z1 * 4294967296 := ⟨_, rfl⟩
            obtain ⟨gs, egs⟩ : ∃ gs, gs = tp / dt := ⟨_, rfl⟩
            rw [← etp, ← egs] at hge
            have v1 : IntKind.u64.wrap (z1 : Int) = (z1 : Int) := IntWalk.u64_in _ (by omega)
            have v0 : IntKind.u64.wrap (z0 : Int) = (z0 : Int) := IntWalk.u64_in _ (by omega)
            have vt : IntKind.u64.wrap (dt : Int) = (dt : Int) := IntWalk.u64_in _ (by omega)
            have vsh : IntKind.u64.wrap ((z1 : Int) * 4294967296) = (th : Int) := by rw [IntWalk.u64_in _ (by omega)]; omega
            have vor : bits .or .u64 (th : Int) (z0 : Int) = (tp : Int) := by
              rw [u64_or_nat th z0 (by omega) (by omega), nat_join 32 th z0 (by rw [eth]; exact Nat.mul_mod_left _ _) (by omega), etp, eth]
            have htp : tp < 18446744073709551616 := by omega
            have hgs : gs ≤ tp := by rw [egs]; exact Nat.div_le_self _ _
            have vq : IntKind.u64.wrap ((tp : Int).tdiv dt) = (gs : Int) := by
              rw [IntWalk.u64_quo _ _ (by omega), egs]; simp
            have vq2 : (tp : Int) / dt = (gs : Int) := by rw [egs]; simp
            have nz : ((dt : Int) == 0) = false := by simp; omega
            have nz1 : (1 : Int) ≤ (dt : Int) := by omega
            have j1 : IntKind.i64.wrap ((p : Int) + ds.length) = ((p + ds.length : Nat) : Int) := by rw [IntWalk.i64_in _ (by omega)]; omega
            have j2 : IntKind.i64.wrap (((p + ds.length : Nat) : Int) - 1) = ((p + ds.length - 1 : Nat) : Int) := by rw [IntWalk.i64_in _ (by omega)]; omega
            have u1 : ((p + ds.length : Nat) : Int) < ((xs.length + 2 : Nat) : Int) := by omega
            have u2 : ((p + ds.length - 1 : Nat) : Int) < ((xs.length + 2 : Nat) : Int) := by omega
            have HG := Lib.hid hge
            have HTP := Lib.hid htp
            have HGS := Lib.hid hgs
            clear hc1 edt ez1 ez0 bt bt0 b1' b0' hge etp eth egs htp hgs hrd
            go_wp2_with fail
            go_quiet (fail)
            clear cz1 cz0 j1 j2 u1 u2 v1 v0 vsh vor
            have vg : IntKind.u64.wrap (gs : Int) = (gs : Int) := IntWalk.u64_in _ (by have := HGS.out; have := HTP.out; omega)
            obtain ⟨wd, ewd⟩ : ∃ wd : World, wd = wr.drewN nq := ⟨_, rfl⟩
            have hrowC := hrowC.drewN nq
            have hrowQ := hrowQ.drewN nq
            have hbel4 := hbel4.trans (Below.drewN_ _ _ nq)
            have ct2 : (wr.drewN nq).cell? ⟨b1, o1 + (ds.length - 1), none⟩ = some (.int .u32 (dt : Nat)) := ct
            rw [← ewd] at hrowC hrowQ hbel4 ct2 ⊢
            clear ct
            clear ewd
            obtain ⟨G, eG⟩ : ∃ G, G = min gs 4294967295 := ⟨_, rfl⟩
            have EG := Lib.hid eG
            clear eG
            go_upto_if 98 with (fail)
            go_cut [15] (fun v15 wq => v15 = .int .u64 G ∧ wq = wd)
            case first =>
              go_wp2_with fail
              all_goals
                go_meet
                have hG := EG.out
                first
                | (
                  have hgl : (gs : Int) ≤ 4294967295 := by assumption
                  obtain rfl : G = gs := by omega
                  exact ⟨rfl, rfl⟩)
                | (
                  have hgl : 4294967295 < (gs : Int) := by assumption
                  obtain rfl : G = 4294967295 := by omega
                  exact ⟨rfl, rfl⟩)
            case rest =>
              obtain ⟨rfl, hwd⟩ := hcut
              rw [hwd]
              clear hwd
              have hGp : dv 4294967296 zs / (b * 2 ^ S * 4294967296 ^ p) ≤ G ∧ G < 4294967296 := by have := EG.out; have := HG.out; omega
              have hless := rless_c wb wd HRd1.out HC1.out.1 hbel4 (Nat.le_refl _) hrowC HZL.out hzd (i := p) (q := G) (by omega) hGp.2 (by omega)
              have HLS := Lib.hid hless
              have HGP := Lib.hid hGp
              have hneq : wa.heap.size ≠ wb.heap.size := by omega
              clear hless hGp ct2 vq vq2 nz nz1 vt vg
              go_wp2_with fail
              (with_reducible refine HLS.out.mono ?_)
              rintro e w5 ⟨br, z5, rfl, hbr, hl5, hd5, he5, ht5, hrow5, htch5⟩
              have hrowQ5 := htch5.row hrowQ hneq
              have hbel5 := htch5.below hbel4 (Nat.le_refl _)
              have HE5 := Lib.hid he5
              have HT5 := Lib.hid ht5
              have HL5 := Lib.hid hl5
              have cq := hrowQ5.cell p (by rw [HQL.out]; omega)
              have fq := hrowQ5.frozen p
              clear he5 ht5 hl5 hrowQ htch5 hrowC
              rcases (show br = 0 ∨ br = 1 by omega) with rfl | rfl
              · have hbf : (((0 : Nat) : Int) == 1) = false := rfl
                have vG : IntKind.u32.wrap (G : Int) = (G : Int) := IntWalk.u32_in _ (by have := HGP.out.2; omega)
                go_wp2_with fail
                go_roundw
                case rel =>
                  have e5 : dv 4294967296 z5 + 4294967296 ^ p * (G * (b * 2 ^ S)) = dv 4294967296 zs := by have := HE5.out; rw [HC1.out.2.1, Nat.mul_zero, Nat.add_zero] at this; exact this
                  have hlt5 := rdigit_right (Nat.mul_pos HD0.out (Nat.pow_pos (by omega))) HGP.out.1 e5
                  exact ⟨p, qs.set p G, z5, by omega, by go_num, by rw [List.length_set]; exact HQL.out, HL5.out.trans HZL.out, hqd.set _ _ HGP.out.2, hd5, div_step hinv.out (by rw [HQL.out]; omega) e5 hlt5, hrow5.far (p := ⟨wa.heap.size, p, none⟩) (by show wb.heap.size ≠ wa.heap.size; omega) _, hrowQ5.set _ _, hbel5.setCell (p := ⟨wa.heap.size, p, none⟩) (by show wb.heap.size ≤ wa.heap.size; omega) _⟩
                case measure => simp [intOf] <;> omega
              · have hbt : (((1 : Nat) : Int) == 1) = true := rfl
                have htz : dv 4294967296 zs < 4294967296 ^ (p + ds.length + 1) := by
                  have h1 := hinv.out.2.1
                  have h2 := HC1.out.lt
                  refine Nat.lt_of_lt_of_le h1 ?_
                  rw [show (4294967296 : Nat) ^ (p + ds.length + 1) = 4294967296 ^ ds.length * 4294967296 ^ (p + 1) by rw [← Nat.pow_add]; congr 1; omega]
                  exact Nat.mul_le_mul_right _ (Nat.le_of_lt h2)
                have hz5 : dv 4294967296 z5 < 4294967296 ^ (p + ds.length + 1) := dv_lt_of_tail hd5 (by rw [HL5.out, HZL.out]; omega) fun j hj => by
                  rw [HT5.out j hj]; exact dv_tail_zero (by omega) htz hj
                have e5 : dv 4294967296 z5 + 4294967296 ^ p * (G * (b * 2 ^ S)) = dv 4294967296 zs + 4294967296 ^ (p + ds.length + 1) := by have := HE5.out; rw [HC1.out.2.1, Nat.mul_one] at this; exact this
                have HZ5 := Lib.hid hz5
                have HE := Lib.hid e5
                clear htz hz5 e5 cq fq
                go_wp2_with fail
                obtain ⟨we, ewe⟩ : ∃ we : World, we = w5 := ⟨_, rfl⟩
                subst ewe
                go_loopw [15, 16, 17] (fun v15 v16 _ wq => ∃ (G' : Nat) (ag : Bool) (cc : List Nat), v15 = .int .u64 G' ∧ v16 = .bool ag ∧ cc.length = xs.length + 2 ∧ Ds 4294967296 cc ∧
                    Hid (G' < 4294967296 ∧ dv 4294967296 zs / (b * 2 ^ S * 4294967296 ^ p) ≤ G' ∧ dv 4294967296 cc + 4294967296 ^ p * (G' * (b * 2 ^ S)) = dv 4294967296 zs + (if ag = true then 4294967296 ^ (p + ds.length + 1) else 0) ∧ dv 4294967296 cc < 4294967296 ^ (p + ds.length + 1)) ∧
                    Row .u32 wq wb.heap.size 65 cc ∧ Row .u32 wq wa.heap.size 65 qs ∧ Below wb.heap.size wb wq)
                  (fun v15 _ _ _ => (intOf v15).toNat)
                case atStart => exact ⟨G, true, z5, rfl, rfl, HL5.out.trans HZL.out, hd5, ⟨HGP.out.2, HGP.out.1, by rw [if_pos rfl]; exact HE.out, HZ5.out⟩, hrow5, hrowQ5, hbel5⟩
                case round =>
                  clear hrow5 hrowQ5 hbel5 hd5
                  obtain ⟨G', ag, cc, rfl, rfl, hcl, hcd, hst, hrow6, hrowQ6, hbel6⟩ := hrel
                  have HCL := Lib.hid hcl
                  clear hcl
                  cases ag with
                  | true =>
                    have hst1 := hst.out
                    rw [if_pos rfl] at hst1
                    obtain ⟨g1, g2, g3, g4⟩ := hst1
                    obtain ⟨w1, w2⟩ := rdigit_wrong g3 g4
                    obtain ⟨c0, ec0⟩ : ∃ c0, c0 = cc.getD (p + ds.length) 0 := ⟨_, rfl⟩
                    have c6 := hrow6.cell (p + ds.length) (by rw [HCL.out]; omega)
                    rw [← ec0] at c6
                    have vG1 : IntKind.u64.wrap ((G' : Int) - 1) = ((G' - 1 : Nat) : Int) := by rw [IntWalk.u64_in _ (by omega)]; omega
                    obtain ⟨G1, eG1⟩ : ∃ G1, G1 = G' - 1 := ⟨_, rfl⟩
                    rw [← eG1] at vG1
                    have hback := rback_c wb wr HRd1.out HC1.out.1 hbel6 (Nat.le_refl _) hrow6 HCL.out hcd (i := p) (by omega) (by omega)
                    have HBK := Lib.hid hback
                    have W1 := Lib.hid w1
                    have W2 := Lib.hid w2
                    have G3 := Lib.hid g3
                    have G4 := Lib.hid g4
                    have G0 := Lib.hid g1
                    have EC0 := Lib.hid ec0
                    have EG1 := Lib.hid eG1
                    clear hst hback w1 w2 g1 g2 g3 g4 ec0 eG1
                    go_wp2_with fail
                    (with_reducible refine HBK.out.mono ?_)
                    rintro e w7 ⟨cy, z7, rfl, hl7, hd7, he7, ht7, hrow7, htch7⟩
                    have hrowQ7 := htch7.row hrowQ6 hneq
                    have hbel7 := htch7.below hbel6 (Nat.le_refl _)
                    obtain ⟨c7, ec7⟩ : ∃ c7, c7 = z7.getD (p + ds.length) 0 := ⟨_, rfl⟩
                    have k7 := hrow7.cell (p + ds.length) (by rw [hl7, HCL.out]; omega)
                    rw [← ec7] at k7
                    have hzc : ∀ j, p + ds.length + 1 ≤ j → z7.getD j 0 = 0 := fun j hj => by rw [ht7 j hj]; exact dv_tail_zero (by omega) G4.out hj
                    have hz7 : dv 4294967296 z7 < 4294967296 ^ (p + ds.length + 1) := dv_lt_of_tail hd7 (by rw [hl7, HCL.out]; omega) hzc
                    have hov := rback_over rfl HC1.out.1 hd7 hcd he7 G4.out hz7
                    rw [HC1.out.2.1] at he7
                    have hval := rback_val W1.out G3.out he7
                    rw [← EC0.out, ← ec7] at hov
                    have HL7 := Lib.hid hl7
                    have HZ7 := Lib.hid hz7
                    have HV7 := Lib.hid hval
                    clear hzc hz7 hval hl7 ht7 he7 ec7 hrow6 hrowQ6 htch7
                    rcases hov with ⟨hcy, hle⟩ | ⟨hcy, hlt7⟩
                    · have HCY := Lib.hid hcy
                      have t1 : decide (c0 ≤ c7) = true := decide_eq_true hle
                      clear hcy hle
                      go_wp2_with fail
                      go_roundw
                      case rel =>
                        refine ⟨G1, true, z7, rfl, by simp, HL7.out.trans HCL.out, hd7, ⟨by have := EG1.out; have := G0.out; omega, by rw [EG1.out]; exact W2.out, ?_, HZ7.out⟩, hrow7, hrowQ7, hbel7⟩
                        have := HV7.out
                        rw [HCY.out, Nat.mul_zero, Nat.add_zero, ← EG1.out] at this
                        rw [if_pos rfl]; exact this
                      case measure => have := EG1.out; have := W1.out; simp [intOf]; omega
                    · have HCY := Lib.hid hcy
                      have t1 : decide (c0 ≤ c7) = false := decide_eq_false (by omega)
                      clear hcy hlt7
                      go_wp2_with fail
                      go_roundw
                      case rel =>
                        refine ⟨G1, false, z7, rfl, by simp, HL7.out.trans HCL.out, hd7, ⟨by have := EG1.out; have := G0.out; omega, by rw [EG1.out]; exact W2.out, ?_, HZ7.out⟩, hrow7, hrowQ7, hbel7⟩
                        have := HV7.out
                        rw [HCY.out, Nat.mul_one, ← EG1.out] at this
                        rw [if_neg (by decide)]
                        exact Nat.add_right_cancel this
                      case measure => have := EG1.out; have := W1.out; simp [intOf]; omega
                  | false =>
                    have cq := hrowQ6.cell p (by rw [HQL.out]; omega)
                    have fq := hrowQ6.frozen p
                    have vG : IntKind.u32.wrap (G' : Int) = (G' : Int) := IntWalk.u32_in _ (by have := hst.out.1; omega)
                    go_wp2_with fail
                    go_roundw
                    case rel =>
                      have e5 : dv 4294967296 cc + 4294967296 ^ p * (G' * (b * 2 ^ S)) = dv 4294967296 zs := by have := hst.out.2.2.1; rwa [if_neg (by decide), Nat.add_zero] at this
                      have hlt5 := rdigit_right (Nat.mul_pos HD0.out (Nat.pow_pos (by omega))) hst.out.2.1 e5
                      exact ⟨p, qs.set p G', cc, by omega, by go_num, by rw [List.length_set]; exact HQL.out, HCL.out, hqd.set _ _ hst.out.1, hcd, div_step hinv.out (by rw [HQL.out]; omega) e5 hlt5, hrow6.far (p := ⟨wa.heap.size, p, none⟩) (by show wb.heap.size ≠ wa.heap.size; omega) _, hrowQ6.set _ _, hbel6.setCell (p := ⟨wa.heap.size, p, none⟩) (by show wb.heap.size ≤ wa.heap.size; omega) _⟩
                    case measure => simp [intOf] <;> omega

theorem rdiv_n {u v : Value} {a b L M : Nat} (w : World) (h : Num w u a L) (h' : Num w v b M) (hL : L ≤ 1048576) (hM : M ≤ 1048576) (hb : 0 < b) :
    Calls Tryd.prog 52 #[u, v] w (RetTwo (a / b) (a % b) L M w) := by
  obtain ⟨A, c, xs, rfl, h1, h2, h3⟩ := h
  obtain ⟨B, d, ys, rfl, g1, g2, g3⟩ := h'
  have key : Calls Tryd.prog 52 #[.slice A xs.length c, .slice B ys.length d] w (RetTwo (a / b) (a % b) xs.length ys.length w) := by
    rcases Nat.lt_or_ge a b with hab | hab
    · exact rdiv_less w h1 g1 h2 g2 (by omega) hab
    · exact rdiv_ge w h1 g1 h2 g2 (by omega) (by omega) hab hb
  exact key.mono fun e w' ⟨x, y, he, hx, hy, hbel⟩ => ⟨x, y, he, hx.mono h3, hy.mono g3, hbel⟩

set_option maxRecDepth 100000 in
set_option maxHeartbeats 1600000 in
theorem rmod_n {u v : Value} {a b L M : Nat} (w : World) (h : Num w u a L) (h' : Num w v b M) (hL : L ≤ 1048576) (hM : M ≤ 1048576) (hb : 0 < b) :
    Calls Tryd.prog 28 #[u, v] w (RetR (fun w' v => Num w' v (a % b) M) w) := by
  have HD := Lib.hid (rdiv_n w h h' hL hM hb)
  clear h h' hb
  go_enter Tryd.func28, Tryd.ntmps28
  go_wp2_with fail
  (with_reducible refine HD.out.mono ?_)
  rintro e w' ⟨x, y, rfl, hx, hy, hbel⟩
  have HY := Lib.hid hy
  clear hx hy
  go_wp2_with fail
  go_ret
  exact ⟨_, rfl, HY.out, hbel⟩
end Go.Proofs.YteaafnjflghlhaaDoor
