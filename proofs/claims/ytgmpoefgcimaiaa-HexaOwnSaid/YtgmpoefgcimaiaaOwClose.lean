/- Nobody's list is another one's, spare room too: quarrykeep's Book.closeBytes. -/
import Derived.Test.YtgmpoefgcimaiaaOwStands
namespace Go.Proofs.Ytgmpoefgcimaiaa
open Go.RowKit

/-- The lists ahead of j are full of their marks. -/
def M1 (role : Role) (w wr : World) (us : List Value) (Ls : List (List Nat)) (j : Nat) : Prop :=
  ChgR (fun r => r.1 = 3) role w wr ∧ ∀ i x bs, us[i]? = some x → Ls[i]? = some bs → B8 role (3, i) wr x (if i < j then mks i bs.length 0 else bs)
theorem M1.next {role : Role} {w wr w2 : World} {us : List Value} {Ls : List (List Nat)} {j : Nat} {x : Value} {bs : List Nat} (h : M1 role w wr us Ls j) (hx : us[j]? = some x) (hb : Ls[j]? = some bs) (hc : ChgR (fun r => r = (3, j)) role wr w2) (ha : AccO w2 x (mks j bs.length 0)) : M1 role w w2 us Ls (j + 1) := by
  refine ⟨h.1.same (hc.mono fun r e => by rw [e]), fun i y ys hy hys => ?_⟩
  have h2 := h.2 i y ys hy hys
  by_cases e : i = j
  · subst e
    rw [hx] at hy; injection hy with hy; subst hy
    rw [hb] at hys; injection hys with hys; subst hys
    rw [if_pos (Nat.lt_succ_self _)]
    exact ⟨ha, h2.2⟩
  · have h3 := h2.keep hc (by intro e2; injection e2 with e2 e3; exact e e3) (Ext.refl _)
    by_cases e4 : i < j
    · rw [if_pos e4] at h3; rw [if_pos (by omega)]; exact h3
    · rw [if_neg e4] at h3; rw [if_neg (by omega)]; exact h3
theorem AccO.lbl {w : World} {v : Value} {bs : List Nat} (h : AccO w v bs) {ys : List Nat} (e : bs = ys) : AccO w v ys := e ▸ h

set_option maxRecDepth 100000 in
set_option maxHeartbeats 12800000 in
theorem close_bytes_c {role : Role} {base : Nat} {w : World} {gb n : Nat} {us ws : List Value} {Ls : List (List Nat)} (hK : BookAt role w gb us ws Ls n) (ho : Old role base w) :
    Calls Try.prog 48 #[.pointer (some ⟨gb, 0, none⟩)] w fun e w' => e = .returned (.bool true) ∧ Below base w w' := by
  obtain ⟨⟨v1, v2, hg, hs1, hs2⟩, hself, hf1, hf2, hcnt, hlen⟩ := hK
  obtain ⟨V1, C1, rfl⟩ := hs1.form
  have HG := Lib.hid hg
  have HS1 := Lib.hid hs1
  have HSELF := Lib.hid hself
  have HO := Lib.hid ho
  obtain ⟨U, hU⟩ : ∃ U, U = us.length := ⟨_, rfl⟩
  rw [← hU] at HG HS1
  have HU : Hid (U = us.length ∧ Ls.length = U ∧ U ≤ 200001) := ⟨hU, by rw [hU, hf1.1], by rw [hU, hf1.1]; exact hcnt.2.1⟩
  have HLEN := Lib.hid hlen
  have HM0 : Hid (M1 role w w us Ls 0) := ⟨ChgR.refl _ _ _, fun i x bs h1 h2 => by rw [if_neg (by omega)]; exact hf1.2 i x bs h1 h2⟩
  clear hg hs1 hs2 hself hf1 hf2 hcnt hlen ho hU
  go_enter Try.func48, Try.ntmps48
  go_upto_region 2 with (fail)
  go_loopw [3] (fun i wr => ∃ j : Nat, j ≤ U ∧ i = .int .i64 (j : Int) ∧ Hid (M1 role w wr us Ls j))
    (fun i _ => U - (intOf i).toNat)
  case atStart => exact ⟨0, by omega, rfl, HM0.out⟩
  case round =>
    obtain ⟨j, hj, rfl, hm⟩ := hrel
    have hg := (hm.out.1.block gb (heap_lt' HG.out) (fun s e hs => by rw [HSELF.out] at e; injection e with e; subst e; simp at hs)).trans HG.out
    have hs1 := HS1.out.keep hm.out.1 (by simp) (Ext.refl _)
    obtain ⟨a0, -⟩ := five_of hg
    by_cases hlt : j < U
    · obtain ⟨x, hx⟩ : ∃ x, us[j]? = some x := ⟨_, List.getElem?_eq_getElem (by have := HU.out; omega)⟩
      obtain ⟨bs, hbs⟩ : ∃ bs, Ls[j]? = some bs := ⟨_, List.getElem?_eq_getElem (by have := HU.out; omega)⟩
      have hb8 := hm.out.2 j x bs hx hbs
      rw [if_neg (by omega)] at hb8
      have hbl := HLEN.out bs (List.mem_of_getElem? hbs)
      obtain ⟨L, hL⟩ : ∃ L, L = bs.length := ⟨_, rfl⟩
      obtain ⟨X, cx, rfl⟩ := hb8.1.form
      rw [← hL] at hx hb8 hbl
      have HX := Lib.hid hx
      have HBS := Lib.hid hbs
      have HB8 := Lib.hid hb8
      have HJ : Hid (j < U ∧ L = bs.length ∧ L ≤ 70368744177665) := ⟨hlt, hL, hbl⟩
      have HG2 := Lib.hid hg
      have HS2 := Lib.hid hs1
      have HC0 := Lib.hid (ChgR.refl (fun r : Nat × Nat => r = (3, j)) role wr)
      have hjU : (j : Int) < (U : Int) := by omega
      clear hx hbs hb8 hL hbl hg hs1 hj hlt
      generalize wr = W0 at *
      go_upto_region 5 with (fail)
      clear a0 hjU
      go_loopw [4] (fun k w2 => ∃ q : Nat, q ≤ L ∧ k = .int .i64 (q : Int) ∧ Hid (AccO w2 (.slice X L cx) (List.replicate q (lo j) ++ bs.drop q)) ∧ Hid (ChgR (fun r => r = (3, j)) role W0 w2))
        (fun k _ => L - (intOf k).toNat)
      case atStart => exact ⟨0, by omega, rfl, by simpa [Hid] using HB8.out.1, HC0.out⟩
      case round =>
        obtain ⟨q, hq, rfl, hacc, hch⟩ := hrel
        have hg := (hch.out.block gb (heap_lt' HG2.out) (fun s e hs => by rw [HSELF.out] at e; injection e with e; subst e; simp at hs)).trans HG2.out
        have hs1 := HS2.out.keep hch.out (by simp) (Ext.refl _)
        obtain ⟨a0, -⟩ := five_of hg
        obtain ⟨g1, c1, e1, hc1, hcl1⟩ := hs1.at_ (j := j) (by have := HU.out; have := HJ.out; omega)
        have hc0 := hcl1 j _ HX.out
        injection e1 with e1 e3 e4
        subst e1 e4
        have hjU : (j : Int) < (U : Int) := by have := HJ.out; omega
        have hL9 := HJ.out.2.2
        have hlo : lo j < 125 := Nat.mod_lt _ (by decide)
        by_cases hql : q < L
        · have hys : (List.replicate q (lo j) ++ bs.drop q).length = L := by have := HJ.out; simp; omega
          obtain ⟨gx, o, rfl, hgx, e9, hle, hcells⟩ := hacc.out.at_ hql
          obtain ⟨p0, p1⟩ := hcells q hql
          have hset := hacc.out.set q (lo j) (by rw [hys]; exact hql) (by omega)
          rw [mark_set q (lo j) bs (by have := HJ.out; omega)] at hset
          have hch2 := hch.out.set (g := gx) (j := o + q) (.int .u8 ((lo j : Nat) : Int)) (HB8.out.2 gx rfl) rfl
          obtain ⟨l, hl⟩ : ∃ l, l = lo j := ⟨_, rfl⟩
          replace hset : AccO (wr.setCell ⟨gx, o + q, none⟩ (.int .u8 ((l : Nat) : Int))) (.slice (some ⟨gx, o, none⟩) L cx) (List.replicate (q + 1) (lo j) ++ bs.drop (q + 1)) := by rw [hl]; exact hset
          rw [← hl] at hch2
          have t1 : (j : Int) % 125 = (l : Int) := by unfold lo at hl; omega
          have t2 : (j : Int).tmod 125 = (l : Int) := by rw [Int.tmod_eq_emod_of_nonneg (by omega)]; exact t1
          have t3 : IntKind.u8.wrap (l : Int) = (l : Int) := by show ((l : Int) % 256) = l; omega
          have hq1 : (q : Int) < (L : Int) := by omega
          have eq1 : IntKind.i64.wrap ((q : Int) + 1) = (q : Int) + 1 := IntWalk.i64_in _ (by omega)
          have HS9 := Lib.hid hset
          have HC9 := Lib.hid hch2
          have HQ : Hid (q < L) := hql
          clear hset hch2 hcells hacc hch hg hs1 hcl1 hc1 e3 hql hq hle e9 hgx HG2 HS2 HX HLEN hys hlo hl HM0 HC0 HG HS1
          go_wp2_with fail
          exact ⟨⟨q + 1, HQ.out, by simp, HS9.out, HC9.out⟩, by simp [intOf]; have := HQ.out; omega⟩
        · have hq1 : ¬ (q : Int) < (L : Int) := by omega
          have ej : IntKind.i64.wrap ((j : Int) + 1) = (j : Int) + 1 := IntWalk.i64_in _ (by have := HU.out; omega)
          have hF := hm.out.next HX.out HBS.out hch.out (hacc.out.lbl (by have := HJ.out; rw [mk_zero, show q = bs.length by omega]; simp))
          have HF := Lib.hid hF
          have HQ : Hid (j < U) := HJ.out.1
          clear hF hacc hch hg hs1 hcl1 hc1 e3 hql hq HG2 HS2 HX HLEN hL9 HB8 HJ HM0 HC0 HG HS1 hlo
          go_wp2_with fail
          exact ⟨⟨j + 1, HQ.out, by simp, HF.out⟩, by simp [intOf]; have := HQ.out; omega⟩
    · have hjU : ¬ ((j : Int) < (U : Int)) := by omega
      have HM : Hid (∀ i x bs, us[i]? = some x → Ls[i]? = some bs → B8 role (3, i) wr x (mks i bs.length 0)) := fun i x bs h1 h2 => by
        have := hm.out.2 i x bs h1 h2
        rwa [if_pos (by have := HU.out; have := (List.getElem?_eq_some_iff.1 h1).1; omega)] at this
      have HB : Hid (Below base w wr) := hm.out.1.below HO.out
      have HG2 := Lib.hid hg
      have HS2 := Lib.hid hs1
      have HO2 := Lib.hid (HO.out.grow hm.out.1.size)
      clear hm hg hs1 hj hlt HM0 HG HS1 HO
      have HMM : Hid (MMk base gb n (.slice V1 U C1) v2 w us Ls role wr (.slice none 0 0) [] (.slice none 0 0) []) := ⟨HO2.out, HG2.out, HSELF.out, by have := HS2.out; exact this, SS.nil _ _ _, SS.nil _ _ _, HM.out, fun i o h => by simp at h, fun i o h => by simp at h, HB.out⟩
      clear HG2 HS2 HO2 HM HB
      generalize wr = W0 at *
      go_upto_region 9 with (fail)
      clear HSELF a0 hjU
      go_loopw [5] (fun i wr => ∃ (j : Nat) (role' : Role) (v3 : Value) (os : List Value), j ≤ U ∧ i = .int .i64 (j : Int) ∧ Hid (MMk base gb n (.slice V1 U C1) v2 w us Ls role' wr v3 os (.slice none 0 0) []) ∧ Hid (os.length = j))
        (fun i _ => U - (intOf i).toNat)
      case atStart => exact ⟨0, role, _, [], by omega, rfl, HMM.out, rfl⟩
      case round =>
        obtain ⟨j, role', v3, os, hj, rfl, hmm, hos⟩ := hrel
        obtain ⟨V3, C3, rfl⟩ := hmm.out.ones.form
        obtain ⟨a0, -⟩ := five_of hmm.out.cell
        by_cases hlt : j < U
        · obtain ⟨x, hx⟩ : ∃ x, us[j]? = some x := ⟨_, List.getElem?_eq_getElem (by have := HU.out; omega)⟩
          obtain ⟨bs, hbs⟩ : ∃ bs, Ls[j]? = some bs := ⟨_, List.getElem?_eq_getElem (by have := HU.out; omega)⟩
          have hb8 := hmm.out.fam j x bs hx hbs
          have hbl := HLEN.out bs (List.mem_of_getElem? hbs)
          obtain ⟨L, hL⟩ : ∃ L, L = bs.length := ⟨_, rfl⟩
          obtain ⟨X, cx, rfl⟩ := hb8.1.form
          rw [mk_len, Nat.add_zero, ← hL] at hx hb8
          rw [← hL] at hbl
          obtain ⟨g1, c1, e1, hc1, hcl1⟩ := hmm.out.list.at_ (j := j) (by have := HU.out; omega)
          have hc0 := hcl1 j _ hx
          injection e1 with e1 e3 e4
          subst e1 e4
          have HX := Lib.hid hx
          have HBS := Lib.hid hbs
          have HB8 := Lib.hid hb8
          have HJ : Hid (j < U ∧ L = bs.length ∧ L ≤ 70368744177665 ∧ U ≤ 200001) := ⟨hlt, hL, hbl, HU.out.2.2⟩
          have HMATE := Lib.hid (Mate.refl hb8.1)
          have HC0 := Lib.hid (ChgR.refl (fun r : Nat × Nat => r = (3, j)) role' wr)
          have hjU : (j : Int) < (U : Int) := by omega
          clear hx hbs hb8 hL hbl hcl1 hc1 hj hlt e3 HMM
          generalize wr = W1 at *
          go_upto_region 13 with (fail)
          clear a0 hjU hc0
          have HMX := Lib.hid hmm.out
          have HOS := Lib.hid hos.out
          clear hmm hos
          go_loopw [6, 7] (fun l k w2 => ∃ (q M : Nat) (role2 : Role) (A2 : Option Addr) (c2 : Nat), q ≤ 16 ∧ k = .int .i64 (q : Int) ∧ l = .slice A2 M c2 ∧ Hid (M = L + q) ∧ Hid (B8 role2 (3, j) w2 (.slice A2 M c2) (mks j L q)) ∧ Hid (B8 role2 (3, j) w2 (.slice X L cx) (mks j L 0)) ∧ Hid (Mate (.slice X L cx) (.slice A2 M c2) q) ∧ Hid (ChgR (fun r => r = (3, j)) role' W1 w2) ∧ Hid (Ext role' role2) ∧ Hid (Old role2 base w2) ∧ Hid (∀ k, k < W1.heap.size → role2 k = role' k))
            (fun _ k _ => 16 - (intOf k).toNat)
          case atStart => exact ⟨0, L, role', X, cx, by omega, rfl, rfl, rfl, HB8.out, HB8.out, HMATE.out, HC0.out, Ext.refl _, HMX.out.old, fun _ _ => rfl⟩
          case round =>
            obtain ⟨q, M, role2, A2, c2, hq, rfl, rfl, hM, hl8, hx8, hmt, hch, hext, hold, hrr⟩ := hrel
            by_cases hq16 : q < 16
            · obtain ⟨l, hl⟩ : ∃ l, l = j % 125 := ⟨_, rfl⟩
              obtain ⟨h, hh⟩ : ∃ h, h = hi j := ⟨_, rfl⟩
              have hlh : h = 125 + l := by rw [hh, hl]; rfl
              have t1 : (j : Int) % 125 = (l : Int) := by omega
              have t2 : (j : Int).tmod 125 = (l : Int) := by rw [Int.tmod_eq_emod_of_nonneg (by omega)]; exact t1
              have t4 : IntKind.i64.wrap (125 + (l : Int)) = (h : Int) := by rw [IntWalk.i64_in _ (by omega)]; omega
              have t5 : IntKind.u8.wrap (h : Int) = (h : Int) := by show ((h : Int) % 256) = h; omega
              have hbw := (Below.refl wr.heap.size wr).alloc (Nat.le_refl _) (.cells #[.int .u8 (h : Nat)] 5)
              have hcw : ChgR (fun _ => False) role2 wr _ := ChgR.of _ role2 hbw
              have hrow : Row .u8 (wr.alloc (.cells #[.int .u8 (h : Nat)] 5)) wr.heap.size 5 [h] := Row.new (k := .u8) wr 5 [h]
              have hml : (mks j L q).length = M := by rw [mk_len, hM.out]
              obtain ⟨A3, c3, W3, role3, r1, r2, r3, r4, r5, r6, r7, r8⟩ := grow_c (hold.out.grow hbw.size) (hl8.out.keep hcw id (Ext.refl _)) (hx8.out.keep hcw id (Ext.refl _)) hmt.out (by rw [mk_len, mk_len]; omega) hrow.rd0 (fun z hz => by simp at hz; omega) (by rw [hml]; have := HJ.out; have := hM.out; simp; omega)
              rw [hml] at r1 r2 r4
              rw [hh, mk_snoc, ← hh] at r2
              have HR1 := Lib.hid r1
              have HR2 := Lib.hid r2
              have HR3 := Lib.hid r3
              have HR4 := Lib.hid r4
              have HR5 := Lib.hid (hch.out.trans ((ChgR.of (fun r : Nat × Nat => r = (3, j)) role2 hbw).same r5) (fun i r hi e hs => ⟨r, by rw [← hrr.out i hi]; exact e, hs⟩))
              have HR6 := Lib.hid (hext.out.trans r6)
              have HR7 := Lib.hid r7
              have HR8 : Hid (∀ k, k < W1.heap.size → role3 k = role' k) := fun k hk => by rw [r8 k (by have := hch.out.size; simp; omega), hrr.out k hk]
              have hq1 : (q : Int) < 16 := by omega
              have HQ : Hid (q < 16 ∧ M = L + q) := ⟨hq16, hM.out⟩
              clear r1 r2 r3 r4 r5 r6 r7 r8 hbw hcw hrow hml hM hl8 hx8 hmt hch hext hold hrr hlh hh hl hq hq16 HLEN
              go_wp2_with (at_builtin; refine wpList_append_run rfl (.tmp 64) (.tmp 69) 22 rfl HR1.out ?_)
              exact ⟨⟨q + 1, M + 1, role3, A3, c3, HQ.out.1, by simp, rfl, by have := HQ.out.2; show _ = _; omega, HR2.out, HR3.out, HR4.out, HR5.out, HR6.out, HR7.out, HR8.out⟩, by simp [intOf]; have := HQ.out; omega⟩
            · have hq1 : ¬ (q : Int) < 16 := by omega
              have hq9 : q = 16 := by omega
              have hL9 := HJ.out.2.1
              have hm2 := HMX.out.step hch.out hext.out hold.out HX.out HBS.out (by rw [← hL9]; exact hx8.out) (fun o ho => by rw [List.getElem?_eq_none (by rw [HOS.out]; exact Nat.le_refl _)] at ho; cases ho) (by simp)
              obtain ⟨A', c', w9, role9, hr9, hg9, hm9⟩ := hm2.put3 HOS.out HX.out HBS.out (A := A2) (m := M) (k := c2) (by rw [← hL9]; have := hl8.out; rwa [hq9] at this) (by have := hmt.out; rwa [hq9] at this) (by have := HJ.out; omega)
              obtain ⟨a0, a1, a2, -⟩ := five_of hm2.cell
              obtain ⟨d0, d1, d2, -, -, e0, e1, e2, -⟩ := five_of hg9
              have HR9 := Lib.hid hr9
              have HM9 := Lib.hid hm9
              have ej : IntKind.i64.wrap ((j : Int) + 1) = (j : Int) + 1 := IntWalk.i64_in _ (by have := HJ.out; omega)
              have HJ9 : Hid (j < U) := HJ.out.1
              have HOS9 := Lib.hid HOS.out
              clear hr9 hg9 hm9 hm2 hl8 hx8 hmt hch hext hold hrr hq9 hq16 hq hM HLEN HMX HX HBS HB8 HJ HMATE HC0 HOS hL9
              go_wp2_with (at_builtin; refine wpList_append_run rfl (.tmp 75) (.tmp 77) 51 rfl HR9.out ?_)
              exact ⟨⟨j + 1, role9, _, _, HJ9.out, by simp, HM9.out, by show _ = _; rw [List.length_append, HOS9.out]; rfl⟩, by simp [intOf]; have := HJ9.out; omega⟩
        · have hjU : ¬ ((j : Int) < (U : Int)) := by omega
          have hUU : us.length ≤ 200001 := by have := HU.out; omega
          have CL := Lib.hid (hmm.out.look1 hUU HLEN.out)
          obtain ⟨-, -, a2, -⟩ := five_of hmm.out.cell
          have HM3 := Lib.hid hmm.out
          have HO3 : Hid (os.length = U) := by show _ = _; rw [hos.out]; omega
          clear hmm hos hj hlt hUU HMM
          go_wp2_with fail
          (with_reducible refine CL.out.mono ?_)
          rintro e w3 ⟨rfl, rfl⟩
          clear CL a2 a0 hjU
          go_upto_region 20 with (fail)
          go_loopw [8] (fun i wr => ∃ (j : Nat) (role' : Role) (v4 : Value) (ms : List Value), j ≤ U ∧ i = .int .i64 (j : Int) ∧ Hid (MMk base gb n (.slice V1 U C1) v2 w us Ls role' wr (.slice V3 os.length C3) os v4 ms) ∧ Hid (ms.length = j))
            (fun i _ => U - (intOf i).toNat)
          case atStart => exact ⟨0, role', _, [], by omega, rfl, HM3.out, rfl⟩
          case round =>
            obtain ⟨j, role2, v4, ms, hj, rfl, hmm, hms⟩ := hrel
            obtain ⟨V4, C4, rfl⟩ := hmm.out.manys.form
            obtain ⟨a0, -⟩ := five_of hmm.out.cell
            clear HM3
            by_cases hlt : j < U
            · obtain ⟨y, hy⟩ : ∃ y, os[j]? = some y := ⟨_, List.getElem?_eq_getElem (by have := HO3.out; omega)⟩
              obtain ⟨x, bs, hx, hbs, hy8, hmt⟩ := hmm.out.one j y hy
              have hb8 := hmm.out.fam j x bs hx hbs
              have hbl := HLEN.out bs (List.mem_of_getElem? hbs)
              obtain ⟨L, hL⟩ : ∃ L, L = bs.length := ⟨_, rfl⟩
              obtain ⟨X, cx, rfl⟩ := hb8.1.form
              rw [mk_len, Nat.add_zero, ← hL] at hx hb8 hmt
              rw [← hL] at hbl hy8
              obtain ⟨h, hh⟩ : ∃ h, h = hi j := ⟨_, rfl⟩
              have HX := Lib.hid hx
              have HBS := Lib.hid hbs
              have HY := Lib.hid hy
              have HMT := Lib.hid hmt
              have HJ : Hid (j < U ∧ L = bs.length ∧ L ≤ 70368744177665 ∧ U ≤ 200001 ∧ U = us.length) := ⟨hlt, hL, hbl, HU.out.2.2, HU.out.1⟩
              have HH := Lib.hid hh
              have HMX := Lib.hid hmm.out
              have HMS := Lib.hid hms.out
              have HB0 : Hid (Below wr.heap.size wr wr) := Below.refl _ _
              have hjU : (j : Int) < (U : Int) := by omega
              clear hx hbs hy hmt hlt hL hbl hh hmm hms hj hb8 hy8
              generalize wr = W1 at *
              go_upto_region 24 with (fail)
              clear a0 hjU
              go_loopw [9, 10] (fun l k w2 => ∃ (q : Nat) (A2 : Option Addr) (c2 : Nat), q ≤ 700 ∧ k = .int .i64 (q : Int) ∧ l = .slice A2 q c2 ∧ Hid (Acc w2 W1.heap.size (.slice A2 q c2) (List.replicate q h)) ∧ Hid (Below W1.heap.size W1 w2))
                (fun _ k _ => 700 - (intOf k).toNat)
              case atStart => exact ⟨0, none, 0, by omega, rfl, rfl, Acc.nil _ _, HB0.out⟩
              case round =>
                obtain ⟨q, A2, c2, hq, rfl, rfl, hacc, hbw⟩ := hrel
                by_cases hq7 : q < 700
                · obtain ⟨l, hl⟩ : ∃ l, l = j % 125 := ⟨_, rfl⟩
                  have hlh : h = 125 + l := by rw [HH.out, hl]; rfl
                  have t1 : (j : Int) % 125 = (l : Int) := by omega
                  have t2 : (j : Int).tmod 125 = (l : Int) := by rw [Int.tmod_eq_emod_of_nonneg (by omega)]; exact t1
                  have t4 : IntKind.i64.wrap (125 + (l : Int)) = (h : Int) := by rw [IntWalk.i64_in _ (by omega)]; omega
                  have t5 : IntKind.u8.wrap (h : Int) = (h : Int) := by show ((h : Int) % 256) = h; omega
                  have hrow : Row .u8 (wr.alloc (.cells #[.int .u8 (h : Nat)] 5)) wr.heap.size 5 [h] := Row.new (k := .u8) wr 5 [h]
                  obtain ⟨u1, w1, r1, r2, r3, _⟩ := run_append_rd 22 (World.ownsRow.alloc hacc.out (.cells #[.int .u8 (h : Nat)] 5)) hrow.rd0 (by simp; omega) (by have := hbw.out.size; simp; omega)
                  obtain ⟨A3, c3, rfl⟩ := r2.form
                  rw [← List.replicate_succ', List.length_replicate] at r1
                  rw [← List.replicate_succ', List.length_replicate] at r2
                  have HR1 := Lib.hid r1
                  have HR2 : Hid (Acc w1 W1.heap.size (.slice A3 (q + 1) c3) (List.replicate (q + 1) h)) := r2
                  have HR3 : Hid (Below W1.heap.size W1 w1) := (hbw.out.alloc (by have := hbw.out.size; omega) _).grown r3 (by have := hbw.out.size; simp; omega) (fun k hk => Acc.own hacc.out k hk)
                  have hq1 : (q : Int) < 700 := by omega
                  have HQ : Hid (q < 700) := hq7
                  clear r1 r2 r3 hrow hacc hbw hlh hl hq hq7 HLEN
                  go_wp2_with (at_builtin; refine wpList_append_run rfl (.tmp 101) (.tmp 106) 22 rfl HR1.out ?_)
                  exact ⟨⟨q + 1, A3, c3, HQ.out, by simp, rfl, HR2.out, HR3.out⟩, by simp [intOf]; have := HQ.out; omega⟩
                · have hq1 : ¬ (q : Int) < 700 := by omega
                  have hq9 : q = 700 := by omega
                  have hJ := HJ.out
                  have hmD := (HMX.out.below hbw.out).below (Below.refl wr.heap.size wr).drew
                  have hx8 := hmD.fam j _ bs HX.out HBS.out
                  obtain ⟨_, _, k1, k2, hy8, _⟩ := hmD.one j y HY.out
                  rw [HBS.out] at k2
                  injection k2 with k2
                  subst k2
                  rw [← hJ.2.1] at hx8 hy8
                  obtain ⟨ad, had⟩ : ∃ ad, A2 = some ad := by
                    obtain ⟨b, o, e, _⟩ := hacc.out.rd.at_ (by simp; omega)
                    exact ⟨_, e⟩
                  subst had
                  obtain ⟨A5, c5, W5, role5, r1, r2, r3, r4, r5, r6, r7, r8⟩ := grow3_c hmD.old hx8 hy8 (by rw [mk_len, mk_len, show L + 16 - (L + 0) = 16 by omega]; exact HMT.out) (by rw [hq9, HH.out]; exact mk_cut j L) (by rw [mk_len, mk_len]; omega) (hacc.out.rd.below (Below.refl wr.heap.size wr).drew) (by rw [hq9, HH.out]; intro z hz; rw [List.mem_replicate] at hz; have h9 := hz.2; unfold hi at h9; omega) (by rw [mk_len, List.length_replicate]; omega)
                  rw [mk_len, Nat.add_zero, List.length_replicate] at r1 r2
                  obtain ⟨M, hM⟩ : ∃ M, M = L + q := ⟨_, rfl⟩
                  rw [← hM] at r1 r2
                  have r2 : B8 role5 (3, j) W5 (.slice A5 M c5) (mks j bs.length 700) := by rw [hq9, HH.out, mk_more] at r2; rw [← hJ.2.1]; exact r2
                  have hm5 := hmD.step r5 r6 r7 HX.out HBS.out (by rw [← hJ.2.1]; exact r3) (fun o ho => by rw [HY.out] at ho; injection ho with ho; subst ho; rw [← hJ.2.1]; exact r4) (by rw [HMS.out]; exact Nat.le_refl _)
                  obtain ⟨A6, c6, w6, role6, hr6, hg6, hm6⟩ := hm5.put4 HMS.out HBS.out r2 (by omega)
                  have hmW := HMX.out.below hbw.out
                  obtain ⟨a0, a1, a2, a3, -⟩ := five_of hmW.cell
                  obtain ⟨b0, b1, b2, b3, -⟩ := five_of hm5.cell
                  obtain ⟨d0, d1, d2, d3, -⟩ := five_of ((Below.heap_alloc W5 (.cells #[.slice A5 M c5] 22) gb (heap_lt' hm5.cell)).trans hm5.cell)
                  obtain ⟨e0, e1, e2, e3, -, f0, f1, f2, f3, -⟩ := five_of hg6
                  obtain ⟨g1, c1, e9, hc1, hcl1⟩ := hmW.list.at_ (j := j) (by omega)
                  have hc0 := hcl1 j _ HX.out
                  injection e9 with e9 e10 e11
                  subst e9 e11
                  have HR1 := Lib.hid r1
                  have HR6 := Lib.hid hr6
                  have HM6 := Lib.hid hm6
                  have hjU : (j : Int) < (U : Int) := by omega
                  have ej : IntKind.i64.wrap ((j : Int) + 1) = (j : Int) + 1 := IntWalk.i64_in _ (by omega)
                  have HQ : Hid (j < U) := hJ.1
                  have HMS9 := Lib.hid HMS.out
                  clear r1 r2 r3 r4 r5 r6 r7 r8 hm5 hr6 hg6 hm6 hmW hmD hx8 hy8 k1 hcl1 hc1 e10 hM hJ hacc hbw hq hq7 hq9 HLEN HMX HMS HMT HH HX HBS HY HB0 HO3
                  go_upto_region 27 with (fail)
                  go_region_law (first
                    | (refine step_append_run rfl (.tmp 119) (.tmp 120) 22 rfl HR1.out ?_)
                    | (refine step_append_run rfl (.tmp 112) (.tmp 122) 51 rfl HR6.out ?_))
                  all_goals
                    clear a0 a1 a2 a3 b0 b1 b2 b3 d0 d1 d2 d3 hc0 hjU HR1 HR6
                    go_simp
                    go_wp2_with fail
                    exact ⟨⟨j + 1, role6, _, _, HQ.out, by simp, HM6.out, by show _ = _; rw [List.length_append, HMS9.out]; rfl⟩, by simp [intOf]; have := HQ.out; omega⟩
            · have hjU : ¬ ((j : Int) < (U : Int)) := by omega
              have hUU : us.length ≤ 200001 := by have := HU.out; omega
              have hUL : us.length = Ls.length := by have := HU.out; omega
              have CL1 := Lib.hid (hmm.out.look1 hUU HLEN.out)
              have CL2 := Lib.hid (hmm.out.look2 hUU hUL HLEN.out)
              obtain ⟨-, -, a2, a3, -⟩ := five_of hmm.out.cell
              have HBE := Lib.hid hmm.out.bel
              clear hmm hms hj hlt hUU hUL HLEN HU HO3
              go_wp2_with fail
              (with_reducible refine CL2.out.mono ?_)
              rintro e w4 ⟨rfl, rfl⟩
              go_wp2_with fail
              (with_reducible refine CL1.out.mono ?_)
              rintro e w5 ⟨rfl, rfl⟩
              go_wp2_with fail
              go_ret
              exact ⟨rfl, HBE.out⟩
set_option maxRecDepth 100000 in
theorem close_c {role : Role} {base : Nat} {w : World} {gb n : Nat} {us ws : List Value} {Ls : List (List Nat)} (hK : BookAt role w gb us ws Ls n) (ho : Old role base w) :
    Calls Try.prog 23 #[.pointer (some ⟨gb, 0, none⟩)] w fun e w' => e = .returned (.bool true) ∧ Below base w w' := by
  have C1 := Lib.hid (stands_c hK)
  have C2 := Lib.hid (fun m : Nat => close_bytes_c (hK.keep (P := fun _ => False) (ChgR.of _ role (bel_drewN w m)) (fun _ _ _ => id) (Ext.refl _)) (ho.grow (bel_drewN w m).size))
  have HB := Lib.hid (fun m : Nat => bel_drewN w m)
  have HO : Hid (base ≤ w.heap.size) := ho.1
  clear hK ho
  go_enter Try.func23, Try.ntmps23
  go_wp2_with fail
  (with_reducible refine C1.out.mono ?_)
  rintro e w1 ⟨rfl, m, rfl⟩
  go_wp2_with fail
  (with_reducible refine (C2.out m).mono ?_)
  rintro e w2 ⟨rfl, hb⟩
  have HB2 := Lib.hid (((HB.out m).mono HO.out).trans hb)
  clear hb
  go_wp2_with fail
  go_ret
  exact ⟨rfl, HB2.out⟩
end Go.Proofs.Ytgmpoefgcimaiaa
/- A Book and a Loan of quarrykeep beside each other, as laws on memory use them. -/
namespace Go.Proofs.Ytgmpoefgcimaiaa
open Go.RowKit

structure Keeps (base gb gl : Nat) (role : Role) (w : World) (k : Nat) : Prop where
  old : Old role base w
  book : ∃ us ws Ls n, BookAt role w gb us ws Ls n
  loan : ∃ us ws Ls, LoanAt role w gl us ws Ls ∧ Ls.length ≤ k ∧ ∀ bs ∈ Ls, bs.length ≤ 140737488355328
section
variable {base gb gl : Nat} {role : Role} {w w' : World} {k : Nat}
theorem Keeps.below (h : Keeps base gb gl role w k) (hb : Below w.heap.size w w') : Keeps base gb gl role w' k := by
  have hc : ChgR (fun _ => False) role w w' := ChgR.of _ role hb
  obtain ⟨us, ws, Ls, n, h1⟩ := h.book
  obtain ⟨us2, ws2, Ks, h2, h3, h4⟩ := h.loan
  exact ⟨h.old.grow hb.size, ⟨us, ws, Ls, n, h1.keep hc (fun _ _ _ => id) (Ext.refl _)⟩, us2, ws2, Ks, h2.keep hc (fun _ _ _ _ => id) (Ext.refl _), h3, h4⟩
theorem ext_of {role' : Role} (ho : Old role base w) (h : ∀ i, i < w.heap.size → role' i = role i) : Ext role role' := fun i r e => by rw [h i (ho.2 i r e).2]; exact e
theorem book_loan {c j : Nat} (h : 5 ≤ c) : ¬ BookR (c, j) := fun e => by have : c ≤ 2 := e; omega
theorem loan_book {c j : Nat} (h : c ≤ 4) : ¬ LoanR (c, j) := fun e => by have : c = 5 ∨ c = 6 ∨ c = 7 := e; omega
/-- A list has been lent; what is lent, and all that has another role, stays in what follows. -/
def Lent (base gb gl : Nat) (role : Role) (w : World) (k n : Nat) (bs : List Nat) (e : Ending) (w' : World) : Prop := ∃ (role' : Role) (g c' j : Nat), e = .returned (.slice (some ⟨g, 0, none⟩) n c') ∧ B8 role' (8, j) w' (.slice (some ⟨g, 0, none⟩) n c') bs ∧
  Keeps base gb gl role' w' (k + 1) ∧ (∀ i, i < w.heap.size → role' i = role i) ∧ ChgR (fun r => r.1 ≤ 7) role w w' ∧ Below base w w'
/-- A list has been kept. -/
def Kept (base gb gl : Nat) (role : Role) (w : World) (k : Nat) (v : Value) (e : Ending) (w' : World) : Prop := e = .returned (.tuple #[]) ∧ ∃ role' : Role, Keeps base gb gl role' w' k ∧ Ext role role' ∧ (∀ i, i < w.heap.size → v.ownBlock ≠ some i → role' i = role i) ∧ ChgR (fun r => r.1 ≤ 7) role w w' ∧ Below base w w'
theorem Keeps.lend (h : Keeps base gb gl role w k) {A : Option Addr} {c : Nat} {bs : List Nat} (hr : Rd .u8 w A c bs) (hd : Ds 256 bs) (hl : bs.length ≤ 70368744177665) (hk : k ≤ 1000000) :
    Calls Try.prog 20 #[.pointer (some ⟨gl, 0, none⟩), .slice A bs.length c] w (Lent base gb gl role w k bs.length bs) := by
  obtain ⟨us, ws, Ls, n, h1⟩ := h.book
  obtain ⟨us2, ws2, Ks, h2, h3, h4⟩ := h.loan
  refine (loan_bytes_c h2 h.old hr hd hl (by omega)).mono fun e w' ⟨role', us', ws', g, c', e1, e2, e3, e4, e5, e6, e7⟩ => ?_
  exact ⟨role', g, c', _, e1, e2, ⟨e5, ⟨us, ws, Ls, n, h1.keep e7 (fun c j hc => loan_book hc) (ext_of h.old e6)⟩, us', ws', _, e4, by rw [List.length_append, List.length_singleton]; omega, fun ys hy => by
    rcases List.mem_append.1 hy with hy | hy
    · exact h4 ys hy
    · simp at hy; subst hy; simp; omega⟩, e6, e7.mono fun r hr => by unfold LoanR at hr; omega, e7.below h.old⟩
/-- A list is kept. -/
theorem Keeps.keep (h : Keeps base gb gl role w k) {v : Value} {bs : List Nat} (hv : AccO w v bs) (hvn : ∀ i, v.ownBlock = some i → base ≤ i ∧ role i = none) (hl : bs.length ≤ 70368744177665) :
    Calls Try.prog 21 #[.pointer (some ⟨gb, 0, none⟩), v] w (Kept base gb gl role w k v) := by
  obtain ⟨us, ws, Ls, n, h1⟩ := h.book
  obtain ⟨us2, ws2, Ks, h2, h3, h4⟩ := h.loan
  refine (book_bytes_c h1 h.old hv hvn hl).mono fun e w' ⟨e0, role', us', ws', Ls', n', e1, e2, e3, e4, e5⟩ => ?_
  exact ⟨e0, role', ⟨e2, ⟨us', ws', Ls', n', e1⟩, us2, ws2, Ks, h2.keep e5 (fun c j hc _ => book_loan hc) e3, h3, h4⟩, e3, e4, e5.mono fun r hr => by unfold BookR at hr; omega, e5.below h.old⟩
/-- Bytes get a role of their own, beyond those of the book and the loan. -/
theorem Keeps.give (h : Keeps base gb gl role w k) {v : Value} {bs : List Nat} {r : Nat × Nat} (hv : AccO w v bs) (hvn : ∀ i, v.ownBlock = some i → base ≤ i ∧ (role i = none ∨ role i = some r)) : Keeps base gb gl (upd role v r) w k ∧ Ext role (upd role v r) ∧ B8 (upd role v r) r w v bs := by
  have he : Ext role (upd role v r) := Ext.upd fun i hi => (hvn i hi).2
  have hc : ChgR (fun _ => False) role w w := ChgR.refl _ _ _
  obtain ⟨us, ws, Ls, n, h1⟩ := h.book
  obtain ⟨us2, ws2, Ks, h2, h3, h4⟩ := h.loan
  exact ⟨⟨h.old.upd (Nat.le_refl _) (fun i hi => ⟨(hvn i hi).1, hv.lt i hi⟩), ⟨us, ws, Ls, n, h1.keep hc (fun _ _ _ => id) he⟩, us2, ws2, Ks, h2.keep hc (fun _ _ _ _ => id) he, h3, h4⟩, he, hv, fun i hi => upd_self _ _ _ hi⟩
theorem Keeps.back (h : Keeps base gb gl role w k) (hk : k ≤ 1000000) :
    Calls Try.prog 22 #[.pointer (some ⟨gl, 0, none⟩)] w fun e w' => e = .returned (.bool true) ∧ Below base w w' ∧
      Calls Try.prog 23 #[.pointer (some ⟨gb, 0, none⟩)] w' fun e w2 => e = .returned (.bool true) ∧ Below base w' w2 := by
  obtain ⟨us, ws, Ls, n, h1⟩ := h.book
  obtain ⟨us2, ws2, Ks, h2, h3, h4⟩ := h.loan
  refine (lback_c h2 (by omega) h4).mono fun e w' ⟨e1, e2⟩ => ⟨e1, e2.below h.old, ?_⟩
  exact close_c (h1.keep e2 (fun c j hc e => by have : c = 8 := e; omega) (Ext.refl _)) (h.old.grow e2.size)
/-- At the outset. -/
def role0 (gb gl : Nat) : Role := fun i => if i = gl then some (5, 0) else if i = gb then some (0, 0) else none
theorem Keeps.new (hne : gl ≠ gb) (hl : w.heap[gl]? = some (.cells #[.slice none 0 0, .slice none 0 0] 53 (0, 0))) (hb : w.heap[gb]? = some (.cells #[.slice none 0 0, .slice none 0 0, .slice none 0 0, .slice none 0 0, .int .i64 0] 56 (0, 0))) (h1 : base ≤ gl) (h2 : base ≤ gb) : Keeps base gb gl (role0 gb gl) w 0 := by
  have hlt := heap_lt' hl
  have hbt := heap_lt' hb
  refine ⟨⟨by omega, fun i r e => ?_⟩, ⟨[], [], [], 0, ⟨⟨_, _, hb, SS.nil _ _ _, SS.nil _ _ _⟩, by simp [role0, Ne.symm hne], Fam.nil _ _ _, Fam.nil _ _ _, ⟨Nat.le_refl _, by simp, by omega⟩, fun bs h => by cases h⟩⟩, [], [], [], ⟨⟨_, _, hl, SS.nil _ _ _, SS.nil _ _ _⟩, by simp [role0], Fam.nil _ _ _, Fam.nil _ _ _⟩, by simp, fun bs h => by cases h⟩
  unfold role0 at e
  by_cases e1 : i = gl
  · subst e1; exact ⟨h1, hlt⟩
  · rw [if_neg e1] at e
    by_cases e2 : i = gb
    · subst e2; exact ⟨h2, hbt⟩
    · rw [if_neg e2] at e; cases e
/-- What a call has made is nobody's yet. -/
theorem Keeps.fresh (h : Keeps base gb gl role w k) {v : Value} {w2 : World} {bs : List Nat} (ha : Acc w2 w.heap.size v bs) : ∀ i, v.ownBlock = some i → base ≤ i ∧ role i = none := fun i hi => by
  have h1 := ha.own i hi
  exact ⟨Nat.le_trans h.old.1 h1, h.old.none h1⟩
end
end Go.Proofs.Ytgmpoefgcimaiaa
