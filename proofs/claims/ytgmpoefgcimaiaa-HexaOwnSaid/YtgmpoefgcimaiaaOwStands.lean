/- Whether what is kept still stands: quarrykeep's Book.Stands. -/
import Derived.Test.YtgmpoefgcimaiaaOwKit
import Derived.Test.YtgmpoefgcimaiaaOpsS
import Derived.Deep.QuietTactic
namespace Go.Proofs.Ytgmpoefgcimaiaa
open Go.RowKit

theorem bel_drewN (w : World) (m : Nat) : Below w.heap.size w (w.drewN m) := Below.drewN_ _ _ m

set_option maxRecDepth 100000 in
set_option maxHeartbeats 6400000 in
theorem stands_c {role : Role} {w : World} {gb n : Nat} {us ws : List Value} {Ls : List (List Nat)} (hK : BookAt role w gb us ws Ls n) :
    Calls Try.prog 47 #[.pointer (some ⟨gb, 0, none⟩)] w fun e w' => e = .returned (.bool true) ∧ ∃ m, w' = w.drewN m := by
  have HK := Lib.hid hK
  have hN : Ls.length ≤ 200001 := hK.cnt.2.1
  clear hK
  go_enter Try.func47, Try.ntmps47
  go_wp2_with fail
  go_loopw [3] (fun i wr => ∃ j m : Nat, j ≤ Ls.length ∧ i = .int .i64 (j : Int) ∧ Hid (wr = w.drewN m))
    (fun i _ => Ls.length - (intOf i).toNat)
  case atStart => exact ⟨0, 0, by omega, rfl, rfl⟩
  case round =>
    obtain ⟨j, m, hj, rfl, hw⟩ := hrel
    have hK : BookAt role wr gb us ws Ls n := by rw [hw.out]; exact HK.out.keep (P := fun _ => False) (ChgR.of _ role (Below.drewN_ _ _ m)) (fun _ _ _ => id) (Ext.refl _)
    obtain ⟨⟨v1, v2, hg, hs1, hs2⟩, hself, hf1, hf2, hcnt, hlen⟩ := hK
    obtain ⟨V1, C1, rfl⟩ := hs1.form
    obtain ⟨V2, C2, rfl⟩ := hs2.form
    obtain ⟨a0, a1, -⟩ := five_of hg
    obtain ⟨U, hU⟩ : ∃ U, U = us.length := ⟨_, rfl⟩
    have hU2 : ws.length = U := by rw [hU, hf1.1, hf2.1]
    have hU3 : Ls.length = U := by rw [hU, hf1.1]
    have HW := Lib.hid hw.out
    by_cases hlt : j < Ls.length
    · obtain ⟨x, bs, hx, hbs, hb8⟩ := hf1.at_ (j := j) (by omega)
      obtain ⟨y, bs', hy, hbs', hb8'⟩ := hf2.at_ (j := j) (by omega)
      rw [hbs] at hbs'
      injection hbs' with hbs'
      subst hbs'
      obtain ⟨g1, c1, e1, hc1, hcl1⟩ := hs1.at_ (j := j) (by omega)
      obtain ⟨g2, c2, e2, hc2, hcl2⟩ := hs2.at_ (j := j) (by omega)
      injection e1 with e1 e3 e4
      injection e2 with e2 e5 e6
      subst e1 e4 e2 e6
      have x0 := hcl1 j x hx
      have y0 := hcl2 j y hy
      obtain ⟨X, cx, rfl⟩ := hb8.1.form
      obtain ⟨Y, cy, rfl⟩ := hb8'.1.form
      have k1 : ∀ q, (convert 22 9 (.slice X bs.length cx)).run Try.prog (wr.drewN q) = .ok (.string (sOf bs)) (wr.drewN q) := fun q => run_sOf (hb8.1.byt.below (Below.drewN_ _ _ q))
      have k2 : ∀ q, (convert 22 9 (.slice Y bs.length cy)).run Try.prog (wr.drewN q) = .ok (.string (sOf bs)) (wr.drewN q) := fun q => run_sOf (hb8'.1.byt.below (Below.drewN_ _ _ q))
      have k3 := k1 0
      have k4 := k2 0
      rw [World.drewN_zero] at k3 k4
      generalize sOf bs = S at *
      rw [← hU] at a0
      rw [hU2] at a1
      have hjU : (j : Int) < (U : Int) := by omega
      have ej : IntKind.i64.wrap ((j : Int) + 1) = (j : Int) + 1 := IntWalk.i64_in _ (by omega)
      have hJ : Hid (j < Ls.length ∧ Ls.length = U) := ⟨hlt, hU3⟩
      clear hw hg hs1 hs2 hf1 hf2 hself hcnt hlen hU hU2 hU3 hb8 hb8' hcl1 hcl2 hx hy hbs e3 e5 hlt hj HK hc1 hc2
      go_wp2_with fail
      go_quiet (fail)
      go_wp2_with fail
      exact ⟨⟨j + 1, _, by have := hJ.out; omega, by simp, by show _ = _; rw [HW.out, World.drewN_drewN]⟩, by simp [intOf]; have := hJ.out; omega⟩
    · rw [← hU] at a0
      have hjU : ¬ ((j : Int) < (U : Int)) := by omega
      clear hw hg hs1 hs2 hf1 hf2 hself hcnt hlen hU hU2 hU3 hlt hj HK
      go_wp2_with fail
      go_ret
      exact ⟨rfl, m, HW.out⟩
end Go.Proofs.Ytgmpoefgcimaiaa
/- Whether what was lent is as it was: quarrykeep's Loan.Back. -/
namespace Go.Proofs.Ytgmpoefgcimaiaa
open Go.RowKit

theorem AccO.at_ {w : World} {A : Option Addr} {n c : Nat} {bs : List Nat} (h : AccO w (.slice A n c) bs) {q : Nat} (hq : q < n) : ∃ g o, A = some ⟨g, o, none⟩ ∧ g < w.heap.size ∧ n = bs.length ∧ n ≤ c ∧ ∀ i, i < n → w.cell? ⟨g, o + i, none⟩ = some (.int .u8 (bs.getD i 0 : Nat)) ∧ w.frozen? ⟨g, o + i, none⟩ = false := by
  rcases h.2 with ⟨e, rfl⟩ | ⟨g, o, cap, e, h1, h2, h3, h4, h5⟩
  · injection e with e1 e2 e3; omega
  · injection e with e1 e2 e3
    subst e1 e2 e3
    exact ⟨g, o, rfl, h3, rfl, h1, fun i hi => ⟨h5 i hi, (h4 i (by omega)).2⟩⟩

set_option maxRecDepth 100000 in
set_option maxHeartbeats 6400000 in
theorem lback_c {role : Role} {w : World} {gl : Nat} {us ws : List Value} {Ls : List (List Nat)} (hL : LoanAt role w gl us ws Ls) (hn : Ls.length ≤ 1000000) (hlen : ∀ bs ∈ Ls, bs.length ≤ 140737488355328) :
    Calls Try.prog 22 #[.pointer (some ⟨gl, 0, none⟩)] w fun e w' => e = .returned (.bool true) ∧ ChgR (fun r => r.1 = 8) role w w' := by
  have HL := Lib.hid hL
  have HLEN := Lib.hid hlen
  have HCR := Lib.hid (ChgR.refl (fun r : Nat × Nat => r.1 = 8 ∧ r.2 < 0) role w)
  clear hL hlen
  go_enter Try.func22, Try.ntmps22
  go_upto_region 3 with (fail)
  go_loopw [3, 4] (fun k i wr => ∃ j : Nat, j ≤ Ls.length ∧ k = .bool true ∧ i = .int .i64 (j : Int) ∧ Hid (ChgR (fun r => r.1 = 8 ∧ r.2 < j) role w wr))
    (fun _ i _ => Ls.length - (intOf i).toNat)
  case atStart => exact ⟨0, by omega, rfl, rfl, HCR.out⟩
  case round =>
    obtain ⟨j, hj, rfl, rfl, hc⟩ := hrel
    obtain ⟨⟨v1, v2, hg, hs1, hs2⟩, hself, hf1, hf2⟩ := HL.out
    have hg := (hc.out.block gl (heap_lt' hg) (fun s e hs => by rw [hself] at e; injection e with e; subst e; simp at hs)).trans hg
    have hs1 := hs1.keep hc.out (by simp) (Ext.refl _)
    have hs2 := hs2.keep hc.out (by simp) (Ext.refl _)
    obtain ⟨V1, C1, rfl⟩ := hs1.form
    obtain ⟨V2, C2, rfl⟩ := hs2.form
    obtain ⟨a0, a1, -⟩ := two_of hg
    obtain ⟨U, hU⟩ : ∃ U, U = us.length := ⟨_, rfl⟩
    have hU2 : ws.length = U := by rw [hU, hf1.1, hf2.1]
    have hU3 : Ls.length = U := by rw [hU, hf1.1]
    by_cases hlt : j < Ls.length
    · obtain ⟨x, bs, hx, hbs, hb8⟩ := hf1.at_ (j := j) (by omega)
      obtain ⟨y, bs', hy, hbs', hb8'⟩ := hf2.at_ (j := j) (by omega)
      rw [hbs] at hbs'
      injection hbs' with hbs'
      subst hbs'
      have hb8 := hb8.keep hc.out (by simp) (Ext.refl _)
      have hb8' := hb8'.keep hc.out (by simp) (Ext.refl _)
      have hbl := HLEN.out bs (List.mem_of_getElem? hbs)
      obtain ⟨g1, c1, e1, hc1, hcl1⟩ := hs1.at_ (j := j) (by omega)
      obtain ⟨g2, c2, e2, hc2, hcl2⟩ := hs2.at_ (j := j) (by omega)
      injection e1 with e1 e3 e4
      injection e2 with e2 e5 e6
      subst e1 e4 e2 e6
      have x0 := hcl1 j x hx
      have y0 := hcl2 j y hy
      obtain ⟨X, cx, rfl⟩ := hb8.1.form
      obtain ⟨Y, cy, rfl⟩ := hb8'.1.form
      have k1 : ∀ q, (convert 22 9 (.slice X bs.length cx)).run Try.prog (wr.drewN q) = .ok (.string (sOf bs)) (wr.drewN q) := fun q => run_sOf (hb8.1.byt.below (Below.drewN_ _ _ q))
      have k2 : ∀ q, (convert 22 9 (.slice Y bs.length cy)).run Try.prog (wr.drewN q) = .ok (.string (sOf bs)) (wr.drewN q) := fun q => run_sOf (hb8'.1.byt.below (Below.drewN_ _ _ q))
      have k3 := k1 0
      have k4 := k2 0
      rw [World.drewN_zero] at k3 k4
      generalize sOf bs = S at *
      rw [← hU] at a0
      rw [hU2] at a1
      have hjU : (j : Int) < (U : Int) := by omega
      have ej : IntKind.i64.wrap ((j : Int) + 1) = (j : Int) + 1 := IntWalk.i64_in _ (by omega)
      obtain ⟨L, hL⟩ : ∃ L, L = bs.length := ⟨_, rfl⟩
      rw [← hL] at hb8 x0 k1 k3 y0 k2 k4 hbl hx
      have hrj := hb8.2
      have HJ : Hid (j < Ls.length ∧ Ls.length = U ∧ us.length = U ∧ U ≤ 1000000 ∧ L ≤ 140737488355328) := ⟨hlt, hU3, hU.symm, by omega, hbl⟩
      have HX := Lib.hid hx
      have HS1 := Lib.hid hs1
      have HG := Lib.hid hg
      have HB8 := Lib.hid hb8
      have HLB := Lib.hid hL
      have HC := Lib.hid hc.out
      have HSELF := Lib.hid hself
      have hU9 : us.length = U := hU.symm
      rw [hU9] at HS1 HG
      clear hU9
      clear hc hg hs1 hs2 hf1 hf2 hself hU hU2 hU3 hb8 hb8' hcl1 hcl2 hx hy hbs e3 e5 hlt hj hc1 hc2 hbl hL hrj hn HL HCR
      go_wp2_with fail
      go_quiet (fail)
      clear k1 k2 k3 k4 y0 a1
      go_upto_region 7 with (fail)
      have HC2 := Lib.hid (HC.out.drewN nq)
      have HG2 : Hid ((wr.drewN nq).heap[gl]? = _) := HG.out
      have HS2 : Hid (SS role (6, 0) (wr.drewN nq) _ us) := HS1.out.keep (P := fun _ => False) (ChgR.of _ role (Below.drewN_ _ _ nq)) id (Ext.refl _)
      have HB2 : Hid (B8 role (8, j) (wr.drewN nq) _ bs) := HB8.out.keep (P := fun _ => False) (ChgR.of _ role (Below.drewN_ _ _ nq)) id (Ext.refl _)
      generalize wr.drewN nq = W1 at *
      clear HC HG HS1 HB8 a0 x0 hjU
      have HC0 := Lib.hid (ChgR.refl (fun r : Nat × Nat => r = (8, j)) role W1)
      go_loopw [5] (fun k w2 => ∃ (q : Nat) (ys : List Nat), q ≤ L ∧ k = .int .i64 (q : Int) ∧ Hid (AccO w2 (.slice X L cx) ys) ∧ Hid (ChgR (fun r => r = (8, j)) role W1 w2))
        (fun k _ => L - (intOf k).toNat)
      case atStart => exact ⟨0, bs, by omega, rfl, HB2.out.1, HC0.out⟩
      case round =>
        obtain ⟨q, ys, hq, rfl, hacc, hch⟩ := hrel
        have hg := (hch.out.block gl (heap_lt' HG2.out) (fun s e hs => by rw [HSELF.out] at e; injection e with e; subst e; simp at hs)).trans HG2.out
        have hs1 := HS2.out.keep hch.out (by simp) (Ext.refl _)
        obtain ⟨a0, -⟩ := two_of hg
        obtain ⟨g1', c1', e1, hc1, hcl1⟩ := hs1.at_ (j := j) (by have := HJ.out; omega)
        injection e1 with e1 e3 e4
        injection e1 with e1
        injection e1 with e1
        subst e1 e4
        have x0 := hcl1 j _ HX.out
        have hjU : (j : Int) < (U : Int) := by have := HJ.out; omega
        have hL9 := HJ.out.2.2.2.2
        by_cases hql : q < L
        · obtain ⟨gx, o, rfl, hgx, e9, hle, hcells⟩ := hacc.out.at_ hql
          obtain ⟨p0, p1⟩ := hcells q hql
          have hset := hacc.out.set q 90 (by omega) (by omega)
          have hch2 := hch.out.set (g := gx) (j := o + q) (.int .u8 ((90 : Nat) : Int)) (HB2.out.2 gx rfl) rfl
          have hq1 : (q : Int) < (L : Int) := by omega
          have eq1 : IntKind.i64.wrap ((q : Int) + 1) = (q : Int) + 1 := IntWalk.i64_in _ (by omega)
          have HS9 := Lib.hid hset
          have HC9 := Lib.hid hch2
          have HQ : Hid (q < L) := hql
          clear hset hch2 hcells hacc hch hg hs1 hcl1 hc1 e3 hql hq hle e9 hgx HC2 HG2 HS2 HX HLEN
          go_wp2_with fail
          exact ⟨⟨q + 1, _, HQ.out, by simp, HS9.out, HC9.out⟩, by simp [intOf]; have := HQ.out; omega⟩
        · have hq1 : ¬ (q : Int) < (L : Int) := by omega
          have HF : Hid (ChgR (fun r => r.1 = 8 ∧ r.2 < j + 1) role w wr) := (HC2.out.mono fun r h => ⟨h.1, by omega⟩).same (hch.out.mono fun r h => by subst h; exact ⟨rfl, Nat.lt_succ_self _⟩)
          have HQ : Hid (j < Ls.length) := HJ.out.1
          clear hacc hch hg hs1 hcl1 hc1 e3 hql hq HC2 HG2 HS2 HX HLEN hL9 HB2 HJ
          go_wp2_with fail
          exact ⟨⟨j + 1, HQ.out, rfl, by simp, HF.out⟩, by simp [intOf]; have := HQ.out; omega⟩
    · rw [← hU] at a0
      have hjU : ¬ ((j : Int) < (U : Int)) := by omega
      have HF : Hid (ChgR (fun r => r.1 = 8) role w wr) := hc.out.mono fun _ h => h.1
      clear hc hg hs1 hs2 hf1 hf2 hself hU hU2 hU3 hlt hj HL HLEN HCR
      go_wp2_with fail
      go_ret
      exact ⟨rfl, HF.out⟩
end Go.Proofs.Ytgmpoefgcimaiaa
/- Whether each list is full of its own mark, and what was grown out of it of the other: quarrykeep's Book.lookBytes. -/
namespace Go.Proofs.Ytgmpoefgcimaiaa
open Go.RowKit

/-- The mark of a list, and that of what is grown out of it. -/
def lo (j : Nat) : Nat := j % 125
def hi (j : Nat) : Nat := 125 + j % 125
def mks (j n s : Nat) : List Nat := List.replicate n (lo j) ++ List.replicate s (hi j)
theorem mk_len (j n s : Nat) : (mks j n s).length = n + s := by simp [mks]
theorem mk_ds (j n s : Nat) : Ds 256 (mks j n s) := fun x hx => by
  simp only [mks, List.mem_append, List.mem_replicate] at hx
  unfold lo hi at hx
  rcases hx with ⟨_, rfl⟩ | ⟨_, rfl⟩ <;> omega
theorem mk_lo {j n s q : Nat} (h : q < n) : (mks j n s).getD q 0 = lo j := by
  rw [mks, List.getD_eq_getElem?_getD, List.getElem?_append_left (by simpa using h), List.getElem?_replicate, if_pos h]; rfl
theorem mk_hi {j n s q : Nat} (h : n ≤ q) (hs : q < n + s) : (mks j n s).getD q 0 = hi j := by
  rw [mks, List.getD_eq_getElem?_getD, List.getElem?_append_right (by simpa using h), List.length_replicate, List.getElem?_replicate, if_pos (by omega)]; rfl
theorem mk_snoc (j n s : Nat) : mks j n s ++ [hi j] = mks j n (s + 1) := by rw [mks, mks, List.append_assoc, ← List.replicate_succ']
theorem mk_zero (j n : Nat) : mks j n 0 = List.replicate n (lo j) := by simp [mks]

set_option maxRecDepth 100000 in
set_option maxHeartbeats 6400000 in
theorem look_c {role : Role} {r1 r2 : Nat × Nat} {w : World} {gb : Nat} {v1 vl : Value} {us ls : List Value} (hg : w.cell? ⟨gb, 0, none⟩ = some v1) (h1 : SS role r1 w v1 us) (h2 : SS role r2 w vl ls) (hn : ls.length ≤ 1000000)
    (hm : ∀ j y, ls[j]? = some y → ∃ x n s, us[j]? = some x ∧ n + s ≤ 140737488355328 ∧ AccO w x (mks j n 0) ∧ AccO w y (mks j n s)) :
    Calls Try.prog 60 #[.pointer (some ⟨gb, 0, none⟩), vl] w fun e w' => e = .returned (.bool true) ∧ w' = w := by
  obtain ⟨A, C, rfl⟩ := h2.form
  obtain ⟨N, hN⟩ : ∃ N, N = ls.length := ⟨_, rfl⟩
  rw [← hN] at h2 ⊢
  have H1 := Lib.hid h1
  have H2 := Lib.hid h2
  have HM := Lib.hid hm
  have HN : Hid (N = ls.length ∧ N ≤ 1000000) := ⟨hN, by omega⟩
  have HG := Lib.hid hg
  clear h1 h2 hm hN hn hg
  go_enter Try.func60, Try.ntmps60
  go_upto_region 2 with (fail)
  go_loopw [5] (fun i wr => ∃ j : Nat, j ≤ N ∧ i = .int .i64 (j : Int) ∧ wr = w)
    (fun i _ => N - (intOf i).toNat)
  case atStart => exact ⟨0, by omega, rfl, rfl⟩
  case round =>
    obtain ⟨j, hj, rfl, rfl⟩ := hrel
    by_cases hlt : j < N
    · obtain ⟨y, hy⟩ : ∃ y, ls[j]? = some y := ⟨_, List.getElem?_eq_getElem (by rw [← HN.out.1]; exact hlt)⟩
      obtain ⟨x, n, s, hx, hns, hax, hay⟩ := HM.out j y hy
      obtain ⟨g1, c1, e1, hc1, hcl1⟩ := H1.out.at_ (j := j) (List.getElem?_eq_some_iff.1 hx).1
      have hus : j < us.length := (List.getElem?_eq_some_iff.1 hx).1
      obtain ⟨g2, c2, e2, hc2, hcl2⟩ := H2.out.at_ (j := j) (List.getElem?_eq_some_iff.1 hy).1
      injection e2 with e2 e5 e6
      subst e2 e6
      have a0 := HG.out
      rw [e1] at a0
      have x0 := hcl1 j x hx
      have y0 := hcl2 j y hy
      obtain ⟨X, cx, rfl⟩ := hax.form
      obtain ⟨Y, cy, rfl⟩ := hay.form
      rw [mk_len] at x0 y0 hax hay
      simp only [Nat.add_zero] at x0 hax
      obtain ⟨M, hM⟩ : ∃ M, M = n + s := ⟨_, rfl⟩
      rw [← hM] at y0 hay hns
      obtain ⟨U, hU⟩ : ∃ U, U = us.length := ⟨_, rfl⟩
      rw [← hU] at a0 hus
      have hjN : (j : Int) < (N : Int) := by omega
      have hjU : (j : Int) < (U : Int) := by omega
      have ej : IntKind.i64.wrap ((j : Int) + 1) = (j : Int) + 1 := IntWalk.i64_in _ (by have := HN.out; omega)
      obtain ⟨l, hl⟩ : ∃ l, l = j % 125 := ⟨_, rfl⟩
      have t1 : (j : Int) % 125 = (l : Int) := by omega
      have t2 : (j : Int).tmod 125 = (l : Int) := by rw [Int.tmod_eq_emod_of_nonneg (by omega)]; exact t1
      have hl9 : l < 125 := by omega
      have t3 : IntKind.u8.wrap (l : Int) = (l : Int) := by show ((l : Int) % 256) = l; omega
      have t4 : IntKind.i64.wrap (125 + (l : Int)) = 125 + (l : Int) := IntWalk.i64_in _ (by omega)
      have t5 : IntKind.u8.wrap (125 + (l : Int)) = 125 + (l : Int) := by show ((125 + (l : Int)) % 256) = 125 + (l : Int); omega
      have HLO : Hid (lo j = l ∧ hi j = 125 + l) := ⟨hl.symm, by unfold hi; omega⟩
      have HAX := Lib.hid hax
      have HAY := Lib.hid hay
      have HJ : Hid (j < N ∧ M = n + s ∧ M ≤ 140737488355328) := ⟨hlt, hM, hns⟩
      clear hax hay hcl1 hcl2 hx hy hM hl hns hlt hj hU hus e5 e1 hc1 hc2 hl9
      go_upto_region 6 with (fail)
      go_loopw [7] (fun k w2 => ∃ q : Nat, q ≤ M ∧ k = .int .i64 (q : Int) ∧ w2 = wr)
        (fun k _ => M - (intOf k).toNat)
      case atStart => exact ⟨0, by omega, rfl, rfl⟩
      case round =>
        obtain ⟨q, hq, rfl, rfl⟩ := hrel
        by_cases hqM : q < M
        · obtain ⟨g4, o4, rfl, -, e4, -, hc4⟩ := HAY.out.at_ hqM
          obtain ⟨p0, -⟩ := hc4 q hqM
          have hq1 : (q : Int) < (M : Int) := by omega
          have eq1 : IntKind.i64.wrap ((q : Int) + 1) = (q : Int) + 1 := IntWalk.i64_in _ (by have := HJ.out; omega)
          have HQ : Hid (q < M) := hqM
          clear hc4 e4
          by_cases hqn : q < n
          · obtain ⟨g3, o3, rfl, -, e3, -, hc3⟩ := HAX.out.at_ hqn
            obtain ⟨p1, -⟩ := hc3 q hqn
            rw [mk_lo hqn, HLO.out.1] at p0 p1
            have hq2 : (q : Int) < (n : Int) := by omega
            have hq3 : ¬ ((n : Int) ≤ (q : Int)) := by omega
            clear hc3 e3 hqn hqM hq
            go_wp2_with fail
            exact ⟨⟨q + 1, HQ.out, by simp, by first | trivial | rfl⟩, by simp [intOf]; have := HQ.out; omega⟩
          · rw [mk_hi (by omega) (by have := HJ.out; omega), HLO.out.2] at p0
            have hq2 : ¬ ((q : Int) < (n : Int)) := by omega
            have hq3 : (n : Int) ≤ (q : Int) := by omega
            rw [show ((125 + l : Nat) : Int) = 125 + (l : Int) by omega] at p0
            clear hqn hqM hq
            go_wp2_with fail
            exact ⟨⟨q + 1, HQ.out, by simp, by first | trivial | rfl⟩, by simp [intOf]; have := HQ.out; omega⟩
        · have hq1 : ¬ ((q : Int) < (M : Int)) := by omega
          clear hqM hq
          go_wp2_with fail
          exact ⟨⟨j + 1, HJ.out.1, by simp, by first | trivial | rfl⟩, by simp [intOf]; have := HJ.out; omega⟩
    · have hjN : ¬ ((j : Int) < (N : Int)) := by omega
      clear hj hlt
      go_wp2_with fail
      go_ret
      exact ⟨rfl, rfl⟩
end Go.Proofs.Ytgmpoefgcimaiaa
/- What is grown out of a list that is kept, and what stays of the list: for quarrykeep's Book.closeBytes. -/
namespace Go.Proofs.Ytgmpoefgcimaiaa
open Go.RowKit

/-- l is x and s places more in its spare room, or lies in another block. -/
def Mate (x l : Value) (s : Nat) : Prop := (∃ A n c, x = .slice A n c ∧ l = .slice A (n + s) c) ∨ ∀ k, x.ownBlock = some k → l.ownBlock ≠ some k
theorem Mate.refl {w : World} {x : Value} {xs : List Nat} (h : AccO w x xs) : Mate x x 0 := by
  obtain ⟨A, c, rfl⟩ := h.form
  exact .inl ⟨A, _, c, rfl, rfl⟩
theorem heap_setCells' (b : Nat) (vs : List Value) (o : Nat) (w : World) {k : Nat} (hk : k < w.heap.size) (hne : k ≠ b) : (w.setCells b o vs).heap[k]? = w.heap[k]? := by
  induction vs generalizing o w with
  | nil => rfl
  | cons v r ih => rw [World.setCells, ih (o + 1) (w.setCell ⟨b, o, none⟩ v) (by simpa using hk)]; exact Below.heap_setCell _ _ _ _ hne
theorem chg_setCells {role : Role} {r : Nat × Nat} {w : World} {b o : Nat} {vs : List Value} (hb : role b = some r) : ChgR (fun s => s = r) role w (w.setCells b o vs) := by
  induction vs generalizing o w with
  | nil => exact ChgR.refl _ _ _
  | cons v rest ih => exact ((ChgR.refl (fun s => s = r) role w).set v hb rfl).same ih
theorem B8.len {role : Role} {r : Nat × Nat} {w : World} {A : Option Addr} {n c : Nat} {bs : List Nat} (h : B8 role r w (.slice A n c) bs) : n = bs.length := h.1.len

theorem grow_c {role : Role} {base : Nat} {r : Nat × Nat} {W : World} {l x : Value} {bs xs news : List Nat} {s c : Nat} {ad : Addr} (ho : Old role base W) (hl : B8 role r W l bs) (hx : B8 role r W x xs) (hm : Mate x l s) (hbs : bs.length = xs.length + s)
    (hr : Rd .u8 W (some ad) c news) (hd : Ds 256 news) (hn : bs.length + news.length ≤ 140737488355328) :
    ∃ A' c' W' role', (Builtin.append_ #[22, 22] 22 #[l, .slice (some ad) news.length c]).run Try.prog W = .ok (.slice A' (bs.length + news.length) c') W' ∧
      B8 role' r W' (.slice A' (bs.length + news.length) c') (bs ++ news) ∧ B8 role' r W' x xs ∧ Mate x (.slice A' (bs.length + news.length) c') (s + news.length) ∧ ChgR (fun q => q = r) role W W' ∧ Ext role role' ∧ Old role' base W' ∧ (∀ k, k < W.heap.size → role' k = role k) := by
  obtain ⟨v', W', h1, h2, h3⟩ := run_append_keep 22 hl.1 hr hd hn
  rcases h3 with ⟨g, o, cap, rfl, rfl, hroom, rfl⟩ | ⟨hg, hnew⟩
  · have hrg := hl.2 g rfl
    have hch := chg_setCells (w := W) (o := o + bs.length) (vs := bv news) hrg
    have hxk : B8 role r (W.setCells g (o + bs.length) (bv news)) x xs := by
      refine ⟨?_, hx.2⟩
      rcases hm with ⟨A, n, c', rfl, e⟩ | hne
      · injection e with e1 e2 e3
        subst e1 e3
        have e4 := hx.1.len
        subst e4
        exact hx.1.over bs.length news (by omega) hroom
      · exact hx.1.move (by rw [size_setCells']; exact Nat.le_refl _) fun k hk => heap_setCells' _ _ _ _ (hx.1.lt k hk) (fun e => by subst e; exact hne _ hk rfl)
    refine ⟨_, cap, _, role, h1, ⟨h2, hl.2⟩, hxk, ?_, hch, Ext.refl _, ho.grow (by rw [size_setCells']; exact Nat.le_refl _), fun _ _ => rfl⟩
    rcases hm with ⟨A, n, c', rfl, e⟩ | hne
    · injection e with e1 e2 e3
      subst e1 e3
      exact .inl ⟨_, n, _, rfl, by rw [e2, Nat.add_assoc]⟩
    · exact .inr hne
  · obtain ⟨A', c', rfl⟩ : ∃ A' c', v' = .slice A' (bs.length + news.length) c' := by
      obtain ⟨A', c', e⟩ := h2.form
      exact ⟨A', c', by rw [e, List.length_append]⟩
    have he : Ext role (upd role (.slice A' (bs.length + news.length) c') r) := Ext.upd fun k hk => .inl (ho.none (hnew k hk))
    have hch : ChgR (fun q => q = r) role W W' := (ChgR.refl _ role W).grown hg (fun k e => by cases e)
    refine ⟨A', c', W', upd role (.slice A' (bs.length + news.length) c') r, h1, ⟨h2, fun k hk => upd_self _ _ _ hk⟩, hx.keep (P := fun _ => False) ((ChgR.refl _ role W).grown hg (fun k e => by cases e)) id he, .inr fun k hk e => ?_, hch, he, ho.upd hg.size (fun k hk => ⟨by have := hnew k hk; have := ho.1; omega, h2.lt k hk⟩), fun k hk => upd_old _ _ _ fun e => by have := hnew k e; omega⟩
    have := hnew k e
    have := hx.1.lt k hk
    omega
/-- The same of the list itself, and another that was grown out of it, by the same marks, stays. -/
theorem grow3_c {role : Role} {base : Nat} {r : Nat × Nat} {W : World} {x y : Value} {xs ys news : List Nat} {c : Nat} {ad : Addr} (ho : Old role base W) (hx : B8 role r W x xs) (hy : B8 role r W y ys) (hm : Mate x y (ys.length - xs.length))
    (hys : ys = (xs ++ news).take ys.length) (_hly : xs.length ≤ ys.length) (hr : Rd .u8 W (some ad) c news) (hd : Ds 256 news) (hn : xs.length + news.length ≤ 140737488355328) :
    ∃ A' c' W' role', (Builtin.append_ #[22, 22] 22 #[x, .slice (some ad) news.length c]).run Try.prog W = .ok (.slice A' (xs.length + news.length) c') W' ∧
      B8 role' r W' (.slice A' (xs.length + news.length) c') (xs ++ news) ∧ B8 role' r W' x xs ∧ B8 role' r W' y ys ∧ ChgR (fun q => q = r) role W W' ∧ Ext role role' ∧ Old role' base W' ∧ (∀ k, k < W.heap.size → role' k = role k) := by
  obtain ⟨v', W', h1, h2, h3⟩ := run_append_keep 22 hx.1 hr hd hn
  rcases h3 with ⟨g, o, cap, rfl, rfl, hroom, rfl⟩ | ⟨hg, hnew⟩
  · have hrg := hx.2 g rfl
    have hch := chg_setCells (w := W) (o := o + xs.length) (vs := bv news) hrg
    refine ⟨_, cap, _, role, h1, ⟨h2, hx.2⟩, ⟨hx.1.over xs.length news (by omega) hroom, hx.2⟩, ⟨?_, hy.2⟩, hch, Ext.refl _, ho.grow (by rw [size_setCells']; exact Nat.le_refl _), fun _ _ => rfl⟩
    rcases hm with ⟨A, n, c', e, rfl⟩ | hne
    · injection e with e1 e2 e3
      subst e1 e2 e3
      have hyc := hy.1.rd.le
      have hye := hy.1.len
      rw [hye] at hy ⊢
      refine hy.1.put xs.length news ys hy.1.1 hroom hyc fun j hj => ?_
      rcases Nat.lt_or_ge j xs.length with hlt | hge
      · exact .inr ⟨.inl hlt, hj, rfl⟩
      · have hll := congrArg List.length hys
        rw [List.length_take, List.length_append] at hll
        refine .inl ⟨hge, by omega, ?_⟩
        have h9 : ys[j]? = (xs ++ news)[j]? := by
          conv => lhs; rw [hys]
          rw [List.getElem?_take, if_pos hj]
        simp only [List.getD_eq_getElem?_getD]
        rw [h9, List.getElem?_append_right hge]
    · exact hy.1.move (by rw [size_setCells']; exact Nat.le_refl _) fun k hk => heap_setCells' _ _ _ _ (hy.1.lt k hk) (fun e => by subst e; exact hne _ rfl hk)
  · obtain ⟨A', c', rfl⟩ : ∃ A' c', v' = .slice A' (xs.length + news.length) c' := by
      obtain ⟨A', c', e⟩ := h2.form
      exact ⟨A', c', by rw [e, List.length_append]⟩
    have he : Ext role (upd role (.slice A' (xs.length + news.length) c') r) := Ext.upd fun k hk => .inl (ho.none (hnew k hk))
    have hch : ChgR (fun q => q = r) role W W' := (ChgR.refl _ role W).grown hg (fun k e => by cases e)
    have hch0 : ChgR (fun _ => False) role W W' := (ChgR.refl _ role W).grown hg (fun k e => by cases e)
    exact ⟨A', c', W', upd role (.slice A' (xs.length + news.length) c') r, h1, ⟨h2, fun k hk => upd_self _ _ _ hk⟩, hx.keep hch0 id he, hy.keep hch0 id he, hch, he, ho.upd hg.size (fun k hk => ⟨by have := hnew k hk; have := ho.1; omega, h2.lt k hk⟩), fun k hk => upd_old _ _ _ fun e => by have := hnew k e; omega⟩
theorem mark_set (q l : Nat) (bs : List Nat) (h : q < bs.length) : (List.replicate q l ++ bs.drop q).set q l = List.replicate (q + 1) l ++ bs.drop (q + 1) := by
  rw [List.set_append_right _ _ (by simp), List.length_replicate, Nat.sub_self, List.drop_eq_getElem_cons h, List.set_cons_zero, List.replicate_succ', List.append_assoc]
  rfl
end Go.Proofs.Ytgmpoefgcimaiaa
/- What stands while quarrykeep's Book.closeBytes grows its lists. -/
namespace Go.Proofs.Ytgmpoefgcimaiaa
open Go.RowKit

/-- The lists us are full of their marks; os, ms have been grown out of them. -/
structure MMk (base gb n : Nat) (v1 v2 : Value) (w : World) (us : List Value) (Ls : List (List Nat)) (role : Role) (wr : World) (v3 : Value) (os : List Value) (v4 : Value) (ms : List Value) : Prop where
  old : Old role base wr
  cell : wr.heap[gb]? = some (.cells #[v1, v2, v3, v4, .int .i64 (n : Nat)] 56 (0, 0))
  self : role gb = some (0, 0)
  list : SS role (1, 0) wr v1 us
  ones : SS role (10, 0) wr v3 os
  manys : SS role (11, 0) wr v4 ms
  fam : ∀ i x bs, us[i]? = some x → Ls[i]? = some bs → B8 role (3, i) wr x (mks i bs.length 0)
  one : ∀ i o, os[i]? = some o → ∃ x bs, us[i]? = some x ∧ Ls[i]? = some bs ∧ B8 role (3, i) wr o (mks i bs.length 16) ∧ Mate x o 16
  many : ∀ i m, ms[i]? = some m → ∃ bs, Ls[i]? = some bs ∧ B8 role (3, i) wr m (mks i bs.length 700)
  bel : Below base w wr
section
variable {base gb n : Nat} {v1 v2 : Value} {w : World} {us : List Value} {Ls : List (List Nat)} {role role' : Role} {wr w2 : World} {v3 : Value} {os : List Value} {v4 : Value} {ms : List Value} {j : Nat} {x : Value} {bs : List Nat}
/-- The entry j has changed. -/
theorem MMk.step (h : MMk base gb n v1 v2 w us Ls role wr v3 os v4 ms) (hc : ChgR (fun r => r = (3, j)) role wr w2) (he : Ext role role') (ho : Old role' base w2) (hx : us[j]? = some x) (hb : Ls[j]? = some bs) (h8 : B8 role' (3, j) w2 x (mks j bs.length 0))
    (h1 : ∀ o, os[j]? = some o → B8 role' (3, j) w2 o (mks j bs.length 16)) (h2 : ms.length ≤ j) : MMk base gb n v1 v2 w us Ls role' w2 v3 os v4 ms := by
  have hne : ∀ i, i ≠ j → ¬ ((fun r : Nat × Nat => r = (3, j)) (3, i)) := fun i hi e => by injection e with e1 e2; exact hi e2
  refine ⟨ho, (hc.block gb (heap_lt' h.cell) fun s e hs => by rw [h.self] at e; injection e with e; subst e; cases hs).trans h.cell, he _ _ h.self, h.list.keep hc (by intro e; cases e) he, h.ones.keep hc (by intro e; cases e) he, h.manys.keep hc (by intro e; cases e) he, fun i y ys hy hys => ?_, fun i o hi => ?_, fun i m hi => ?_, h.bel.trans (hc.below h.old)⟩
  · by_cases e : i = j
    · subst e
      rw [hx] at hy; injection hy with hy; subst hy
      rw [hb] at hys; injection hys with hys; subst hys
      exact h8
    · exact (h.fam i y ys hy hys).keep hc (hne i e) he
  · obtain ⟨y, ys, k1, k2, k3, k4⟩ := h.one i o hi
    by_cases e : i = j
    · subst e
      rw [hb] at k2; injection k2 with k2; subst k2
      exact ⟨y, bs, k1, hb, h1 o hi, k4⟩
    · exact ⟨y, ys, k1, k2, k3.keep hc (hne i e) he, k4⟩
  · obtain ⟨ys, k2, k3⟩ := h.many i m hi
    have := (List.getElem?_eq_some_iff.1 hi).1
    exact ⟨ys, k2, k3.keep hc (hne i (by omega)) he⟩
/-- Worlds in which nothing old has changed. -/
theorem MMk.below (h : MMk base gb n v1 v2 w us Ls role wr v3 os v4 ms) (hb : Below wr.heap.size wr w2) : MMk base gb n v1 v2 w us Ls role w2 v3 os v4 ms := by
  have hc : ChgR (fun _ => False) role wr w2 := ChgR.of _ role hb
  exact ⟨h.old.grow hb.size, (hb.block gb (heap_lt' h.cell)).trans h.cell, h.self, h.list.keep hc id (Ext.refl _), h.ones.keep hc id (Ext.refl _), h.manys.keep hc id (Ext.refl _), fun i y ys hy hys => (h.fam i y ys hy hys).keep hc id (Ext.refl _), fun i o hi => by
    obtain ⟨y, ys, k1, k2, k3, k4⟩ := h.one i o hi
    exact ⟨y, ys, k1, k2, k3.keep hc id (Ext.refl _), k4⟩, fun i m hi => by
    obtain ⟨ys, k2, k3⟩ := h.many i m hi
    exact ⟨ys, k2, k3.keep hc id (Ext.refl _)⟩, h.bel.trans (hb.mono h.old.1)⟩
theorem MMk.put3 (h : MMk base gb n v1 v2 w us Ls role wr v3 os v4 ms) (hj : os.length = j) (hx : us[j]? = some x) (hb : Ls[j]? = some bs) {A : Option Addr} {m k : Nat} (hl : B8 role (3, j) wr (.slice A m k) (mks j bs.length 16)) (hm : Mate x (.slice A m k) 16) (hn : j ≤ 200001) :
    ∃ A' c' w' role', (Builtin.append_ #[51, 51] 51 #[v3, .slice (some ⟨wr.heap.size, 0, none⟩) 1 1]).run Try.prog (wr.alloc (.cells #[.slice A m k] 22)) = .ok (.slice A' (os.length + 1) c') w' ∧
      w'.heap[gb]? = some (.cells #[v1, v2, v3, v4, .int .i64 (n : Nat)] 56 (0, 0)) ∧ MMk base gb n v1 v2 w us Ls role' (w'.setCell ⟨gb, 2, none⟩ (.slice A' (os.length + 1) c')) (.slice A' (os.length + 1) c') (os ++ [.slice A m k]) v4 ms := by
  obtain ⟨A', c', w', role', h1, h2, h3, h4, h5, h6, h7, _⟩ := ss_put h.ones h.old (by omega) A m k h.cell h.self (by decide) 2
  have hne : ∀ c i, c ≠ 10 → c ≠ 0 → ¬ ((fun s : Nat × Nat => s = (10, 0) ∨ s = (0, 0)) (c, i)) := fun c i e1 e2 e => by
    rcases e with e | e <;> (injection e with e3 e4; omega)
  refine ⟨A', c', w', role', h1, h2, h7, by simpa using h4, h6 _ _ h.self, h.list.keep h5 (hne 1 0 (by omega) (by omega)) h6, h3, h.manys.keep h5 (hne 11 0 (by omega) (by omega)) h6, fun i y ys hy hys => (h.fam i y ys hy hys).keep h5 (hne 3 i (by omega) (by omega)) h6, fun i o hi => ?_, fun i m hi => by
    obtain ⟨ys, k2, k3⟩ := h.many i m hi
    exact ⟨ys, k2, k3.keep h5 (hne 3 i (by omega) (by omega)) h6⟩, h.bel.trans (h5.below h.old)⟩
  rcases Nat.lt_or_ge i os.length with hlt | hge
  · rw [List.getElem?_append_left hlt] at hi
    obtain ⟨y, ys, k1, k2, k3, k4⟩ := h.one i o hi
    exact ⟨y, ys, k1, k2, k3.keep h5 (hne 3 i (by omega) (by omega)) h6, k4⟩
  · rw [List.getElem?_append_right hge] at hi
    have h0 : i - os.length = 0 := by
      rcases Nat.eq_zero_or_pos (i - os.length) with h0 | h0
      · exact h0
      · rw [List.getElem?_eq_none (by simp; omega)] at hi; cases hi
    rw [h0] at hi
    injection hi with hi
    subst hi
    obtain rfl : i = j := by omega
    exact ⟨x, bs, hx, hb, hl.keep h5 (hne 3 _ (by omega) (by omega)) h6, hm⟩
theorem MMk.put4 (h : MMk base gb n v1 v2 w us Ls role wr v3 os v4 ms) (hj : ms.length = j) (hb : Ls[j]? = some bs) {A : Option Addr} {m k : Nat} (hl : B8 role (3, j) wr (.slice A m k) (mks j bs.length 700)) (hn : j ≤ 200001) :
    ∃ A' c' w' role', (Builtin.append_ #[51, 51] 51 #[v4, .slice (some ⟨wr.heap.size, 0, none⟩) 1 1]).run Try.prog (wr.alloc (.cells #[.slice A m k] 22)) = .ok (.slice A' (ms.length + 1) c') w' ∧
      w'.heap[gb]? = some (.cells #[v1, v2, v3, v4, .int .i64 (n : Nat)] 56 (0, 0)) ∧ MMk base gb n v1 v2 w us Ls role' (w'.setCell ⟨gb, 3, none⟩ (.slice A' (ms.length + 1) c')) v3 os (.slice A' (ms.length + 1) c') (ms ++ [.slice A m k]) := by
  obtain ⟨A', c', w', role', h1, h2, h3, h4, h5, h6, h7, _⟩ := ss_put h.manys h.old (by omega) A m k h.cell h.self (by decide) 3
  have hne : ∀ c i, c ≠ 11 → c ≠ 0 → ¬ ((fun s : Nat × Nat => s = (11, 0) ∨ s = (0, 0)) (c, i)) := fun c i e1 e2 e => by
    rcases e with e | e <;> (injection e with e3 e4; omega)
  refine ⟨A', c', w', role', h1, h2, h7, by simpa using h4, h6 _ _ h.self, h.list.keep h5 (hne 1 0 (by omega) (by omega)) h6, h.ones.keep h5 (hne 10 0 (by omega) (by omega)) h6, h3, fun i y ys hy hys => (h.fam i y ys hy hys).keep h5 (hne 3 i (by omega) (by omega)) h6, fun i o hi => by
    obtain ⟨y, ys, k1, k2, k3, k4⟩ := h.one i o hi
    exact ⟨y, ys, k1, k2, k3.keep h5 (hne 3 i (by omega) (by omega)) h6, k4⟩, fun i m hi => ?_, h.bel.trans (h5.below h.old)⟩
  rcases Nat.lt_or_ge i ms.length with hlt | hge
  · rw [List.getElem?_append_left hlt] at hi
    obtain ⟨ys, k2, k3⟩ := h.many i m hi
    exact ⟨ys, k2, k3.keep h5 (hne 3 i (by omega) (by omega)) h6⟩
  · rw [List.getElem?_append_right hge] at hi
    have h0 : i - ms.length = 0 := by
      rcases Nat.eq_zero_or_pos (i - ms.length) with h0 | h0
      · exact h0
      · rw [List.getElem?_eq_none (by simp; omega)] at hi; cases hi
    rw [h0] at hi
    injection hi with hi
    subst hi
    obtain rfl : i = j := by omega
    exact ⟨bs, hb, hl.keep h5 (hne 3 _ (by omega) (by omega)) h6⟩
theorem MMk.look1 (h : MMk base gb n v1 v2 w us Ls role wr v3 os v4 ms) (hu : us.length ≤ 200001) (hl : ∀ bs ∈ Ls, bs.length ≤ 70368744177665) : Calls Try.prog 60 #[.pointer (some ⟨gb, 0, none⟩), v3] wr fun e w' => e = .returned (.bool true) ∧ w' = wr := by
  have hos : os.length ≤ us.length := by
    rcases Nat.lt_or_ge us.length os.length with h1 | h1
    · obtain ⟨x, bs, k1, _⟩ := h.one us.length os[us.length] (List.getElem?_eq_getElem h1)
      rw [List.getElem?_eq_none (Nat.le_refl _)] at k1; cases k1
    · exact h1
  refine look_c (five_of h.cell).1 h.list h.ones (by omega) fun j y hy => ?_
  obtain ⟨x, bs, k1, k2, k3, _⟩ := h.one j y hy
  exact ⟨x, bs.length, 16, k1, by have := hl bs (List.mem_of_getElem? k2); omega, (h.fam j x bs k1 k2).1, k3.1⟩
theorem MMk.look2 (h : MMk base gb n v1 v2 w us Ls role wr v3 os v4 ms) (hu : us.length ≤ 200001) (hLs : us.length = Ls.length) (hl : ∀ bs ∈ Ls, bs.length ≤ 70368744177665) : Calls Try.prog 60 #[.pointer (some ⟨gb, 0, none⟩), v4] wr fun e w' => e = .returned (.bool true) ∧ w' = wr := by
  have hos : ms.length ≤ us.length := by
    rcases Nat.lt_or_ge us.length ms.length with h1 | h1
    · obtain ⟨bs, k1, _⟩ := h.many us.length ms[us.length] (List.getElem?_eq_getElem h1)
      rw [List.getElem?_eq_none (by rw [hLs]; exact Nat.le_refl _)] at k1; cases k1
    · exact h1
  refine look_c (five_of h.cell).1 h.list h.manys (by omega) fun j y hy => ?_
  obtain ⟨bs, k2, k3⟩ := h.many j y hy
  have hj := (List.getElem?_eq_some_iff.1 k2).1
  have k1 : us[j]? = some us[j] := List.getElem?_eq_getElem (by omega)
  exact ⟨us[j], bs.length, 700, k1, by have := hl bs (List.mem_of_getElem? k2); omega, (h.fam j _ bs k1 k2).1, k3.1⟩
theorem mk_cut (j L : Nat) : mks j L 16 = (mks j L 0 ++ List.replicate 700 (hi j)).take (mks j L 16).length := by
  rw [mk_len, mk_zero, mks, List.take_append, List.length_replicate, List.take_of_length_le (by simp), List.take_replicate, show min (L + 16 - L) 700 = 16 by omega]
theorem mk_more (j L : Nat) : mks j L 0 ++ List.replicate 700 (hi j) = mks j L 700 := by rw [mk_zero, mks]
end
end Go.Proofs.Ytgmpoefgcimaiaa
