/- Package gas: Words, Log, Exp. (Written by wip/gengcwords.py.) -/
import Derived.Test.YtiflfcdegpmhnaaGcLeaf
import Derived.Test.YtiflfcdegpmhnaaGsOps
import Derived.Deep.MidRow
import Derived.Deep.DeepCutAuto
namespace Go.Proofs.Ytiflfcdegpmhnaa
open Go.RowKit

/-- Parts of a cost lie in a block. -/
def PartsAt (w : World) (g : Nat) (l : List (Nat × Nat)) : Prop := g < w.heap.size ∧ ∀ i p, l[i]? = some p → w.rangeAt g (i * 2) [.int .u64 (p.1 : Nat), .int .u64 (p.2 : Nat)]
theorem PartsAt.below {w v : World} {g B : Nat} {l : List (Nat × Nat)} (h : PartsAt w g l) (hb : Below B w v) (hg : g < B) : PartsAt v g l :=
  ⟨Nat.lt_of_lt_of_le h.1 hb.size, fun i p hp j v hv => by rw [Below.cell hb (show (⟨g, i * 2 + j, none⟩ : Addr).block < B from hg)]; exact h.2 i p hp j v hv⟩
/-- What the parts take together. -/
def sumP : List (Nat × Nat) → Nat
  | [] => 0
  | p :: r => p.1 * p.2 + sumP r
theorem sumP_take (l : List (Nat × Nat)) (m : Nat) (p : Nat × Nat) (h : l[m]? = some p) : sumP (l.take (m + 1)) = sumP (l.take m) + p.1 * p.2 := by
  induction l generalizing m with
  | nil => simp at h
  | cons x r ih =>
    cases m with
    | zero => simp at h; subst h; simp [sumP]
    | succ m =>
      have := ih m (by simpa using h)
      simp only [List.take_succ_cons, sumP]
      rw [this]; omega
theorem sumP_le (l : List (Nat × Nat)) (h : ∀ p ∈ l, p.1 < 18446744073709551616 ∧ p.2 < 18446744073709551616) : sumP l ≤ l.length * 340282366920938463463374607431768211456 := by
  induction l with
  | nil => simp [sumP]
  | cons x r ih =>
    have h1 := ih fun p hp => h p (by simp [hp])
    obtain ⟨h2, h3⟩ := h x (by simp)
    have h4 : x.1 * x.2 ≤ 18446744073709551616 * 18446744073709551616 := Nat.mul_le_mul (by omega) (by omega)
    simp only [sumP, List.length_cons]
    omega
theorem infoPart : (Try.prog.info? 67).map (·.size) = some 2 := by kernel_rfl
section
variable {ops : Array Oper} {T : Facts} {o : Oper} {a : Act} {w : World}
theorem gc_faP {g k : Nat} (x : Operand) (ho : o.op = .fieldAddr 67 x k) (hk : k = 0 ∨ k = 1) (hx : a.eval x = .pointer (some ⟨g, 0, none⟩)) (hw : Region.wanted o (yielded ops a.tmps) = true) (hf : factTo T o.dst (.pointer (some ⟨g, k, none⟩)) w) : relStep Try.prog ops T o a w :=
  relStep_val (.pointer (some ⟨g, k, none⟩)) hw hf (by
    unfold execOp
    rw [ho]
    simp only [hx]
    rcases hk with rfl | rfl <;> go_simp)
end
set_option maxRecDepth 100000 in
set_option maxHeartbeats 12800000 in
theorem total_c (l : List (Nat × Nat)) (g : Nat) (w : World) (h : PartsAt w g l) (hl : l.length ≤ 7) (hp : ∀ p ∈ l, p.1 < 18446744073709551616 ∧ p.2 < 18446744073709551616) :
    Calls Try.prog 34 #[.slice (some ⟨g, 0, none⟩) l.length l.length] w (RetV (paidV (sumP l)) w) := by
  have hg := h.1
  obtain ⟨L, hL⟩ : ∃ L, L = l.length := ⟨_, rfl⟩
  obtain ⟨V, hV⟩ : ∃ V, V = paidV (sumP l) := ⟨_, rfl⟩
  rw [← hL] at hl ⊢
  rw [← hV]
  have HL0 := Lib.hid hL
  have HV := Lib.hid hV
  have HP := Lib.hid hp
  have HS : Hid (∀ m, m ≤ L → sumP (l.take m) ≤ m * 340282366920938463463374607431768211456) := fun m hm => by
    have := sumP_le (l.take m) fun p hq => hp p (List.mem_of_mem_take hq)
    rw [List.length_take, Nat.min_eq_left (by omega)] at this
    exact this
  have hA0 : Arr (w.alloc (.cells #[.int .u64 0, .int .u64 0, .int .u64 0, .int .u64 0] 24)) w.heap.size 24 [lim 0 0, lim 1 0, lim 2 0, lim 3 0] := by
    have := Arr.new4z w 24
    simp only [lim, Nat.zero_div, Nat.zero_mod]; exact this
  have hB0 := (Below.refl w.heap.size w).alloc (Nat.le_refl _) (.cells #[.int .u64 0, .int .u64 0, .int .u64 0, .int .u64 0] 24)
  have HPA := Lib.hid (h.below hB0 hg)
  have HG0 : Hid (g < w.heap.size) := hg
  have HA0 := Lib.hid hA0
  have HB0 := Lib.hid hB0
  clear hL hV hp hA0 hB0 h
  go_enter Try.func34, Try.ntmps34
  go_wp2_with fail
  generalize w.alloc (.cells #[.int .u64 0, .int .u64 0, .int .u64 0, .int .u64 0] 24) = X at *
  go_loopw [9] (fun n wr => ∃ (m s : Nat), m ≤ L ∧ n = .int .i64 (m : Nat) ∧ Hid (s = sumP (l.take m)) ∧ Hid (Arr wr w.heap.size 24 [lim 0 s, lim 1 s, lim 2 s, lim 3 s]) ∧ Hid (PartsAt wr g l) ∧ Hid (Below w.heap.size w wr)) (fun n _ => L - (intOf n).toNat)
  case atStart => exact ⟨0, 0, Nat.zero_le _, rfl, rfl, HA0.out, HPA.out, HB0.out⟩
  case round =>
    clear HA0 HPA HB0
    obtain ⟨m, s, hm, rfl, HSM, HA, HPW, HB⟩ := hrel
    by_cases h0 : m < L
    · have hll := HL0.out
      obtain ⟨p, hp1⟩ : ∃ p, l[m]? = some p := ⟨_, List.getElem?_eq_getElem (by omega)⟩
      have hr := HPW.out.2 m p hp1
      have hpp := HP.out p (List.mem_of_getElem? hp1)
      have hst := sumP_take l m p hp1
      have hs1 := HS.out (m + 1) (by omega)
      have hs0 := HS.out m (by omega)
      obtain ⟨p0, p1⟩ := p
      simp only at hpp hst hr
      obtain ⟨q, hq⟩ : ∃ q, q = p0 * p1 := ⟨_, rfl⟩
      obtain ⟨r, hr9⟩ : ∃ r, r = sumP (l.take (m + 1)) := ⟨_, rfl⟩
      rw [← hq] at hst
      have hsm := HSM.out
      rw [← hsm, ← hr9] at hst
      rw [← hr9] at hs1
      rw [← hsm] at hs0
      have c0 : wr.cell? ⟨g, m * 2, none⟩ = some (.int .u64 (p0 : Nat)) := hr 0 _ rfl
      have c1 : wr.cell? ⟨g, m * 2 + 1, none⟩ = some (.int .u64 (p1 : Nat)) := hr 1 _ rfl
      have hbs : Big s := by unfold Big; omega
      have hbq : Big q := by unfold Big; omega
      have hb0 : Big p0 := by unfold Big; omega
      have hb1 : Big p1 := by unfold Big; omega
      have K0 : Hid (∀ v, Calls Try.prog 61 #[.int .u64 (p0 : Nat)] v (RetW p0 v)) := fun v => of_c p0 hpp.1 v
      have K1 : Hid (∀ v, Calls Try.prog 61 #[.int .u64 (p1 : Nat)] v (RetW p1 v)) := fun v => of_c p1 hpp.2 v
      have K2 : Hid (∀ v, Calls Try.prog 60 #[W p0, W p1] v (RetW q v)) := fun v => by
        have h := mul_c (isW_lim hb0) (isW_lim hb1) v
        rw [← hq, Nat.mod_eq_of_lt (show q < 115792089237316195423570985008687907853269984665640564039457584007913129639936 from hbq)] at h; exact h
      have K3 : Hid (∀ v, Calls Try.prog 59 #[W s, W q] v (RetW r v)) := fun v => by
        have h := add_c (isW_lim hbs) (isW_lim hbq) v
        rw [← hst, Nat.mod_eq_of_lt (show r < 115792089237316195423570985008687907853269984665640564039457584007913129639936 by omega)] at h; exact h
      have HR9 := Lib.hid hr9
      have hgr : g < wr.heap.size := HPW.out.1
      clear hll hr hpp hst hs1 hs0 hsm hbs hbq hb0 hb1 hq hr9 hp1 HSM
      go_upto_region 5 with (fail)
      obtain ⟨Y, hY⟩ : ∃ Y, Y = wr.alloc (.cells #[.int .u64 (p0 : Nat), .int .u64 (p1 : Nat)] 67) := ⟨_, rfl⟩
      have hn := heap_alloc_new wr (.cells #[.int .u64 (p0 : Nat), .int .u64 (p1 : Nat)] 67)
      have hwB : w.heap.size < wr.heap.size := HA.out.lt
      rw [← hY] at hn
      replace HA := Lib.hid (HA.out.alloc (.cells #[.int .u64 (p0 : Nat), .int .u64 (p1 : Nat)] 67))
      replace HB := Lib.hid (HB.out.alloc HB.out.size (.cells #[.int .u64 (p0 : Nat), .int .u64 (p1 : Nat)] 67))
      replace HPW := Lib.hid (HPW.out.below ((Below.refl wr.heap.size _).alloc (Nat.le_refl _) (.cells #[.int .u64 (p0 : Nat), .int .u64 (p1 : Nat)] 67)) HPW.out.1)
      rw [← hY] at HA HB HPW
      rw [← hY]
      have HL : Hid (wr.heap.size < Y.heap.size) := by rw [hY]; exact (by simp : wr.heap.size < (wr.alloc _).heap.size)
      have HC : Hid (Y.cell? ⟨wr.heap.size, 0, none⟩ = some (.int .u64 (p0 : Nat)) ∧ Y.cell? ⟨wr.heap.size, 1, none⟩ = some (.int .u64 (p1 : Nat))) := ⟨by rw [cell_of_row _ _ 0 _ _ (0, 0) hn]; rfl, by rw [cell_of_row _ _ 1 _ _ (0, 0) hn]; rfl⟩
      have HGB : Hid (g < Y.heap.size ∧ m < L ∧ w.heap.size < Y.heap.size) := ⟨HPW.out.1, h0, HA.out.lt⟩
      clear hn hY c0 c1 hgr
      refine wp_region_see 9 [13, 14, 15, 16, 17, 18, 19, 20, 21] [(13, .is (W s)), (14, .is (.pointer (some ⟨wr.heap.size, 0, none⟩))), (15, .is (.int .u64 (p0 : Nat))), (16, .is (W p0)), (17, .is (.pointer (some ⟨wr.heap.size, 1, none⟩))), (18, .is (.int .u64 (p1 : Nat))), (19, .is (W p1)), (20, .is (W q)), (21, .is (W r))] (by kernel_rfl) (by kernel_rfl) (by rfl) ?_ ?_
      · refine seeOps_cons ?_ (seeOps_cons ?_ (seeOps_cons ?_ (seeOps_cons ?_ (seeOps_cons ?_ (seeOps_cons ?_ (seeOps_cons ?_ (seeOps_cons ?_ (seeOps_cons ?_ seeOps_nil))))))))
        · intro w9 hb9 fr hout hin
          have h4 : fr.tmps.getD 4 undef = .pointer (some ⟨w.heap.size, 0, none⟩) := hout 4 (by decide)
          clear hout hin
          exact gs_loadW (n := s) (.tmp 4) rfl h4 ((HA.out.below hb9 HA.out.lt).cells4) (wanted_none rfl) rfl
        · intro w9 hb9 fr hout hin
          have h6 : fr.tmps.getD 6 undef = .pointer (some ⟨wr.heap.size, 0, none⟩) := hout 6 (by decide)
          clear hout hin
          exact gc_faP (.tmp 6) rfl (.inl rfl) h6 (wanted_none rfl) rfl
        · intro w9 hb9 fr hout hin
          have h14 : fr.tmps.getD 14 undef = .pointer (some ⟨wr.heap.size, 0, none⟩) := hin 14 (by decide) (by decide)
          clear hout hin
          exact gs_load (.tmp 14) rfl gs_u64 h14 ((hb9.cell (p := ⟨wr.heap.size, 0, none⟩) HL.out).trans HC.out.1) (wanted_none rfl) rfl
        · intro w9 hb9 fr hout hin
          have h15 : fr.tmps.getD 15 undef = .int .u64 (p0 : Nat) := hin 15 (by decide) (by decide)
          clear hout hin
          exact relStep_callW 61 #[.int .u64 (p0 : Nat)] (wanted_none rfl) (K0.out _) (fun _ => rfl) (by have hh := h15; go_simp)
        · intro w9 hb9 fr hout hin
          have h6 : fr.tmps.getD 6 undef = .pointer (some ⟨wr.heap.size, 0, none⟩) := hout 6 (by decide)
          clear hout hin
          exact gc_faP (.tmp 6) rfl (.inr rfl) h6 (wanted_none rfl) rfl
        · intro w9 hb9 fr hout hin
          have h17 : fr.tmps.getD 17 undef = .pointer (some ⟨wr.heap.size, 1, none⟩) := hin 17 (by decide) (by decide)
          clear hout hin
          exact gs_load (.tmp 17) rfl gs_u64 h17 ((hb9.cell (p := ⟨wr.heap.size, 1, none⟩) HL.out).trans HC.out.2) (wanted_none rfl) rfl
        · intro w9 hb9 fr hout hin
          have h18 : fr.tmps.getD 18 undef = .int .u64 (p1 : Nat) := hin 18 (by decide) (by decide)
          clear hout hin
          exact relStep_callW 61 #[.int .u64 (p1 : Nat)] (wanted_none rfl) (K1.out _) (fun _ => rfl) (by have hh := h18; go_simp)
        · intro w9 hb9 fr hout hin
          have h16 : fr.tmps.getD 16 undef = W p0 := hin 16 (by decide) (by decide)
          have h19 : fr.tmps.getD 19 undef = W p1 := hin 19 (by decide) (by decide)
          clear hout hin
          exact relStep_callW 60 #[W p0, W p1] (wanted_none rfl) (K2.out _) (fun _ => rfl) (by have hh := And.intro h16 h19; go_simp)
        · intro w9 hb9 fr hout hin
          have h13 : fr.tmps.getD 13 undef = W s := hin 13 (by decide) (by decide)
          have h20 : fr.tmps.getD 20 undef = W q := hin 20 (by decide) (by decide)
          clear hout hin
          exact relStep_callW 59 #[W s, W q] (wanted_none rfl) (K3.out _) (fun _ => rfl) (by have hh := And.intro h13 h20; go_simp)
      intro w2 hb2
      refine relAsk_in (by rfl) ?_
      intro v13 h13
      obtain rfl : v13 = W s := h13
      refine relAsk_in (by rfl) ?_
      intro v14 h14
      obtain rfl : v14 = .pointer (some ⟨wr.heap.size, 0, none⟩) := h14
      refine relAsk_in (by rfl) ?_
      intro v15 h15
      obtain rfl : v15 = .int .u64 (p0 : Nat) := h15
      refine relAsk_in (by rfl) ?_
      intro v16 h16
      obtain rfl : v16 = W p0 := h16
      refine relAsk_in (by rfl) ?_
      intro v17 h17
      obtain rfl : v17 = .pointer (some ⟨wr.heap.size, 1, none⟩) := h17
      refine relAsk_in (by rfl) ?_
      intro v18 h18
      obtain rfl : v18 = .int .u64 (p1 : Nat) := h18
      refine relAsk_in (by rfl) ?_
      intro v19 h19
      obtain rfl : v19 = W p1 := h19
      refine relAsk_in (by rfl) ?_
      intro v20 h20
      obtain rfl : v20 = W q := h20
      refine relAsk_in (by rfl) ?_
      intro v21 h21
      obtain rfl : v21 = W r := h21
      refine relAsk_nil ?_
      clear K0 K1 K2 K3
      have hI := HA.out.below hb2 HA.out.lt
      obtain ⟨f0, f1, f2, f3⟩ := hI.free4
      obtain ⟨x0, x1, x2, x3⟩ := hI.cells4
      have hP := HPW.out.below hb2 HGB.out.1
      have FIN : Arr ((((w2.setCell ⟨w.heap.size, 0, none⟩ (.int .u64 (lim 0 r : Nat))).setCell ⟨w.heap.size, 1, none⟩ (.int .u64 (lim 1 r : Nat))).setCell ⟨w.heap.size, 2, none⟩ (.int .u64 (lim 2 r : Nat))).setCell ⟨w.heap.size, 3, none⟩ (.int .u64 (lim 3 r : Nat))) w.heap.size 24 [lim 0 r, lim 1 r, lim 2 r, lim 3 r] ∧
          PartsAt ((((w2.setCell ⟨w.heap.size, 0, none⟩ (.int .u64 (lim 0 r : Nat))).setCell ⟨w.heap.size, 1, none⟩ (.int .u64 (lim 1 r : Nat))).setCell ⟨w.heap.size, 2, none⟩ (.int .u64 (lim 2 r : Nat))).setCell ⟨w.heap.size, 3, none⟩ (.int .u64 (lim 3 r : Nat))) g l ∧
          Below w.heap.size w ((((w2.setCell ⟨w.heap.size, 0, none⟩ (.int .u64 (lim 0 r : Nat))).setCell ⟨w.heap.size, 1, none⟩ (.int .u64 (lim 1 r : Nat))).setCell ⟨w.heap.size, 2, none⟩ (.int .u64 (lim 2 r : Nat))).setCell ⟨w.heap.size, 3, none⟩ (.int .u64 (lim 3 r : Nat))) :=
        ⟨hI.put4 _ _ _ _, hP.below (below_put4 (Below.refl w.heap.size w2) (Nat.le_refl _) _ _ _ _) (HG0.out), below_put4 (HB.out.trans (hb2.mono HB.out.size)) (Nat.le_refl _) _ _ _ _⟩
      have FINH := Lib.hid FIN
      have h0 := HGB.out.2.1
      clear FIN hI hb2 HA HPW HB hP HL HC
      go_simp
      go_wp2_with fail
      go_roundw
      case rel => exact ⟨m + 1, r, by omega, by go_num, HR9.out, FINH.out.1, FINH.out.2.1, FINH.out.2.2⟩
      case measure => simp [intOf]; omega
    · have hll := HL0.out
      have hsm := HSM.out
      have hm' : m = L := by omega
      rw [List.take_of_length_le (by omega)] at hsm
      have hss := HS.out m (by omega)
      have hbs : Big s := by
        have := HS.out m hm
        rw [List.take_of_length_le (by omega), ← hsm] at this
        unfold Big; omega
      have HK : Hid (∀ v, Calls Try.prog 62 #[.agg #[.int .u64 (lim 0 s : Nat), .int .u64 (lim 1 s : Nat), .int .u64 (lim 2 s : Nat), .int .u64 (lim 3 s : Nat)]] v (RetV V v)) := fun v => by rw [HV.out, ← hsm]; exact paid_c hbs v
      obtain ⟨u0, u1, hu⟩ : ∃ u0 u1, V = .tuple #[u0, u1] := by rw [HV.out]; unfold paidV; split <;> exact ⟨_, _, rfl⟩
      obtain ⟨x0, x1, x2, x3⟩ := HA.out.cells4
      clear hll hsm hss hbs HA HPW HS HSM HP HV
      subst hu
      go_wp2_with fail
      (with_reducible refine (HK.out _).mono ?_)
      rintro e w2 ⟨rfl, hb2⟩
      have HB2 := Lib.hid (HB.out.trans (hb2.mono HB.out.size))
      clear x0 x1 x2 x3 HB hb2 HK
      go_wp2_with fail
      exact bodyPost_ret (v := .tuple #[u0, u1]) (by simp [results, Try.results34, go_sem]) rfl ⟨rfl, HB2.out⟩
theorem total_n (l : List (Nat × Nat)) (n g : Nat) (w : World) (h : PartsAt w g l) (hn : l.length = n) (hl : n ≤ 7) (hp : ∀ p ∈ l, p.1 < 18446744073709551616 ∧ p.2 < 18446744073709551616) :
    Calls Try.prog 34 #[.slice (some ⟨g, 0, none⟩) n n] w (RetV (paidV (sumP l)) w) := by
  subst hn; exact total_c l g w h hl hp
theorem parts_new (w : World) (T : TypeId) (l : List (Nat × Nat)) (cs : Array Value) (h : cs.toList = l.flatMap fun p => [.int .u64 (p.1 : Nat), .int .u64 (p.2 : Nat)]) : PartsAt (w.alloc (.cells cs T)) w.heap.size l := by
  refine ⟨by simp, fun i p hp j v hv => ?_⟩
  have key : ∀ (l : List (Nat × Nat)) (i : Nat) p, l[i]? = some p → ∀ j v, [Value.int IntKind.u64 (p.1 : Nat), Value.int IntKind.u64 (p.2 : Nat)][j]? = some v → (l.flatMap fun p => [Value.int .u64 (p.1 : Nat), Value.int .u64 (p.2 : Nat)])[i * 2 + j]? = some v := by
    intro l
    induction l with
    | nil => intro i p h; simp at h
    | cons q r ih =>
      intro i p h j v hv
      cases i with
      | zero =>
        simp at h; subst h
        match j, hv with
        | 0, hv => simpa using hv
        | 1, hv => simpa using hv
      | succ i =>
        simp at h
        have := ih i p h j v hv
        rw [List.flatMap_cons, List.getElem?_append_right (by simp; omega)]
        simpa [Nat.add_mul, Nat.add_right_comm] using this
  have hk := key l i p hp j v hv
  rw [← h] at hk
  have e : cs[i * 2 + j]? = some v := by rw [← Array.getElem?_toList]; exact hk
  have hg := heap_alloc_new w (.cells cs T)
  exact (cell_of_row _ _ (i * 2 + j) _ _ (0, 0) hg).trans e
end Go.Proofs.Ytiflfcdegpmhnaa
namespace Go.Proofs.Ytiflfcdegpmhnaa
open Go.RowKit

set_option maxRecDepth 100000 in
set_option maxHeartbeats 12800000 in
theorem pwords_c {a e : Nat} (ha : Big a) (he : e ≤ 6) (w : World) : Calls Try.prog 11 #[W a, .int .u64 (e : Nat)] w (RetV (wordsV a e) w) := by
  obtain ⟨V, hV⟩ : ∃ V, V = wordsV a e := ⟨_, rfl⟩
  rw [← hV]
  have gA := Arr.new4 w 24 (lim 0 a) (lim 1 a) (lim 2 a) (lim 3 a)
  have HB := Lib.hid ((Below.refl w.heap.size w).alloc (Nat.le_refl _) (.cells #[.int .u64 (lim 0 a : Nat), .int .u64 (lim 1 a : Nat), .int .u64 (lim 2 a : Nat), .int .u64 (lim 3 a : Nat)] 24))
  have KA0 : Hid (∀ v, Calls Try.prog 33 #[.agg #[.int .u64 (lim 0 a : Nat), .int .u64 (lim 1 a : Nat), .int .u64 (lim 2 a : Nat), .int .u64 (lim 3 a : Nat)]] v (RetV (fewV a) v)) := fun v => few_c ha v
  have HE := Lib.hid he
  unfold wordsV at hV
  clear ha he
  by_cases c : a ≤ 2199023255552
  · have KA : Hid (∀ v, Calls Try.prog 33 #[.agg #[.int .u64 (lim 0 a : Nat), .int .u64 (lim 1 a : Nat), .int .u64 (lim 2 a : Nat), .int .u64 (lim 3 a : Nat)]] v (RetV (.tuple #[.int .u64 (a : Nat), .bool true]) v)) := fun v => by have h := KA0.out v; simp only [fewV, if_pos c] at h; exact h
    rw [if_pos c] at hV
    obtain ⟨q, hq⟩ : ∃ q, q = (a + 31) / 32 := ⟨_, rfl⟩
    have KW : Hid (∀ v, Calls Try.prog 35 #[.int .u64 (a : Nat)] v fun e w' => e = .returned (.int .u64 (q : Nat)) ∧ w' = v) := fun v => by
      have h := wordsOf_c (a := a) (by omega) v
      rw [← hq] at h; exact h
    have hm : q * e ≤ q * 6 := Nat.mul_le_mul_left _ HE.out
    rw [← hq] at hV
    obtain ⟨z, hz⟩ : ∃ z, z = q * e := ⟨_, rfl⟩
    rw [← hz] at hV hm
    have hS : sumP [(q, e)] = z := by simp [sumP, hz]
    have KT : Hid (∀ v : World, Calls Try.prog 34 #[.slice (some ⟨v.heap.size, 0, none⟩) 1 1] (v.alloc (.cells #[.int .u64 (q : Nat), .int .u64 (e : Nat)] 67)) (RetV (.tuple #[.int .u64 (z : Nat), .bool true]) (v.alloc (.cells #[.int .u64 (q : Nat), .int .u64 (e : Nat)] 67)))) := fun v => by
      have h := total_n [(q, e)] 1 _ _ (parts_new v 67 [(q, e)] #[.int .u64 (q : Nat), .int .u64 (e : Nat)] rfl) rfl (by omega) (by have hE := HE.out; intro p hp; simp only [List.mem_cons, List.not_mem_nil, or_false] at hp; subst hp; exact ⟨by simp only; omega, by simp only; omega⟩)
      rw [hS, paidV, if_pos (by omega)] at h
      exact h
    clear hq hm hz hS
    have HV := Lib.hid hV
    clear hV c KA0 HE
    go_enter Try.func11, Try.ntmps11
    go_upto_region 1 with (fail)
    generalize (w.alloc (.cells #[.int .u64 (lim 0 a : Nat), .int .u64 (lim 1 a : Nat), .int .u64 (lim 2 a : Nat), .int .u64 (lim 3 a : Nat)] 24)) = X at *
    obtain ⟨x0, x1, x2, x3⟩ := gA.cells4
    clear gA
    go_wp2_with fail
    (with_reducible refine (KA.out _).mono ?_)
    rintro e1 w1 ⟨rfl, hb1⟩
    have HB1 := Lib.hid (HB.out.trans (hb1.mono HB.out.size))
    clear x0 x1 x2 x3 HB hb1 KA
    go_wp2_with fail
    (with_reducible refine (KW.out _).mono ?_)
    rintro e2 w2 ⟨rfl, rfl⟩
    clear KW
    have C := Lib.hid (KT.out w2)
    have HB2 := Lib.hid (HB1.out.alloc HB1.out.size (.cells #[.int .u64 (q : Nat), .int .u64 (e : Nat)] 67))
    clear KT HB1
    go_wp2_with fail
    (with_reducible refine C.out.mono ?_)
    rintro e3 w3 ⟨rfl, hb3⟩
    have HB3 := Lib.hid (HB2.out.trans (hb3.mono HB2.out.size))
    clear C HB2 hb3
    go_wp2_with fail
    exact bodyPost_ret (v := .tuple #[.int .u64 (z : Nat), .bool true]) (by simp [results, Try.results11, go_sem]) rfl ⟨by rw [HV.out], HB3.out⟩
  · have KA : Hid (∀ v, Calls Try.prog 33 #[.agg #[.int .u64 (lim 0 a : Nat), .int .u64 (lim 1 a : Nat), .int .u64 (lim 2 a : Nat), .int .u64 (lim 3 a : Nat)]] v (RetV (.tuple #[.int .u64 0, .bool false]) v)) := fun v => by have h := KA0.out v; simp only [fewV, if_neg c] at h; exact h
    rw [if_neg c] at hV
    have HV := Lib.hid hV
    clear hV c KA0 HE
    go_enter Try.func11, Try.ntmps11
    go_upto_region 1 with (fail)
    generalize (w.alloc (.cells #[.int .u64 (lim 0 a : Nat), .int .u64 (lim 1 a : Nat), .int .u64 (lim 2 a : Nat), .int .u64 (lim 3 a : Nat)] 24)) = X at *
    obtain ⟨x0, x1, x2, x3⟩ := gA.cells4
    clear gA
    go_wp2_with fail
    (with_reducible refine (KA.out _).mono ?_)
    rintro e1 w1 ⟨rfl, hb1⟩
    have HB1 := Lib.hid (HB.out.trans (hb1.mono HB.out.size))
    clear x0 x1 x2 x3 HB hb1 KA
    go_wp2_with fail
    exact bodyPost_ret (v := .tuple #[.int .u64 0, .bool false]) (by simp [results, Try.results11, go_sem]) rfl ⟨by rw [HV.out], HB1.out⟩

set_option maxRecDepth 100000 in
set_option maxHeartbeats 12800000 in
theorem plog_c {a t : Nat} (ha : Big a) (ht : t ≤ 4) (w : World) : Calls Try.prog 13 #[.int .i64 (t : Nat), W a] w (RetV (logV t a) w) := by
  obtain ⟨V, hV⟩ : ∃ V, V = logV t a := ⟨_, rfl⟩
  rw [← hV]
  have gA := Arr.new4 w 24 (lim 0 a) (lim 1 a) (lim 2 a) (lim 3 a)
  have HB := Lib.hid ((Below.refl w.heap.size w).alloc (Nat.le_refl _) (.cells #[.int .u64 (lim 0 a : Nat), .int .u64 (lim 1 a : Nat), .int .u64 (lim 2 a : Nat), .int .u64 (lim 3 a : Nat)] 24))
  have KA0 : Hid (∀ v, Calls Try.prog 33 #[.agg #[.int .u64 (lim 0 a : Nat), .int .u64 (lim 1 a : Nat), .int .u64 (lim 2 a : Nat), .int .u64 (lim 3 a : Nat)]] v (RetV (fewV a) v)) := fun v => few_c ha v
  have HE := Lib.hid ht
  unfold logV at hV
  clear ha ht
  by_cases c : a ≤ 2199023255552
  · have KA : Hid (∀ v, Calls Try.prog 33 #[.agg #[.int .u64 (lim 0 a : Nat), .int .u64 (lim 1 a : Nat), .int .u64 (lim 2 a : Nat), .int .u64 (lim 3 a : Nat)]] v (RetV (.tuple #[.int .u64 (a : Nat), .bool true]) v)) := fun v => by have h := KA0.out v; simp only [fewV, if_pos c] at h; exact h
    rw [if_pos c] at hV
    obtain ⟨z, hz⟩ : ∃ z, z = 375 * t + 8 * a := ⟨_, rfl⟩
    rw [← hz] at hV
    have e1 : IntKind.u64.wrap (t : Int) = (t : Int) := by have := HE.out; rw [IntKind.wrap_u64]; omega
    have hS : sumP [(t, 375), (a, 8)] = z := by simp [sumP, hz]; omega
    have hz9 : z ≤ 9223372036854775807 := by have := HE.out; omega
    have KT : Hid (∀ v : World, Calls Try.prog 34 #[.slice (some ⟨v.heap.size, 0, none⟩) 2 2] (v.alloc (.cells #[.int .u64 (t : Nat), .int .u64 375, .int .u64 (a : Nat), .int .u64 8] 67)) (RetV (.tuple #[.int .u64 (z : Nat), .bool true]) (v.alloc (.cells #[.int .u64 (t : Nat), .int .u64 375, .int .u64 (a : Nat), .int .u64 8] 67)))) := fun v => by
      have h := total_n [(t, 375), (a, 8)] 2 _ _ (parts_new v 67 [(t, 375), (a, 8)] #[.int .u64 (t : Nat), .int .u64 375, .int .u64 (a : Nat), .int .u64 8] rfl) rfl (by omega) (by have hE := HE.out; intro p hp; simp only [List.mem_cons, List.not_mem_nil, or_false] at hp; rcases hp with rfl | rfl <;> exact ⟨by simp only; omega, by simp only; omega⟩)
      rw [hS, paidV, if_pos (by omega)] at h
      exact h
    clear hz hS hz9
    have HV := Lib.hid hV
    clear hV c KA0 HE
    go_enter Try.func13, Try.ntmps13
    go_upto_region 1 with (fail)
    generalize (w.alloc (.cells #[.int .u64 (lim 0 a : Nat), .int .u64 (lim 1 a : Nat), .int .u64 (lim 2 a : Nat), .int .u64 (lim 3 a : Nat)] 24)) = X at *
    obtain ⟨x0, x1, x2, x3⟩ := gA.cells4
    clear gA
    go_wp2_with fail
    (with_reducible refine (KA.out _).mono ?_)
    rintro e1 w1 ⟨rfl, hb1⟩
    have HB1 := Lib.hid (HB.out.trans (hb1.mono HB.out.size))
    clear x0 x1 x2 x3 HB hb1 KA
    have C := Lib.hid (KT.out w1)
    have HB2 := Lib.hid (HB1.out.alloc HB1.out.size (.cells #[.int .u64 (t : Nat), .int .u64 375, .int .u64 (a : Nat), .int .u64 8] 67))
    clear KT HB1
    go_wp2_with fail
    (with_reducible refine C.out.mono ?_)
    rintro e3 w3 ⟨rfl, hb3⟩
    have HB3 := Lib.hid (HB2.out.trans (hb3.mono HB2.out.size))
    clear C HB2 hb3
    go_wp2_with fail
    exact bodyPost_ret (v := .tuple #[.int .u64 (z : Nat), .bool true]) (by simp [results, Try.results13, go_sem]) rfl ⟨by rw [HV.out], HB3.out⟩
  · have KA : Hid (∀ v, Calls Try.prog 33 #[.agg #[.int .u64 (lim 0 a : Nat), .int .u64 (lim 1 a : Nat), .int .u64 (lim 2 a : Nat), .int .u64 (lim 3 a : Nat)]] v (RetV (.tuple #[.int .u64 0, .bool false]) v)) := fun v => by have h := KA0.out v; simp only [fewV, if_neg c] at h; exact h
    rw [if_neg c] at hV
    have HV := Lib.hid hV
    clear hV c KA0 HE
    go_enter Try.func13, Try.ntmps13
    go_upto_region 1 with (fail)
    generalize (w.alloc (.cells #[.int .u64 (lim 0 a : Nat), .int .u64 (lim 1 a : Nat), .int .u64 (lim 2 a : Nat), .int .u64 (lim 3 a : Nat)] 24)) = X at *
    obtain ⟨x0, x1, x2, x3⟩ := gA.cells4
    clear gA
    go_wp2_with fail
    (with_reducible refine (KA.out _).mono ?_)
    rintro e1 w1 ⟨rfl, hb1⟩
    have HB1 := Lib.hid (HB.out.trans (hb1.mono HB.out.size))
    clear x0 x1 x2 x3 HB hb1 KA
    go_wp2_with fail
    exact bodyPost_ret (v := .tuple #[.int .u64 0, .bool false]) (by simp [results, Try.results13, go_sem]) rfl ⟨by rw [HV.out], HB1.out⟩

theorem en_gcBits (args : Array Value) (w : World) : (callFunc 43 args).run Try.prog w = .ok (.enter 43 args) w := by go_simp
theorem short_len {a : Nat} (h : Big a) : (shortv a).length = (blen a + 7) / 8 := by
  have h1 := blen_big h
  unfold shortv
  rw [List.length_drop, bytes32_len]
  omega
set_option maxRecDepth 100000 in
set_option maxHeartbeats 12800000 in
theorem pexp_c (f : Int) (k : Nat → Int) {a : Nat} (ha : Big a) (w : World) : Calls Try.prog 17 #[.agg (RulesK f k), W a] w (RetV (.int .u64 (expZ (k 21) a)) w) := by
  have hl := short_len ha
  have h256 := blen_big ha
  obtain ⟨n, hn⟩ : ∃ n, n = (blen a + 7) / 8 := ⟨_, rfl⟩
  have hz : expZ (k 21) a = IntKind.u64.wrap (k 21 * (n : Nat)) := by unfold expZ; rw [hl, hn]
  rw [hz]
  obtain ⟨m, hm⟩ : ∃ m, m = blen a + 7 := ⟨_, rfl⟩
  have E1 : Hid (IntKind.i64.wrap (((blen a : Nat) : Int) + 7) = (m : Int)) := by show _ = _; rw [IntWalk.i64_in _ (by omega)]; omega
  have E2 : Hid (IntKind.i64.wrap (n : Int) = (n : Int) ∧ (m : Int).tdiv 8 = (n : Int) ∧ (m : Int) / 8 = (n : Int)) := by
    have e : (m : Int).tdiv 8 = (n : Int) := by rw [Int.tdiv_eq_ediv_of_nonneg (by omega)]; omega
    exact ⟨IntWalk.i64_in _ (by omega), e, by omega⟩
  have E3 : Hid (IntKind.u64.wrap (n : Int) = (n : Int)) := by show _ = _; rw [IntKind.wrap_u64]; omega
  obtain ⟨X, hX⟩ : ∃ X, X = ((w.alloc (.cells (RulesK f k) 26)).alloc (.cells #[.int .u64 (lim 0 a : Nat), .int .u64 (lim 1 a : Nat), .int .u64 (lim 2 a : Nat), .int .u64 (lim 3 a : Nat)] 24)) := ⟨_, rfl⟩
  have HR : Hid (RulesAt X w.heap.size f k) := by rw [hX]; exact (RulesAt.new w f k).alloc _
  have HA : Hid (Arr X (w.heap.size + 1) 24 [lim 0 a, lim 1 a, lim 2 a, lim 3 a]) := by
    rw [hX]; have h := Arr.new4 (w.alloc (.cells (RulesK f k) 26)) 24 (lim 0 a) (lim 1 a) (lim 2 a) (lim 3 a); rw [show (w.alloc (.cells (RulesK f k) 26)).heap.size = w.heap.size + 1 by simp] at h; exact h
  have HL : Hid (w.heap.size < X.heap.size ∧ w.heap.size + 1 < X.heap.size) := by rw [hX]; exact ⟨by simp; omega, by simp⟩
  have HB : Hid (Below w.heap.size w X) := by rw [hX]; exact ((Below.refl _ _).alloc (Nat.le_refl _) _).alloc (by simp) _
  have HBIG := Lib.hid ha
  have HX := Lib.hid hX
  clear hX ha hl h256 hn hz hm
  go_enter Try.func17, Try.ntmps17
  go_upto_region 1 with (fail)
  rw [show ((w.alloc (.cells (RulesK f k) 26)).alloc (.cells #[.int .u64 (lim 0 a : Nat), .int .u64 (lim 1 a : Nat), .int .u64 (lim 2 a : Nat), .int .u64 (lim 3 a : Nat)] 24)) = X from HX.out.symm]
  refine wp_region_see 9 [5, 6, 7, 8, 9, 10, 11, 12, 4] [(5, .is (.pointer (some ⟨w.heap.size, 21, none⟩))), (6, .is (.int .u64 (k 21))), (7, .is (W a)), (8, .is (.int .i64 (blen a : Nat))), (9, .is (.int .i64 (m : Nat))), (10, .is (.int .i64 (n : Nat))), (11, .is (.int .u64 (n : Nat))), (12, .is (.int .u64 (IntKind.u64.wrap (k 21 * (n : Nat))))), (4, .is (.int .u64 (IntKind.u64.wrap (k 21 * (n : Nat)))))] (by kernel_rfl) (by kernel_rfl) (by rfl) ?_ ?_
  · refine seeOps_cons ?_ (seeOps_cons ?_ (seeOps_cons ?_ (seeOps_cons ?_ (seeOps_cons ?_ (seeOps_cons ?_ (seeOps_cons ?_ (seeOps_cons ?_ (seeOps_cons ?_ seeOps_nil))))))))
    · intro w9 hb9 fr hout hin
      have h2 : fr.tmps.getD 2 undef = .pointer (some ⟨w.heap.size, 0, none⟩) := hout 2 (by decide)
      clear hout hin
      exact gs_faR (.tmp 2) rfl (by omega) h2 (wanted_none rfl) rfl
    · intro w9 hb9 fr hout hin
      have h5 : fr.tmps.getD 5 undef = .pointer (some ⟨w.heap.size, 21, none⟩) := hin 5 (by decide) (by decide)
      clear hout hin
      exact gs_load (.tmp 5) rfl gs_u64 h5 (HR.out.below hb9 HL.out.1).c21 (wanted_none rfl) rfl
    · intro w9 hb9 fr hout hin
      have h3 : fr.tmps.getD 3 undef = .pointer (some ⟨w.heap.size + 1, 0, none⟩) := hout 3 (by decide)
      clear hout hin
      exact gs_loadW (n := a) (.tmp 3) rfl h3 (HA.out.below hb9 HL.out.2).cells4 (wanted_none rfl) rfl
    · intro w9 hb9 fr hout hin
      have h7 : fr.tmps.getD 7 undef = W a := hin 7 (by decide) (by decide)
      clear hout hin
      exact gs_call1 (.tmp 7) rfl en_gcBits (wanted_none rfl) (by rw [show fr.eval (.tmp 7) = _ from h7]; exact (gcBits_c HBIG.out w9).mono fun _ _ h => RetV.gs h) (fun _ _ h => h)
    · intro w9 hb9 fr hout hin
      have h8 : fr.tmps.getD 8 undef = .int .i64 (blen a : Nat) := hin 8 (by decide) (by decide)
      clear hout hin
      exact gs_bin .add 3 (.tmp 8) (.const (.int .i64 7)) _ rfl h8 rfl (fun w => by go_simp) (fun w => by have := E1.out; go_simp) (wanted_none rfl) rfl
    · intro w9 hb9 fr hout hin
      have h9 : fr.tmps.getD 9 undef = .int .i64 (m : Nat) := hin 9 (by decide) (by decide)
      clear hout hin
      exact gs_bin .quo 3 (.tmp 9) (.const (.int .i64 8)) _ rfl h9 rfl (fun w => by go_simp) (fun w => by obtain ⟨a1, a2, a3⟩ := E2.out; go_simp) (wanted_none rfl) rfl
    · intro w9 hb9 fr hout hin
      have h10 : fr.tmps.getD 10 undef = .int .i64 (n : Nat) := hin 10 (by decide) (by decide)
      clear hout hin
      exact gs_conv (.tmp 10) rfl h10 (wanted_none rfl) (by rw [E3.out]; rfl)
    · intro w9 hb9 fr hout hin
      have h6 : fr.tmps.getD 6 undef = .int .u64 (k 21) := hin 6 (by decide) (by decide)
      have h11 : fr.tmps.getD 11 undef = .int .u64 (n : Nat) := hin 11 (by decide) (by decide)
      clear hout hin
      exact gs_bin .mul 22 (.tmp 6) (.tmp 11) _ rfl h6 h11 (fun w => by go_simp) (fun w => by go_simp) (wanted_none rfl) rfl
    · intro w9 hb9 fr hout hin
      have h12 : fr.tmps.getD 12 undef = .int .u64 (IntKind.u64.wrap (k 21 * (n : Nat))) := hin 12 (by decide) (by decide)
      clear hout hin
      exact relStep_assign (.tmp 12) rfl (wanted_none rfl) (by show fr.tmps.getD 12 undef = _; rw [h12])
  intro X9 hb9
  refine relAsk_in (by rfl) ?_
  intro v5 h5
  obtain rfl : v5 = .pointer (some ⟨w.heap.size, 21, none⟩) := h5
  refine relAsk_in (by rfl) ?_
  intro v6 h6
  obtain rfl : v6 = .int .u64 (k 21) := h6
  refine relAsk_in (by rfl) ?_
  intro v7 h7
  obtain rfl : v7 = W a := h7
  refine relAsk_in (by rfl) ?_
  intro v8 h8
  obtain rfl : v8 = .int .i64 (blen a : Nat) := h8
  refine relAsk_in (by rfl) ?_
  intro v9 h9
  obtain rfl : v9 = .int .i64 (m : Nat) := h9
  refine relAsk_in (by rfl) ?_
  intro v10 h10
  obtain rfl : v10 = .int .i64 (n : Nat) := h10
  refine relAsk_in (by rfl) ?_
  intro v11 h11
  obtain rfl : v11 = .int .u64 (n : Nat) := h11
  refine relAsk_in (by rfl) ?_
  intro v12 h12
  obtain rfl : v12 = .int .u64 (IntKind.u64.wrap (k 21 * (n : Nat))) := h12
  refine relAsk_in (by rfl) ?_
  intro v4 h4
  obtain rfl : v4 = .int .u64 (IntKind.u64.wrap (k 21 * (n : Nat))) := h4
  refine relAsk_nil ?_
  refine wpList_nil ?_
  go_simp
  go_wp2_with fail
  go_ret
  exact ⟨rfl, HB.out.trans (hb9.mono HB.out.size)⟩

end Go.Proofs.Ytiflfcdegpmhnaa
