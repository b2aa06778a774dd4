/- The law WordRing, by the contracts of its callees. -/
import Derived.Test.YtihffojljbgpcaaWakes
import Derived.Test.YtihffojljbgpcaaLaid
import Derived.Test.YtihffojljbgpcaaWordDiv2
import Derived.Test.YtihffojljbgpcaaNot
import Derived.Test.YtihffojljbgpcaaCmp
import Derived.Test.YtihffojljbgpcaaWide
import Derived.Test.YtihffojljbgpcaaWordMul
import Derived.Test.YtihffojljbgpcaaEqArr
import Derived.Deep.DeepCutAuto
namespace Go.Proofs.Ytihffojljbgpcaa
open Go.RowKit Go.Sort

abbrev W3 (a b c : Nat) : Value := .agg #[.int .u64 (lim 0 a : Nat), .int .u64 (lim 1 a : Nat), .int .u64 (lim 2 a : Nat), .int .u64 (lim 3 a : Nat), .int .u64 (lim 0 b : Nat), .int .u64 (lim 1 b : Nat), .int .u64 (lim 2 b : Nat), .int .u64 (lim 3 b : Nat), .int .u64 (lim 0 c : Nat), .int .u64 (lim 1 c : Nat), .int .u64 (lim 2 c : Nat), .int .u64 (lim 3 c : Nat)]
abbrev C4 (n : Nat) : Obj := .cells #[.int .u64 (lim 0 n : Nat), .int .u64 (lim 1 n : Nat), .int .u64 (lim 2 n : Nat), .int .u64 (lim 3 n : Nat)] 24

/-- The three words of a law's argument stand in memory. -/
def Three (w W : World) (ga gb gc a b c : Nat) : Prop := Cells W ga a ∧ Cells W gb b ∧ Cells W gc c ∧ w.heap.size ≤ W.heap.size ∧ Below w.heap.size w W
theorem Three.drew {w W : World} {ga gb gc a b c : Nat} (h : Three w W ga gb gc a b c) : Three w W.drew ga gb gc a b c := ⟨h.1, h.2.1, h.2.2.1, h.2.2.2.1, h.2.2.2.2.drew⟩
theorem Three.below {w W W1 : World} {ga gb gc a b c : Nat} (h : Three w W ga gb gc a b c) (hb : Below W.heap.size W W1) : Three w W1 ga gb gc a b c :=
  ⟨h.1.below hb, h.2.1.below hb, h.2.2.1.below hb, Nat.le_trans h.2.2.2.1 hb.size, h.2.2.2.2.trans (hb.mono h.2.2.2.1)⟩
theorem Three.alloc {w W : World} {ga gb gc a b c : Nat} (h : Three w W ga gb gc a b c) (o : Obj) : Three w (W.alloc o) ga gb gc a b c := h.below ((Below.refl _ _).alloc (Nat.le_refl _) o)
theorem Three.grown {w W : World} {ga gb gc a b c : Nat} (h : Three w W ga gb gc a b c) (d : Nat) (os : Array Obj) : Three w (grow (redrawn W d) os) ga gb gc a b c := h.below (below_regrown W d os)
theorem three_new (w : World) (S : Obj) (x y z : Nat) : Three w ((((w.alloc S).alloc (C4 x)).alloc (C4 y)).alloc (C4 z)).drew (w.heap.size + 1) (w.heap.size + 1 + 1) (w.heap.size + 1 + 1 + 1) x y z := by
  have h1 := Cells.new (w.alloc S) 24 x
  have h2 := Cells.new ((w.alloc S).alloc (C4 x)) 24 y
  have h3 := Cells.new (((w.alloc S).alloc (C4 x)).alloc (C4 y)) 24 z
  have e1 : (w.alloc S).heap.size = w.heap.size + 1 := by simp
  have e2 : ((w.alloc S).alloc (C4 x)).heap.size = w.heap.size + 1 + 1 := by simp
  have e3 : (((w.alloc S).alloc (C4 x)).alloc (C4 y)).heap.size = w.heap.size + 1 + 1 + 1 := by simp
  rw [e1] at h1
  rw [e2] at h2
  rw [e3] at h3
  exact ⟨(h1.alloc _).alloc _, h2.alloc _, h3, by simp [World.drew]; omega, (((((Below.refl _ _).alloc (Nat.le_refl _) _).alloc (by simp) _).alloc (by simp; omega) _).alloc (by simp; omega) _).drew⟩
theorem Three.p1 {w W : World} {f g h x y z : Nat} (t : Three w W f g h x y z) : Three w W f h g x z y := ⟨t.1, t.2.2.1, t.2.1, t.2.2.2⟩
theorem Three.p2 {w W : World} {f g h x y z : Nat} (t : Three w W f g h x y z) : Three w W g f h y x z := ⟨t.2.1, t.1, t.2.2.1, t.2.2.2⟩


set_option maxRecDepth 100000 in
set_option maxHeartbeats 20000000 in
theorem ring_c {a b c : Nat} (ha : Big a) (hb : Big b) (hc : Big c) (w : World) :
    Calls Try.prog 8 #[W3 a b c] w (RetV (.bool true) w) := by
  have iA := isW_lim ha
  have iB := isW_lim hb
  have iC := isW_lim hc
  obtain ⟨s1, S1⟩ : ∃ s, s = (a + b) % 115792089237316195423570985008687907853269984665640564039457584007913129639936 := ⟨_, rfl⟩
  obtain ⟨s3, S3⟩ : ∃ s, s = (b + c) % 115792089237316195423570985008687907853269984665640564039457584007913129639936 := ⟨_, rfl⟩
  obtain ⟨s2, S2⟩ : ∃ s, s = (a + b + c) % 115792089237316195423570985008687907853269984665640564039457584007913129639936 := ⟨_, rfl⟩
  obtain ⟨m1, M1⟩ : ∃ s, s = a * b % 115792089237316195423570985008687907853269984665640564039457584007913129639936 := ⟨_, rfl⟩
  obtain ⟨m2, M2⟩ : ∃ s, s = a * b * c % 115792089237316195423570985008687907853269984665640564039457584007913129639936 := ⟨_, rfl⟩
  obtain ⟨m3, M3⟩ : ∃ s, s = b * c % 115792089237316195423570985008687907853269984665640564039457584007913129639936 := ⟨_, rfl⟩
  obtain ⟨m4, M4⟩ : ∃ s, s = a * (b + c) % 115792089237316195423570985008687907853269984665640564039457584007913129639936 := ⟨_, rfl⟩
  obtain ⟨m5, M5⟩ : ∃ s, s = a * c % 115792089237316195423570985008687907853269984665640564039457584007913129639936 := ⟨_, rfl⟩
  have iS1 := isW_lim (show Big s1 by rw [S1]; exact big_mod _)
  have iS3 := isW_lim (show Big s3 by rw [S3]; exact big_mod _)
  have iM1 := isW_lim (show Big m1 by rw [M1]; exact big_mod _)
  have iM3 := isW_lim (show Big m3 by rw [M3]; exact big_mod _)
  have iM5 := isW_lim (show Big m5 by rw [M5]; exact big_mod _)
  obtain ⟨n1, N1⟩ : ∃ s, s = 115792089237316195423570985008687907853269984665640564039457584007913129639935 - a := ⟨_, rfl⟩
  obtain ⟨g1, G1⟩ : ∃ s, s = (n1 + 1) % 115792089237316195423570985008687907853269984665640564039457584007913129639936 := ⟨_, rfl⟩
  have ha' := ha
  unfold Big at ha'
  have hb' := hb
  unfold Big at hb'
  have iN1 := isW_lim (show Big n1 by unfold Big; omega)
  have i1 : IsW (lim 0 1) (lim 1 1) (lim 2 1) (lim 3 1) 1 := isW_lim (by unfold Big; omega)
  have i0 : IsW 0 0 0 0 0 := by unfold IsW; omega
  have e1 : (115792089237316195423570985008687907853269984665640564039457584007913129639936 + s1 - b) % 115792089237316195423570985008687907853269984665640564039457584007913129639936 = a := by rw [S1]; omega
  have e2 : (115792089237316195423570985008687907853269984665640564039457584007913129639936 + 0 - a) % 115792089237316195423570985008687907853269984665640564039457584007913129639936 = g1 := by rw [G1, N1]; omega
  have r1 : ∀ w, Calls Try.prog 40 #[W s1, W b] w (RetW a w) := fun w => by have h := sub_c iS1 iB w; rw [e1] at h; exact h
  have r2 : ∀ w, Calls Try.prog 62 #[W a] w (RetW n1 w) := fun w => by rw [N1]; exact not_c iA w
  have r3 : ∀ w, Calls Try.prog 29 #[.int .u64 1] w (RetW 1 w) := fun w => of_c 1 (by unfold Lim; omega) w
  have r4 : ∀ w, Calls Try.prog 38 #[W n1, W 1] w (RetW g1 w) := fun w => by rw [G1]; exact add_c iN1 i1 w
  have r5 : ∀ w, Calls Try.prog 40 #[.agg #[.int .u64 0, .int .u64 0, .int .u64 0, .int .u64 0], W a] w (RetW g1 w) := fun w => by have h := sub_c i0 iA w; rw [e2] at h; exact h
  have t1 : ∀ w, Calls Try.prog 36 #[W a, W b] w (fun e w' => ∃ h : Nat, e = .returned (.tuple #[W h, W m1]) ∧ Below w.heap.size w w') := fun w => (wide_c iA iB w).mono fun e w' hh => by
    obtain ⟨h0, h1, h2, h3, l0, l1, l2, l3, rfl, hh, hl, hbb⟩ := hh
    rw [← M1] at hl
    obtain ⟨rfl, rfl, rfl, rfl⟩ := hh.canon
    obtain ⟨rfl, rfl, rfl, rfl⟩ := hl.canon
    exact ⟨_, rfl, hbb⟩
  clear N1 G1 e1 e2 ha' hb' iN1 i0
  have f1 : (b + a) % 115792089237316195423570985008687907853269984665640564039457584007913129639936 = s1 := by rw [S1, Nat.add_comm]
  have f2 : (s1 + c) % 115792089237316195423570985008687907853269984665640564039457584007913129639936 = s2 := by rw [S1, S2, Nat.mod_add_mod]
  have f3 : (a + s3) % 115792089237316195423570985008687907853269984665640564039457584007913129639936 = s2 := by rw [S3, S2, Nat.add_mod_mod, Nat.add_assoc]
  have f4 : b * a % 115792089237316195423570985008687907853269984665640564039457584007913129639936 = m1 := by rw [M1, Nat.mul_comm]
  have f5 : m1 * c % 115792089237316195423570985008687907853269984665640564039457584007913129639936 = m2 := by rw [M1, M2, Nat.mod_mul_mod]
  have f6 : a * m3 % 115792089237316195423570985008687907853269984665640564039457584007913129639936 = m2 := by rw [M3, M2, Nat.mul_mod_mod, Nat.mul_assoc]
  have f7 : a * s3 % 115792089237316195423570985008687907853269984665640564039457584007913129639936 = m4 := by rw [S3, M4, Nat.mul_mod_mod]
  have f8 : (m1 + m5) % 115792089237316195423570985008687907853269984665640564039457584007913129639936 = m4 := by rw [M1, M5, M4, ← Nat.add_mod, Nat.mul_add]
  have HH : Hid (s1 = (a + b) % 115792089237316195423570985008687907853269984665640564039457584007913129639936 ∧ m1 = a * b % 115792089237316195423570985008687907853269984665640564039457584007913129639936) := ⟨S1, M1⟩
  have k1 : ∀ w, Calls Try.prog 38 #[W a, W b] w (RetW s1 w) := fun w => by rw [S1]; exact add_c iA iB w
  have k2 : ∀ w, Calls Try.prog 38 #[W b, W a] w (RetW s1 w) := fun w => by rw [← f1]; exact add_c iB iA w
  have k3 : ∀ w, Calls Try.prog 38 #[W s1, W c] w (RetW s2 w) := fun w => by rw [← f2]; exact add_c iS1 iC w
  have k4 : ∀ w, Calls Try.prog 38 #[W b, W c] w (RetW s3 w) := fun w => by rw [S3]; exact add_c iB iC w
  have k5 : ∀ w, Calls Try.prog 38 #[W a, W s3] w (RetW s2 w) := fun w => by rw [← f3]; exact add_c iA iS3 w
  have l1 : ∀ w, Calls Try.prog 42 #[W a, W b] w (RetW m1 w) := fun w => by rw [M1]; exact mul_c iA iB w
  have l2 : ∀ w, Calls Try.prog 42 #[W b, W a] w (RetW m1 w) := fun w => by rw [← f4]; exact mul_c iB iA w
  have l3 : ∀ w, Calls Try.prog 42 #[W m1, W c] w (RetW m2 w) := fun w => by rw [← f5]; exact mul_c iM1 iC w
  have l4 : ∀ w, Calls Try.prog 42 #[W b, W c] w (RetW m3 w) := fun w => by rw [M3]; exact mul_c iB iC w
  have l5 : ∀ w, Calls Try.prog 42 #[W a, W m3] w (RetW m2 w) := fun w => by rw [← f6]; exact mul_c iA iM3 w
  have l6 : ∀ w, Calls Try.prog 42 #[W a, W s3] w (RetW m4 w) := fun w => by rw [← f7]; exact mul_c iA iS3 w
  have l7 : ∀ w, Calls Try.prog 42 #[W a, W c] w (RetW m5 w) := fun w => by rw [M5]; exact mul_c iA iC w
  have l8 : ∀ w, Calls Try.prog 38 #[W m1, W m5] w (RetW m4 w) := fun w => by rw [← f8]; exact add_c iM1 iM5 w
  clear S1 S2 S3 M1 M2 M3 M4 M5 f1 f2 f3 f4 f5 f6 f7 f8 iS3 iM3 iM5
  go_enter Try.func8, Try.ntmps8
  go_upto_region 1 with (fail)
  go_cut [3, 4, 5] (fun v3 v4 v5 wx => ∃ ga gb gc : Nat, v3 = .pointer (some ⟨ga, 0, none⟩) ∧ v4 = .pointer (some ⟨gb, 0, none⟩) ∧ v5 = .pointer (some ⟨gc, 0, none⟩) ∧ Three w wx ga gb gc a b c)
  case first =>
    go_region
    all_goals
      go_wp2_with fail
      go_meet
      first
        | (with_reducible exact ⟨_, _, _, rfl, rfl, rfl, three_new w _ _ _ _⟩)
        | (with_reducible exact ⟨_, _, _, rfl, rfl, rfl, (three_new w _ _ _ _).p1⟩)
        | (with_reducible exact ⟨_, _, _, rfl, rfl, rfl, (three_new w _ _ _ _).p2⟩)
        | (with_reducible exact ⟨_, _, _, rfl, rfl, rfl, (three_new w _ _ _ _).p1.p2⟩)
        | (with_reducible exact ⟨_, _, _, rfl, rfl, rfl, (three_new w _ _ _ _).p2.p1⟩)
        | (with_reducible exact ⟨_, _, _, rfl, rfl, rfl, (three_new w _ _ _ _).p1.p2.p1⟩)
  case rest =>
    obtain ⟨ga, gb, gc, rfl, rfl, rfl, H3⟩ := hcut
    have ca := fun d os => (H3.grown d os).1
    have cb := fun d os => (H3.grown d os).2.1
    have cc := fun d os => (H3.grown d os).2.2.1
    simp only [Cells] at ca cb cc
    have q1 : ∀ w, (Op.equalIn 10000 24 (W s1) (W s1)).run Try.prog w = .ok true w := eqIn_same _ _ _ _
    have q2 : ∀ w, (Op.equalIn 10000 24 (W s2) (W s2)).run Try.prog w = .ok true w := eqIn_same _ _ _ _
    have q3 : ∀ w, (Op.equalIn 10000 24 (W m1) (W m1)).run Try.prog w = .ok true w := eqIn_same _ _ _ _
    have q4 : ∀ w, (Op.equalIn 10000 24 (W m2) (W m2)).run Try.prog w = .ok true w := eqIn_same _ _ _ _
    have q6 : ∀ w, (Op.equalIn 10000 24 (W a) (W a)).run Try.prog w = .ok true w := eqIn_same _ _ _ _
    have q7 : ∀ w, (Op.equalIn 10000 24 (W g1) (W g1)).run Try.prog w = .ok true w := eqIn_same _ _ _ _
    have q5 : ∀ w, (Op.equalIn 10000 24 (W m4) (W m4)).run Try.prog w = .ok true w := eqIn_same _ _ _ _
    go_upto_region 2 with (fail)
    refine wp_region_quiet_below (by kernel_rfl) (by kernel_rfl) ?_
    repeat (quiet_step (first | (with_reducible exact Calls.quietW (k1 _)) | (with_reducible exact Calls.quietW (k2 _)) | (with_reducible exact Calls.quietW (k3 _)) | (with_reducible exact Calls.quietW (k4 _)) | (with_reducible exact Calls.quietW (k5 _)) | (with_reducible exact Calls.quietW (l1 _)) | (with_reducible exact Calls.quietW (l2 _)) | (with_reducible exact Calls.quietW (l3 _)) | (with_reducible exact Calls.quietW (l4 _)) | (with_reducible exact Calls.quietW (l5 _)) | (with_reducible exact Calls.quietW (l6 _)) | (with_reducible exact Calls.quietW (l7 _)) | (with_reducible exact Calls.quietW (l8 _))))
    refine wpQuiet_nil ?_
    intro _ hw'
    obtain ⟨⟨dq, osq⟩, hw''⟩ := hw'
    subst hw''
    have H4 := H3.grown dq osq
    clear H3 ca cb cc q1 q2 q4 q5 k1 k2 k3 k4 k5 l2 l3 l4 l5 l6 l7 l8
    go_upto_region 4 with (fail)
    generalize grow (redrawn wc dq) osq = wd at *
    have ca := fun d os => (H4.grown d os).1
    have cb := fun d os => (H4.grown d os).2.1
    simp only [Cells] at ca cb
    have k1 : ∀ w, Calls Try.prog 38 #[W a, W b] w (RetW s1 w) := fun w => by rw [HH.out.1]; exact add_c iA iB w
    refine wp_region_quiet_below (by kernel_rfl) (by kernel_rfl) ?_
    repeat (quiet_step (first | (with_reducible exact Calls.quietW (k1 _)) | (with_reducible exact Calls.quietW (r1 _)) | (with_reducible exact Calls.quietW (r2 _)) | (with_reducible exact Calls.quietW (r3 _)) | (with_reducible exact Calls.quietW (r4 _)) | (with_reducible exact Calls.quietW (r5 _))))
    refine wpQuiet_nil ?_
    intro _ hw'
    obtain ⟨⟨dr, osr⟩, hw''⟩ := hw'
    subst hw''
    have H5 := H4.grown dr osr
    clear H4 ca cb q6 q7 k1 r1 r2 r3 r4 r5
    go_upto_region 6 with (fail)
    generalize grow (redrawn wd dr) osr = we at *
    obtain ⟨xa, xb, xc, xd⟩ := H5.1
    obtain ⟨ya, yb, yc, yd⟩ := H5.2.1
    go_wp2_with fail
    refine (t1 _).mono ?_
    rintro e wf ⟨h, rfl, hbf⟩
    have H6 := H5.below hbf
    clear xa xb xc xd ya yb yc yd H5 hbf
    go_upto_region 7 with (fail)
    have H7 := (H6.alloc (C4 h)).alloc (C4 m1)
    have hM := Cells.new (wf.alloc (C4 h)) 24 m1
    rw [show (wf.alloc (C4 h)).heap.size = wf.heap.size + 1 from by simp] at hM
    simp only [C4] at H7 hM
    generalize (wf.alloc (.cells #[.int .u64 (lim 0 h : Nat), .int .u64 (lim 1 h : Nat), .int .u64 (lim 2 h : Nat), .int .u64 (lim 3 h : Nat)] 24)).alloc (.cells #[.int .u64 (lim 0 m1 : Nat), .int .u64 (lim 1 m1 : Nat), .int .u64 (lim 2 m1 : Nat), .int .u64 (lim 3 m1 : Nat)] 24) = wg at *
    have ca := fun d os => (H7.grown d os).1
    have cb := fun d os => (H7.grown d os).2.1
    have cm := fun d os => hM.grown d os
    simp only [Cells] at ca cb cm
    refine wp_region_quiet_below (by kernel_rfl) (by kernel_rfl) ?_
    repeat (quiet_step (first | (with_reducible exact Calls.quietW (l1 _))))
    refine wpQuiet_nil ?_
    intro _ hw'
    obtain ⟨⟨dt, ost⟩, hw''⟩ := hw'
    subst hw''
    have H8 := H7.grown dt ost
    clear H7 H6 hM ca cb cm q3 l1 t1
    have qa : ∀ w, (Op.equalIn 10000 24 (W a) (W a)).run Try.prog w = .ok true w := eqIn_same _ _ _ _
    have qb : ∀ w, (Op.equalIn 10000 24 (W b) (W b)).run Try.prog w = .ok true w := eqIn_same _ _ _ _
    have kW : ∀ w, Calls Try.prog 35 #[] w (RetV (.bool true) w) := fun w => wakes_c w
    go_upto_region 9 with (fail)
    generalize grow (redrawn wg dt) ost = wh at *
    have ca := fun d os => (H8.grown d os).1
    have cb := fun d os => (H8.grown d os).2.1
    simp only [Cells] at ca cb
    obtain ⟨ya, yb, yc, yd⟩ := H8.2.1
    by_cases hb0 : b = 0
    · have z9 : ∀ w, (Op.equalIn 10000 24 (W b) (.agg #[.int .u64 0, .int .u64 0, .int .u64 0, .int .u64 0])).run Try.prog w = .ok true w := fun w => by
        have h := eqIn (lim 0 b) (lim 1 b) (lim 2 b) (lim 3 b) 0 0 0 0 w
        rw [show decide (lim 0 b = 0 ∧ lim 1 b = 0 ∧ lim 2 b = 0 ∧ lim 3 b = 0) = true by rw [hb0]; simp [lim]] at h
        exact h
      have k1 : ∀ w, Calls Try.prog 44 #[W a, W b] w (RetW b w) := fun w => by
        have h := div_c iA iB w
        rw [show a / b = b by rw [hb0]; simp] at h
        exact h
      have k2 : ∀ w, Calls Try.prog 46 #[W a, W b] w (RetW b w) := fun w => by
        have h := mod_c iA iB w
        rw [show (if b = 0 then 0 else a % b) = b by rw [if_pos hb0, hb0]] at h
        exact h
      clear hb0
      go_upto_region 10 with (fail)
      refine wp_region_quiet_below (by kernel_rfl) (by kernel_rfl) ?_
      repeat (quiet_step (first | (with_reducible exact Calls.quietW (k1 _)) | (with_reducible exact Calls.quietW (k2 _)) | (with_reducible exact Calls.quietV (kW _))))
      refine wpQuiet_nil ?_
      intro _ hw'
      obtain ⟨⟨du, osu⟩, hw''⟩ := hw'
      subst hw''
      go_wp2_with fail
      go_ret
      exact ⟨rfl, (H8.grown du osu).2.2.2.2⟩
    · have z9 : ∀ w, (Op.equalIn 10000 24 (W b) (.agg #[.int .u64 0, .int .u64 0, .int .u64 0, .int .u64 0])).run Try.prog w = .ok false w := fun w => by
        have h := eqIn (lim 0 b) (lim 1 b) (lim 2 b) (lim 3 b) 0 0 0 0 w
        rw [show decide (lim 0 b = 0 ∧ lim 1 b = 0 ∧ lim 2 b = 0 ∧ lim 3 b = 0) = false by
          refine decide_eq_false fun ⟨h0, h1, h2, h3⟩ => hb0 ?_
          have := iB.2.2.2.2
          rw [h0, h1, h2, h3] at this
          simpa using this] at h
        exact h
      obtain ⟨q, hq⟩ : ∃ q, q = a / b := ⟨_, rfl⟩
      obtain ⟨r, hr⟩ : ∃ r, r = a % b := ⟨_, rfl⟩
      obtain ⟨z, hz⟩ : ∃ z, z = q * b % 115792089237316195423570985008687907853269984665640564039457584007913129639936 := ⟨_, rfl⟩
      have hbp : 0 < b := by omega
      have haq : q * b + r = a := by rw [hq, hr, Nat.mul_comm]; exact Nat.div_add_mod a b
      have hrb : r < b := by rw [hr]; exact Nat.mod_lt a hbp
      have hbq : Big q := by rw [hq]; exact Nat.lt_of_le_of_lt (Nat.div_le_self _ _) ha
      have hbr : Big r := by unfold Big at *; omega
      have hzz : z = q * b := by rw [hz]; refine Nat.mod_eq_of_lt ?_; unfold Big at ha; omega
      have hbz : Big z := by rw [hz]; exact big_mod _
      have haz : (z + r) % 115792089237316195423570985008687907853269984665640564039457584007913129639936 = a := by rw [hzz, haq]; exact Nat.mod_eq_of_lt ha
      have iQ := isW_lim hbq
      have iR := isW_lim hbr
      have iZ := isW_lim hbz
      have k1 : ∀ w, Calls Try.prog 44 #[W a, W b] w (RetW q w) := fun w => by rw [hq]; exact div_c iA iB w
      have k2 : ∀ w, Calls Try.prog 46 #[W a, W b] w (RetW r w) := fun w => by
        have h := mod_c iA iB w
        rw [if_neg hb0, ← hr] at h
        exact h
      have k3 : ∀ w, Calls Try.prog 42 #[W q, W b] w (RetW z w) := fun w => by rw [hz]; exact mul_c iQ iB w
      have k4 : ∀ w, Calls Try.prog 38 #[W z, W r] w (RetW a w) := fun w => by have h := add_c iZ iR w; rw [haz] at h; exact h
      have k5 : ∀ w, Calls Try.prog 31 #[W r, W b] w (RetV (.int .i64 (-1)) w) := fun w => by have h := cmp_c iR iB w; rw [show cmpv r b = -1 from if_pos hrb] at h; exact h
      clear hb0 hq hr hz hbp haq hrb hbq hbr hzz hbz haz iQ iR iZ
      go_upto_region 11 with (fail)
      refine wp_region_quiet_below (by kernel_rfl) (by kernel_rfl) ?_
      repeat (quiet_step (first | (with_reducible exact Calls.quietW (k1 _)) | (with_reducible exact Calls.quietW (k2 _)) | (with_reducible exact Calls.quietW (k3 _)) | (with_reducible exact Calls.quietW (k4 _)) | (with_reducible exact Calls.quietV (k5 _)) | (with_reducible exact Calls.quietV (kW _))))
      refine wpQuiet_nil ?_
      intro _ hw'
      obtain ⟨⟨du, osu⟩, hw''⟩ := hw'
      subst hw''
      go_wp2_with fail
      go_ret
      exact ⟨rfl, (H8.grown du osu).2.2.2.2⟩
end Go.Proofs.Ytihffojljbgpcaa
