/- The contracts of bytes.Compare and of package nat's Cmp and Sub. -/
import Derived.Test.YtakojlgoelbjmaaNStrip
import Derived.Test.YtakojlgoelbjmaaNAdd
import Derived.Lib.Bytealg
import Derived.Lib.BytesEntry
namespace Go.Proofs.Ytakojlgoelbjmaa
open Go.RowKit

/-- Two rows of bytes of one length, compared from the front, are compared as numbers, the highest byte first. -/
theorem compare_ord : ∀ (xs ys : List Nat), Ds 256 xs → Ds 256 ys → xs.length = ys.length → Lib.compareBytes (Lib.bytesOf (xs.map fun n : Nat => (n : Int))) (Lib.bytesOf (ys.map fun n : Nat => (n : Int))) = ordI (dv 256 xs.reverse) (dv 256 ys.reverse)
  | [], [], _, _, _ => by simp [Lib.bytesOf, Lib.compareBytes, ordI, dv]
  | x :: xs, y :: ys, hx, hy, hl => by
    have ih := compare_ord xs ys hx.cons.2 hy.cons.2 (by simpa using hl)
    have bx := hx.cons.1
    have by_ := hy.cons.1
    have lx := dv_lt xs.reverse hx.cons.2.reverse
    have ly := dv_lt ys.reverse hy.cons.2.reverse
    have hl' : xs.length = ys.length := by simpa using hl
    rw [List.length_reverse] at lx ly
    rw [← hl'] at ly
    have ex : dv 256 (x :: xs).reverse = dv 256 xs.reverse + 256 ^ xs.length * x := by rw [List.reverse_cons, dv_append, List.length_reverse]; simp [dv]
    have ey : dv 256 (y :: ys).reverse = dv 256 ys.reverse + 256 ^ xs.length * y := by rw [List.reverse_cons, dv_append, List.length_reverse, ← hl']; simp [dv]
    rw [ex, ey]
    show (if x.toUInt8 < y.toUInt8 then -1 else if y.toUInt8 < x.toUInt8 then 1 else _) = _
    have c1 : (x.toUInt8 < y.toUInt8) ↔ x < y := by rw [UInt8.lt_iff_toNat_lt]; simp; omega
    have c2 : (y.toUInt8 < x.toUInt8) ↔ y < x := by rw [UInt8.lt_iff_toNat_lt]; simp; omega
    simp only [c1, c2]
    generalize 256 ^ xs.length = P at *
    unfold ordI
    rcases Nat.lt_trichotomy x y with h | h | h
    · have : P * (x + 1) ≤ P * y := Nat.mul_le_mul_left _ h
      rw [Nat.mul_add] at this
      rw [if_pos h, if_pos (by omega)]
    · subst h
      rw [if_neg (by omega), if_neg (by omega)]
      refine Eq.trans ih ?_
      unfold ordI
      rcases Nat.lt_trichotomy (dv 256 xs.reverse) (dv 256 ys.reverse) with h | h | h
      · rw [if_pos h, if_pos (by omega)]
      · rw [if_neg (by omega), if_neg (by omega), if_neg (by omega), if_neg (by omega)]
      · rw [if_neg (by omega), if_pos h, if_neg (by omega), if_pos (by omega)]
    · have : P * (y + 1) ≤ P * x := Nat.mul_le_mul_left _ h
      rw [Nat.mul_add] at this
      rw [if_neg (by omega), if_pos h, if_neg (by omega), if_pos (by omega)]

theorem run_bytesOfRd {w : World} {A : Option Addr} {c : Nat} {xs : List Nat} (h : Rd .u8 w A c xs) : (Extern.Bytes.bytesOf (.slice A xs.length c)).run Try.prog w = .ok ⟨(Lib.bytesOf (xs.map fun n : Nat => (n : Int))).toArray⟩ w := by
  rcases Nat.eq_zero_or_pos xs.length with h0 | h0
  · have hb : xs = [] := List.eq_nil_of_length_eq_zero h0
    subst hb
    rcases A with _ | ad
    · simp [Extern.Bytes.bytesOf, Lib.bytesOf]; rfl
    · simp [Extern.Bytes.bytesOf, Extern.Bytes.loadBytes, Lib.bytesOf]; rfl
  · obtain ⟨b, o, rfl, _, hc⟩ := h.at_ h0
    have hl := Lib.run_loadBytesX (P := Try.prog) w (xs.map fun n : Nat => (n : Int)) ⟨b, o, none⟩ .empty (fun j x hj => by
      rw [List.getElem?_map] at hj
      obtain ⟨u, hu, rfl⟩ := Option.map_eq_some_iff.1 hj
      have hjl : j < xs.length := (List.getElem?_eq_some_iff.1 hu).1
      have e : (⟨b, o, none⟩ : Addr).add j = ⟨b, o + j, none⟩ := by unfold Addr.add; split <;> simp_all
      rw [e, hc j hjl, List.getD_eq_getElem?_getD, hu]
      rfl)
    rw [List.length_map] at hl
    simp only [Extern.Bytes.bytesOf]
    rw [hl]
    congr 1
    apply ByteArray.ext
    show (#[] : Array UInt8) ++ (Lib.bytesOf (xs.map fun n : Nat => (n : Int))).toArray = (Lib.bytesOf (xs.map fun n : Nat => (n : Int))).toArray
    simp

theorem run_compareRd {w : World} {A B : Option Addr} {c d : Nat} {xs ys : List Nat} (h : Rd .u8 w A c xs) (k : Rd .u8 w B d ys) (hx : Ds 256 xs) (hy : Ds 256 ys) (hl : xs.length = ys.length) :
    (Extern.BytealgCompare.compare #[.slice A xs.length c, .slice B ys.length d]).run Try.prog w = .ok (.int .i64 (ordI (dv 256 xs.reverse) (dv 256 ys.reverse))) w := by
  have e := Lib.run_compareString (P := Try.prog) ⟨(Lib.bytesOf (xs.map fun n : Nat => (n : Int))).toArray⟩ ⟨(Lib.bytesOf (ys.map fun n : Nat => (n : Int))).toArray⟩ w
  have e2 : Lib.compareBytes (⟨(Lib.bytesOf (xs.map fun n : Nat => (n : Int))).toArray⟩ : ByteArray).data.toList (⟨(Lib.bytesOf (ys.map fun n : Nat => (n : Int))).toArray⟩ : ByteArray).data.toList = ordI (dv 256 xs.reverse) (dv 256 ys.reverse) := by
    simpa using compare_ord xs ys hx hy hl
  rw [e2] at e
  rw [← e]
  change Sem.run Try.prog (do
    let a ← Extern.Bytes.bytesOf (.slice A xs.length c)
    let b ← Extern.Bytes.bytesOf (.slice B ys.length d)
    pure (goInt (Extern.BytealgCompare.cmp a b))) w = Sem.run Try.prog (do
    let a ← Extern.Bytes.bytesOf (.string ⟨(Lib.bytesOf (xs.map fun n : Nat => (n : Int))).toArray⟩)
    let b ← Extern.Bytes.bytesOf (.string ⟨(Lib.bytesOf (ys.map fun n : Nat => (n : Int))).toArray⟩)
    pure (goInt (Extern.BytealgCompare.cmp a b))) w
  rw [Sem.run_bind, run_bytesOfRd h]
  simp only [Result.andThen]
  rw [Sem.run_bind, run_bytesOfRd k]
  rfl

set_option maxRecDepth 100000 in
theorem bcompare_c {A B : Option Addr} {c d : Nat} {xs ys : List Nat} (w : World) (h : Rd .u8 w A c xs) (k : Rd .u8 w B d ys) (hx : Ds 256 xs) (hy : Ds 256 ys) (hl : xs.length = ys.length) :
    Calls Try.prog 46 #[.slice A xs.length c, .slice B ys.length d] w fun e w' => e = .returned (.int .i64 (ordI (dv 256 xs.reverse) (dv 256 ys.reverse))) ∧ w' = w := by
  have hrun := Lib.hid (run_compareRd h k hx hy hl)
  generalize ordI (dv 256 xs.reverse) (dv 256 ys.reverse) = r at *
  generalize xs.length = X at *
  generalize ys.length = Y at *
  clear h k hx hy hl
  go_enter Try.func46, Try.ntmps46
  go_wp2_with fail
  rw [run_callFunc_extern Try.func70 (by kernel_rfl) (by kernel_rfl) (by kernel_rfl) (e := Extern.BytealgCompare.compare) (by kernel_rfl), hrun.out]
  simp only [Result.andThen]
  rw [Oper.upon_value]
  go_wp2_with fail
  go_ret
  exact ⟨rfl, rfl⟩

theorem sd_dv_len_lt {xs ys : List Nat} (hx : Ds 256 xs) (hy : Ds 256 ys) (h : (sd xs).length < (sd ys).length) : dv 256 xs.reverse < dv 256 ys.reverse :=
  can_short (by omega) (sd_can hx) (sd_can hy) (by rw [List.length_reverse, List.length_reverse]; exact h)

set_option maxRecDepth 100000 in
set_option maxHeartbeats 1600000 in
/-- Cmp: -1, 0, 1 by the order of the numbers. -/
theorem cmp_n {A B : Option Addr} {c d : Nat} {xs ys : List Nat} (w : World) (h : Rd .u8 w A c xs) (k : Rd .u8 w B d ys) (hx : Ds 256 xs) (hy : Ds 256 ys) (hl : xs.length ≤ 16777216) (hl' : ys.length ≤ 16777216) :
    Calls Try.prog 17 #[.slice A xs.length c, .slice B ys.length d] w fun e w' => e = .returned (.int .i64 (ordI (dv 256 xs.reverse) (dv 256 ys.reverse))) ∧ w' = w := by
  have C1 := Lib.hid (strip_c w h hx hl)
  have C2 := Lib.hid (strip_c w k hy hl')
  obtain ⟨X, hX⟩ : ∃ X, X = (sd xs).length := ⟨_, rfl⟩
  obtain ⟨Y, hY⟩ : ∃ Y, Y = (sd ys).length := ⟨_, rfl⟩
  have HX := Lib.hid hX
  have HY := Lib.hid hY
  have bX : X ≤ 16777216 := by have := sd_len xs; omega
  have bY : Y ≤ 16777216 := by have := sd_len ys; omega
  have hsx := Lib.hid (sd_dv xs)
  have hsy := Lib.hid (sd_dv ys)
  have LT1 := Lib.hid (sd_dv_len_lt hx hy)
  have LT2 := Lib.hid (sd_dv_len_lt hy hx)
  have DX := Lib.hid (sd_ds hx)
  have DY := Lib.hid (sd_ds hy)
  generalize xs.length = L at *
  generalize ys.length = M at *
  clear hX hY h k hx hy hl hl'
  rcases Nat.lt_trichotomy X Y with hc | hc | hc
  · have hr : ordI (dv 256 xs.reverse) (dv 256 ys.reverse) = -1 := by unfold ordI; rw [if_pos (LT1.out (by rw [← HX.out, ← HY.out]; exact hc))]
    rw [hr]
    have hne : ((X : Int) != (Y : Int)) = true := by simp; omega
    have hci : (X : Int) < (Y : Int) := by omega
    clear hr hc
    go_enter Try.func17, Try.ntmps17
    go_wp2_with fail
    (with_reducible refine C1.out.mono ?_)
    rintro e w1 ⟨A1, c1, rfl, hr1, hw1⟩
    rw [hw1, ← HX.out]
    clear hw1 C1 hr1
    go_wp2_with fail
    (with_reducible refine C2.out.mono ?_)
    rintro e w1 ⟨A2, c2, rfl, hr2, hw1⟩
    rw [hw1, ← HY.out]
    clear hw1 C2 hr2
    go_wp2_with fail
    go_ret
    exact ⟨rfl, rfl⟩
  · subst hc
    obtain ⟨r, er⟩ : ∃ r, r = ordI (dv 256 xs.reverse) (dv 256 ys.reverse) := ⟨_, rfl⟩
    rw [← er]
    have ER := Lib.hid er
    clear er
    go_enter Try.func17, Try.ntmps17
    go_wp2_with fail
    (with_reducible refine C1.out.mono ?_)
    rintro e w1 ⟨A1, c1, rfl, hr1, hw1⟩
    have R1 := Lib.hid hr1
    rw [hw1, ← HX.out]
    clear hw1 C1 hr1
    go_wp2_with fail
    (with_reducible refine C2.out.mono ?_)
    rintro e w1 ⟨A2, c2, rfl, hr2, hw1⟩
    have R2 := Lib.hid hr2
    rw [hw1, ← HY.out]
    have C3 := Lib.hid (bcompare_c w R1.out R2.out DX.out DY.out (by rw [← HX.out, ← HY.out]))
    rw [← HX.out, ← HY.out, hsx.out, hsy.out, ← ER.out] at C3
    clear hw1 C2 hr2 R1 R2
    go_wp2_with fail
    (with_reducible refine C3.out.mono ?_)
    rintro e w1 ⟨rfl, hw1⟩
    rw [hw1]
    clear hw1 C3
    go_wp2_with fail
    go_ret
    exact ⟨rfl, rfl⟩
  · have hgt := LT2.out (by rw [← HX.out, ← HY.out]; exact hc)
    have hr : ordI (dv 256 xs.reverse) (dv 256 ys.reverse) = 1 := by unfold ordI; rw [if_neg (by omega), if_pos hgt]
    rw [hr]
    have hne : ((X : Int) != (Y : Int)) = true := by simp; omega
    have hci : ¬ ((X : Int) < (Y : Int)) := by omega
    clear hr hc hgt
    go_enter Try.func17, Try.ntmps17
    go_wp2_with fail
    (with_reducible refine C1.out.mono ?_)
    rintro e w1 ⟨A1, c1, rfl, hr1, hw1⟩
    rw [hw1, ← HX.out]
    clear hw1 C1 hr1
    go_wp2_with fail
    (with_reducible refine C2.out.mono ?_)
    rintro e w1 ⟨A2, c2, rfl, hr2, hw1⟩
    rw [hw1, ← HY.out]
    clear hw1 C2 hr2
    go_wp2_with fail
    go_ret
    exact ⟨rfl, rfl⟩

theorem diff_end2 {B : Nat} {xs ys zs : List Nat} {N c : Nat} (h : DiffInv B xs ys N c zs) (hz : zs.length = N) (hd : Ds B zs) (hx : xs.length ≤ N) (hy : ys.length ≤ N) (hle : dv B ys ≤ dv B xs) : dv B zs = dv B xs - dv B ys := by
  unfold DiffInv at h
  rw [List.take_of_length_le (by omega), List.take_of_length_le hx, List.take_of_length_le hy] at h
  have hlt := dv_lt zs hd
  rw [hz] at hlt
  rcases Nat.eq_zero_or_pos c with h0 | h0
  · subst h0; rw [Nat.mul_zero] at h; omega
  · have := Nat.mul_le_mul_left (B ^ N) h0
    omega
/-- Two results: a value and true. -/
def RetOk (R : World → Value → Prop) (w : World) (e : Ending) (w' : World) : Prop := ∃ v, e = .returned (.tuple #[v, .bool true]) ∧ R w' v ∧ Below w.heap.size w w'

set_option maxRecDepth 100000 in
set_option maxHeartbeats 1600000 in
/-- Sub, where b is above a. -/
theorem sub_no {A B : Option Addr} {c d : Nat} {xs ys : List Nat} (w : World) (h : Rd .u8 w A c xs) (k : Rd .u8 w B d ys) (hx : Ds 256 xs) (hy : Ds 256 ys) (hl : xs.length ≤ 8388608) (hl' : ys.length ≤ 8388608) (hlt : dv 256 xs.reverse < dv 256 ys.reverse) :
    Calls Try.prog 12 #[.slice A xs.length c, .slice B ys.length d] w fun e w' => e = .returned (.tuple #[.slice none 0 0, .bool false]) ∧ w' = w := by
  have C0 := Lib.hid (cmp_n w h k hx hy (by omega) (by omega))
  have hr : ordI (dv 256 xs.reverse) (dv 256 ys.reverse) = -1 := by unfold ordI; rw [if_pos hlt]
  rw [hr] at C0
  generalize xs.length = L at *
  generalize ys.length = M at *
  clear h k hx hy hr hlt
  go_enter Try.func12, Try.ntmps12
  go_wp2_with fail
  (with_reducible refine C0.out.mono ?_)
  rintro e w1 ⟨rfl, hw1⟩
  rw [hw1]
  clear hw1 C0
  go_wp2_with fail
  go_ret2
  exact ⟨rfl, rfl⟩

set_option maxRecDepth 100000 in
set_option maxHeartbeats 3200000 in
/-- Sub: a - b. -/
theorem sub_o {A B : Option Addr} {c d : Nat} {xs ys : List Nat} (w : World) (h : Rd .u8 w A c xs) (h' : Rd .u8 w B d ys) (hx : Ds 256 xs) (hy : Ds 256 ys) (hl : xs.length ≤ 8388608) (hl' : ys.length ≤ 8388608) (hge : dv 256 ys.reverse ≤ dv 256 xs.reverse) :
    Calls Try.prog 12 #[.slice A xs.length c, .slice B ys.length d] w (RetOk (fun w' v => NBO w.heap.size w' v (dv 256 xs.reverse - dv 256 ys.reverse)) w) := by
  have RX := Lib.hid h
  have RY := Lib.hid h'
  have HX := Lib.hid hx
  have HY := Lib.hid hy
  have HGE := Lib.hid hge
  have C0 := Lib.hid (cmp_n w h h' hx hy (by omega) (by omega))
  obtain ⟨r, er⟩ : ∃ r, r = ordI (dv 256 xs.reverse) (dv 256 ys.reverse) := ⟨_, rfl⟩
  have hr0 : ¬ (r < 0) := by rw [er]; unfold ordI; rw [if_neg (by omega)]; split <;> omega
  rw [← er] at C0
  obtain ⟨L, hL⟩ : ∃ L, L = xs.length := ⟨_, rfl⟩
  obtain ⟨M, hM⟩ : ∃ M, M = ys.length := ⟨_, rfl⟩
  have HL := Lib.hid hL
  have HM := Lib.hid hM
  rw [← hL] at hl C0 ⊢
  rw [← hM] at hl' C0 ⊢
  obtain ⟨N, hN⟩ : ∃ N, N = max L M := ⟨_, rfl⟩
  have hmx : max (L : Int) (M : Int) = (N : Int) := by omega
  have hN8 : N ≤ 8388608 := by omega
  have HN := Lib.hid hN
  have hmk := mk8 (N : Int) N rfl (by omega)
  have hrow := Row.made (k := .u8) w 5 N
  have hbel := (Below.refl w.heap.size w).alloc (Nat.le_refl _) (.cells (madeCells #[Value.int .u8 0] N) 5)
  clear h h' hx hy hL hM hN hge er
  rcases Nat.lt_or_ge L M with hLM | hLM
  · have e1 : (M : Int) = (N : Int) := by have := HN.out; omega
    have e2 : (L : Int) < (N : Int) := by have := HN.out; omega
    have e3 : (L : Int) ≤ (N : Int) := by omega
    clear hLM
    go_enter Try.func12, Try.ntmps12
    go_wp2_with fail
    (with_reducible refine C0.out.mono ?_)
    rintro e w1 ⟨rfl, hw1⟩
    rw [hw1]
    clear hw1 C0
    go_upto_region 5 with (fail)
    clear e1 e2 e3 hr0
    generalize w.alloc (.cells (madeCells #[Value.int .u8 0] N) 5) = X at *
    clear hmk hmx
    go_wp2_with fail
    go_loopw [8, 23] (fun cr i wr => ∃ (k cc : Nat) (zs : List Nat), k ≤ N ∧ cr = .int .i64 (cc : Int) ∧ i = .int .i64 (k : Int) ∧ cc ≤ 1 ∧ Hid (zs.length = N) ∧ Hid (Ds 256 zs) ∧ Hid (DiffInv 256 xs.reverse ys.reverse k cc zs.reverse) ∧ Row .u8 wr w.heap.size 5 zs ∧ Hid (Below w.heap.size w wr))
      (fun _ i _ => (N - intOf i).toNat)
    case atStart =>
      exact ⟨0, 0, List.replicate N 0, by omega, rfl, rfl, by omega, List.length_replicate, Ds.zeros (by omega) _, by show DiffInv _ _ _ _ _ _; simp [DiffInv, dv], hrow, hbel⟩
    case round =>
      clear hrow hbel
      obtain ⟨k, cc, zs, hk, rfl, rfl, hcc, HZL, HZD, hinv, hrow, hbel⟩ := hrel
      by_cases hlt : (k : Int) < (N : Int)
      · obtain ⟨x, ex⟩ : ∃ x, x = xs.reverse.getD k 0 := ⟨_, rfl⟩
        obtain ⟨y, ey⟩ : ∃ y, y = ys.reverse.getD k 0 := ⟨_, rfl⟩
        have hx256 : x < 256 := by rw [ex]; exact HX.out.reverse.get (by omega) k
        have hy256 : y < 256 := by rw [ey]; exact HY.out.reverse.get (by omega) k
        have c1 := digit_c wr (RX.out.below hbel.out) HX.out (by have := HL.out; omega) k (by omega)
        have c2 := digit_c wr (RY.out.below hbel.out) HY.out (by have := HM.out; omega) k (by omega)
        rw [← ex, ← HL.out] at c1
        rw [← ey, ← HM.out] at c2
        have C1 := Lib.hid c1
        have C2 := Lib.hid c2
        obtain ⟨p, ep⟩ : ∃ p, p = N - 1 - k := ⟨_, rfl⟩
        have hp1 : (N : Int) - 1 - (k : Int) = (p : Int) := by omega
        have hpN : (p : Int) < (N : Int) := by omega
        obtain ⟨r, q, hr, hb, hq, hnext⟩ : ∃ r q : Nat, IntKind.u8.wrap ((x : Int) - (y : Int) - (cc : Int)) = (r : Int) ∧ bits .and .i64 (((x : Int) - (y : Int) - (cc : Int)) / 256) 1 = (q : Int) ∧ (r < 256 ∧ q ≤ 1) ∧ DiffInv 256 xs.reverse ys.reverse (k + 1) q (zs.set p r).reverse := by
          have hs : ∀ r, (zs.set p r).reverse = zs.reverse.set k r := fun r => by
            rw [rev_set _ _ _ (by rw [HZL.out]; omega), HZL.out, show N - 1 - p = k by omega]
          have hkz : k < zs.reverse.length := by rw [List.length_reverse, HZL.out]; omega
          by_cases hge : y + cc ≤ x
          · refine ⟨x - y - cc, 0, by rw [IntKind.wrap_u8']; omega, ?_, by omega, ?_⟩
            · rw [show ((x : Int) - (y : Int) - (cc : Int)) / 256 = 0 by omega]; rfl
            · rw [hs]; exact diff_ge hinv.out hkz (by rw [← ex, ← ey]; omega)
          · refine ⟨x + 256 - y - cc, 1, by rw [IntKind.wrap_u8']; omega, ?_, by omega, ?_⟩
            · rw [show ((x : Int) - (y : Int) - (cc : Int)) / 256 = -1 by omega]; rfl
            · rw [hs]; exact diff_lt hinv.out hkz (by rw [← ex, ← ey]; omega)
        have hb2 : bits .and .i64 (((x : Int) - (y : Int) - (cc : Int)) / 2 ^ 8) 1 = (q : Int) := hb
        have HNX := Lib.hid hnext
        have HR := Lib.hid hq
        have cb := hrow.cell p (by rw [HZL.out]; omega)
        have fb := hrow.frozen p
        have hrow' := Lib.hid hrow
        clear c1 c2 ex ey ep hnext hrow hinv hq
        go_wp2_with fail
        (with_reducible refine C1.out.mono ?_)
        rintro e w1 ⟨rfl, hw1⟩
        rw [hw1]
        clear hw1
        go_wp2_with fail
        (with_reducible refine C2.out.mono ?_)
        rintro e w1 ⟨rfl, hw1⟩
        rw [hw1]
        clear hw1 C1 C2
        go_wp2_with fail
        go_roundw
        case rel =>
          exact ⟨k + 1, q, zs.set p r, by omega, by go_num, by go_num, HR.out.2, by show (zs.set p r).length = N; rw [List.length_set]; exact HZL.out, HZD.out.set p r HR.out.1, HNX.out, hrow'.out.set p r, hbel.out.setCell (p := ⟨w.heap.size, p, none⟩) (Nat.le_refl _) _⟩
        case measure => simp [intOf]; omega
      · obtain rfl : k = N := by omega
        have hend := diff_end2 hinv.out (by rw [List.length_reverse]; exact HZL.out) HZD.out.reverse (by rw [List.length_reverse]; have := HL.out; have := HN.out; omega) (by rw [List.length_reverse]; have := HM.out; have := HN.out; omega) HGE.out
        have hrd := hrow.rd0
        have hsc := strip_o _ hrd HZD.out (by rw [HZL.out]; omega)
        have HROW := Lib.hid hrow
        rw [HZL.out] at hsc
        have hcan := sd_can HZD.out
        rw [hend] at hcan
        have HSC := Lib.hid hsc
        have HCAN := Lib.hid hcan
        have HSD := Lib.hid (sd_ds HZD.out)
        clear hend hrd hsc hcan hrow hinv
        go_wp2_with fail
        (with_reducible refine HSC.out.mono ?_)
        rintro e w1 ⟨A1, c1, rfl, hrd1, hw1, hsu⟩
        have HOW := Lib.hid (sub_own HROW.out (by rw [HZL.out]; omega) (by rw [HZL.out]; exact hsu) hrd1 HSD.out)
        rw [hw1]
        clear hw1 hrd1 HSC hsu HROW
        go_wp2_with fail
        go_ret2
        exact ⟨_, rfl, ⟨_, HOW.out, HCAN.out⟩, hbel.out⟩
  · have e1 : (L : Int) = (N : Int) := by have := HN.out; omega
    have e2 : ¬ ((N : Int) < (M : Int)) := by have := HN.out; omega
    have e3 : (M : Int) ≤ (N : Int) := by omega
    clear hLM
    go_enter Try.func12, Try.ntmps12
    go_wp2_with fail
    (with_reducible refine C0.out.mono ?_)
    rintro e w1 ⟨rfl, hw1⟩
    rw [hw1]
    clear hw1 C0
    go_upto_region 5 with (fail)
    clear e1 e2 e3 hr0
    generalize w.alloc (.cells (madeCells #[Value.int .u8 0] N) 5) = X at *
    clear hmk hmx
    go_wp2_with fail
    go_loopw [8, 23] (fun cr i wr => ∃ (k cc : Nat) (zs : List Nat), k ≤ N ∧ cr = .int .i64 (cc : Int) ∧ i = .int .i64 (k : Int) ∧ cc ≤ 1 ∧ Hid (zs.length = N) ∧ Hid (Ds 256 zs) ∧ Hid (DiffInv 256 xs.reverse ys.reverse k cc zs.reverse) ∧ Row .u8 wr w.heap.size 5 zs ∧ Hid (Below w.heap.size w wr))
      (fun _ i _ => (N - intOf i).toNat)
    case atStart =>
      exact ⟨0, 0, List.replicate N 0, by omega, rfl, rfl, by omega, List.length_replicate, Ds.zeros (by omega) _, by show DiffInv _ _ _ _ _ _; simp [DiffInv, dv], hrow, hbel⟩
    case round =>
      clear hrow hbel
      obtain ⟨k, cc, zs, hk, rfl, rfl, hcc, HZL, HZD, hinv, hrow, hbel⟩ := hrel
      by_cases hlt : (k : Int) < (N : Int)
      · obtain ⟨x, ex⟩ : ∃ x, x = xs.reverse.getD k 0 := ⟨_, rfl⟩
        obtain ⟨y, ey⟩ : ∃ y, y = ys.reverse.getD k 0 := ⟨_, rfl⟩
        have hx256 : x < 256 := by rw [ex]; exact HX.out.reverse.get (by omega) k
        have hy256 : y < 256 := by rw [ey]; exact HY.out.reverse.get (by omega) k
        have c1 := digit_c wr (RX.out.below hbel.out) HX.out (by have := HL.out; omega) k (by omega)
        have c2 := digit_c wr (RY.out.below hbel.out) HY.out (by have := HM.out; omega) k (by omega)
        rw [← ex, ← HL.out] at c1
        rw [← ey, ← HM.out] at c2
        have C1 := Lib.hid c1
        have C2 := Lib.hid c2
        obtain ⟨p, ep⟩ : ∃ p, p = N - 1 - k := ⟨_, rfl⟩
        have hp1 : (N : Int) - 1 - (k : Int) = (p : Int) := by omega
        have hpN : (p : Int) < (N : Int) := by omega
        obtain ⟨r, q, hr, hb, hq, hnext⟩ : ∃ r q : Nat, IntKind.u8.wrap ((x : Int) - (y : Int) - (cc : Int)) = (r : Int) ∧ bits .and .i64 (((x : Int) - (y : Int) - (cc : Int)) / 256) 1 = (q : Int) ∧ (r < 256 ∧ q ≤ 1) ∧ DiffInv 256 xs.reverse ys.reverse (k + 1) q (zs.set p r).reverse := by
          have hs : ∀ r, (zs.set p r).reverse = zs.reverse.set k r := fun r => by
            rw [rev_set _ _ _ (by rw [HZL.out]; omega), HZL.out, show N - 1 - p = k by omega]
          have hkz : k < zs.reverse.length := by rw [List.length_reverse, HZL.out]; omega
          by_cases hge : y + cc ≤ x
          · refine ⟨x - y - cc, 0, by rw [IntKind.wrap_u8']; omega, ?_, by omega, ?_⟩
            · rw [show ((x : Int) - (y : Int) - (cc : Int)) / 256 = 0 by omega]; rfl
            · rw [hs]; exact diff_ge hinv.out hkz (by rw [← ex, ← ey]; omega)
          · refine ⟨x + 256 - y - cc, 1, by rw [IntKind.wrap_u8']; omega, ?_, by omega, ?_⟩
            · rw [show ((x : Int) - (y : Int) - (cc : Int)) / 256 = -1 by omega]; rfl
            · rw [hs]; exact diff_lt hinv.out hkz (by rw [← ex, ← ey]; omega)
        have hb2 : bits .and .i64 (((x : Int) - (y : Int) - (cc : Int)) / 2 ^ 8) 1 = (q : Int) := hb
        have HNX := Lib.hid hnext
        have HR := Lib.hid hq
        have cb := hrow.cell p (by rw [HZL.out]; omega)
        have fb := hrow.frozen p
        have hrow' := Lib.hid hrow
        clear c1 c2 ex ey ep hnext hrow hinv hq
        go_wp2_with fail
        (with_reducible refine C1.out.mono ?_)
        rintro e w1 ⟨rfl, hw1⟩
        rw [hw1]
        clear hw1
        go_wp2_with fail
        (with_reducible refine C2.out.mono ?_)
        rintro e w1 ⟨rfl, hw1⟩
        rw [hw1]
        clear hw1 C1 C2
        go_wp2_with fail
        go_roundw
        case rel =>
          exact ⟨k + 1, q, zs.set p r, by omega, by go_num, by go_num, HR.out.2, by show (zs.set p r).length = N; rw [List.length_set]; exact HZL.out, HZD.out.set p r HR.out.1, HNX.out, hrow'.out.set p r, hbel.out.setCell (p := ⟨w.heap.size, p, none⟩) (Nat.le_refl _) _⟩
        case measure => simp [intOf]; omega
      · obtain rfl : k = N := by omega
        have hend := diff_end2 hinv.out (by rw [List.length_reverse]; exact HZL.out) HZD.out.reverse (by rw [List.length_reverse]; have := HL.out; have := HN.out; omega) (by rw [List.length_reverse]; have := HM.out; have := HN.out; omega) HGE.out
        have hrd := hrow.rd0
        have hsc := strip_o _ hrd HZD.out (by rw [HZL.out]; omega)
        have HROW := Lib.hid hrow
        rw [HZL.out] at hsc
        have hcan := sd_can HZD.out
        rw [hend] at hcan
        have HSC := Lib.hid hsc
        have HCAN := Lib.hid hcan
        have HSD := Lib.hid (sd_ds HZD.out)
        clear hend hrd hsc hcan hrow hinv
        go_wp2_with fail
        (with_reducible refine HSC.out.mono ?_)
        rintro e w1 ⟨A1, c1, rfl, hrd1, hw1, hsu⟩
        have HOW := Lib.hid (sub_own HROW.out (by rw [HZL.out]; omega) (by rw [HZL.out]; exact hsu) hrd1 HSD.out)
        rw [hw1]
        clear hw1 hrd1 HSC hsu HROW
        go_wp2_with fail
        go_ret2
        exact ⟨_, rfl, ⟨_, HOW.out, HCAN.out⟩, hbel.out⟩
theorem sub_n {A B : Option Addr} {c d : Nat} {xs ys : List Nat} (w : World) (h : Rd .u8 w A c xs) (h' : Rd .u8 w B d ys) (hx : Ds 256 xs) (hy : Ds 256 ys) (hl : xs.length ≤ 8388608) (hl' : ys.length ≤ 8388608) (hge : dv 256 ys.reverse ≤ dv 256 xs.reverse) :
    Calls Try.prog 12 #[.slice A xs.length c, .slice B ys.length d] w (RetOk (fun w' v => ∃ zs, Byt w' v zs ∧ Can 256 zs.reverse (dv 256 xs.reverse - dv 256 ys.reverse)) w) := (sub_o w h h' hx hy hl hl' hge).mono fun _ _ ⟨v, e, h, hb⟩ => ⟨v, e, h.byt, hb⟩
end Go.Proofs.Ytakojlgoelbjmaa
