/- The contracts of package nat's multiply and Mul. -/
import Derived.Test.YtakojlgoelbjmaaNTimes
import Derived.Test.YtakojlgoelbjmaaNLimbs
import Derived.Test.YtakojlgoelbjmaaNBytes
import Derived.Lib.SliceRun
namespace Go.Proofs.Ytakojlgoelbjmaa
open Go.RowKit

theorem tch_setCells (g : Nat) : ∀ (vs : List Value) (o : Nat) (w : World), Tch g w (w.setCells g o vs)
  | [], _, w => Tch.refl g w
  | v :: r, o, w => (Tch.put g o w v).trans (tch_setCells g r (o + 1) _)
theorem row_clear {k : IntKind} {g : Nat} {t : TypeId} : ∀ (n o : Nat) (w : World) (xs : List Nat), Row k w g t xs → ∃ zs, Row k (w.setCells g o (List.replicate n (.int k 0))) g t zs ∧ zs.length = xs.length ∧ ∀ j, zs.getD j 0 = if o ≤ j ∧ j < o + n then 0 else xs.getD j 0
  | 0, o, w, xs, h => ⟨xs, h, rfl, fun j => by rw [if_neg (by omega)]⟩
  | n + 1, o, w, xs, h => by
    obtain ⟨zs, h1, h2, h3⟩ := row_clear n (o + 1) _ _ (h.set o 0)
    refine ⟨zs, h1, by rw [h2, List.length_set], fun j => ?_⟩
    rw [h3]
    by_cases e : o = j
    · subst e
      rw [if_neg (by omega), if_pos (by omega)]
      by_cases hl : o < xs.length
      · exact getD_set_self hl
      · rw [List.getD_eq_getElem?_getD, List.getElem?_eq_none (by rw [List.length_set]; omega)]; rfl
    · rw [getD_set_ne e]
      by_cases hj : o + 1 ≤ j ∧ j < o + 1 + n
      · rw [if_pos hj, if_pos (by omega)]
      · rw [if_neg hj, if_neg (by omega)]
theorem row_cleared {k : IntKind} {g : Nat} {t : TypeId} (w : World) (xs : List Nat) (h : Row k w g t xs) : Row k (w.setCells g 0 (List.replicate xs.length (.int k 0))) g t (List.replicate xs.length 0) := by
  obtain ⟨zs, h1, h2, h3⟩ := row_clear xs.length 0 w xs h
  have e : zs = List.replicate xs.length 0 := by
    refine List.ext_getElem (by rw [h2, List.length_replicate]) fun i a b => ?_
    have := h3 i
    rw [if_pos (by omega), List.getD_eq_getElem?_getD, List.getElem?_eq_getElem a] at this
    simpa using this
  rw [← e]; exact h1
theorem zero64 (w : World) : (zeroValue 68).run Try.prog w = .ok (.int .u64 0) w := by kernel_rfl
theorem clear64 (w : World) {g : Nat} {t : TypeId} {xs : List Nat} (h : Row .u64 w g t xs) (c : Nat) (ty : TypeId) :
    (Builtin.clear_ #[74] ty #[.slice (some ⟨g, 0, none⟩) xs.length c]).run Try.prog w = .ok (.tuple #[]) (w.setCells g 0 (List.replicate xs.length (.int .u64 0))) := by
  rcases Nat.eq_zero_or_pos xs.length with h0 | h0
  · rw [h0]
    simp [Builtin.clear_, run_underlying Try.underlying74, World.setCells]
  · exact Lib.run_clear_slice w 74 68 ty (.int .u64 0) Try.underlying74 zero64 rfl rfl g 0 xs.length c h0 (fun j hj => by rw [Nat.zero_add, h.cell j hj]; rfl) (fun j _ => h.frozen _)

/-- What multiply leaves: block G holds the number n, in K limbs; nothing else has changed. -/
def RetIn (n K G : Nat) (t : TypeId) (w : World) (e : Ending) (w' : World) : Prop := ∃ zs, e = .returned (.tuple #[]) ∧ Row .u64 w' G t zs ∧ Ds 18446744073709551616 zs ∧ dv 18446744073709551616 zs = n ∧ zs.length = K ∧ Tch G w w'

set_option maxRecDepth 100000 in
set_option maxHeartbeats 3200000 in
theorem multiply_c {g ga gb : Nat} {tg ta tb : TypeId} {ps xs ys : List Nat} {cp ca cb : Nat} (w : World) (hp : Row .u64 w g tg ps) (ha : Row .u64 w ga ta xs) (hb : Row .u64 w gb tb ys) (hga : ga ≠ g) (hgb : gb ≠ g)
    (lx : Ds 18446744073709551616 xs) (ly : Ds 18446744073709551616 ys) (hl : ps.length = xs.length + ys.length) (hx : xs.length ≤ 8388608) (hy : ys.length ≤ 8388608) (hcp : ps.length ≤ cp) :
    Calls Try.prog 39 #[.slice (some ⟨g, 0, none⟩) ps.length cp, .slice (some ⟨ga, 0, none⟩) xs.length ca, .slice (some ⟨gb, 0, none⟩) ys.length cb] w (RetIn (dv 18446744073709551616 xs * dv 18446744073709551616 ys) ps.length g tg w) := by
  have hcl := clear64 w hp cp
  have hrow := row_cleared w ps hp
  have htch := tch_setCells g (List.replicate ps.length (Value.int .u64 0)) 0 w
  obtain ⟨P, hP⟩ : ∃ P, P = ps.length := ⟨_, rfl⟩
  obtain ⟨X, hX⟩ : ∃ X, X = xs.length := ⟨_, rfl⟩
  obtain ⟨Y, hY⟩ : ∃ Y, Y = ys.length := ⟨_, rfl⟩
  rw [← hP, ← hX, ← hY] at hl
  rw [← hX] at hx
  rw [← hY] at hy
  rw [← hP] at hcp hcl hrow htch
  rw [← hP, ← hX, ← hY]
  have HX := Lib.hid hX
  have HY := Lib.hid hY
  have HL := Lib.hid hl
  have HA := Lib.hid ha
  have HB := Lib.hid hb
  have LX := Lib.hid lx
  have LY := Lib.hid ly
  have hcp2 : (X : Int) + (Y : Int) ≤ (cp : Int) := by omega
  have hx2 : (X : Int) ≤ 8388608 := by omega
  have hy2 : (Y : Int) ≤ 8388608 := by omega
  clear hp hP hX hY hl ha hb lx ly hcp hx hy
  go_enter Try.func39, Try.ntmps39
  go_wp2_with (simp only [hcl])
  clear hcl
  generalize hW : w.setCells g 0 (List.replicate P (.int .u64 0)) = W at *
  clear hW
  go_loopw [15] (fun i wr => ∃ (n : Nat) (zs : List Nat), n ≤ X ∧ i = .int .i64 n ∧ Hid (zs.length = P) ∧ Hid (Ds 18446744073709551616 zs) ∧ Hid (ProdOut 18446744073709551616 xs ys n zs) ∧ Row .u64 wr g tg zs ∧ Tch g w wr)
    (fun i _ => X - (intOf i).toNat)
  case atStart => exact ⟨0, List.replicate P 0, by omega, rfl, List.length_replicate, Ds.zeros (by omega) _, ⟨by simp [dv_zeros, dv], fun j _ => by
      rw [List.getD_eq_getElem?_getD, List.getElem?_replicate]; split <;> rfl⟩, hrow, htch⟩
  case round =>
    clear hrow htch
    obtain ⟨n, zs, hn, rfl, HZ, HD, hinv, hrow, htch⟩ := hrel
    by_cases hlt : (n : Int) < (X : Int)
    · have cx := (htch.row HA.out hga).cell n (by have := HX.out; omega)
      obtain ⟨x, ex⟩ : ∃ x, x = xs.getD n 0 := ⟨_, rfl⟩
      rw [← ex] at cx
      have bx : Lim x := by rw [ex]; exact LX.out.get (by omega) _
      have EX := Lib.hid ex
      have e1 : IntKind.i64.wrap ((n : Int) + (Y : Int)) = ((n + Y : Nat) : Int) := by rw [IntWalk.i64_in _ (by omega)]; omega
      have hncp : (n : Int) < (cp : Int) := by omega
      clear ex
      go_wp2_with fail
      clear e1
      rw [show n + Y - n = Y by omega]
      go_loopw [8, 29] (fun c k wr => ∃ (carry m : Nat) (ds : List Nat), m ≤ Y ∧ c = .int .u64 carry ∧ k = .int .i64 m ∧ Lim carry ∧ Hid (ds.length = P) ∧ Hid (Ds 18446744073709551616 ds) ∧ Hid (ProdIn 18446744073709551616 xs ys n m carry ds) ∧ Row .u64 wr g tg ds ∧ Tch g w wr)
        (fun _ k _ => Y - (intOf k).toNat)
      case atStart => exact ⟨0, 0, zs, by omega, rfl, rfl, by unfold Lim; omega, HZ, HD, dprod_start hinv.out, hrow, htch⟩
      case round =>
        clear cx hrow htch hinv HZ HD
        obtain ⟨carry, m, ds, hm, rfl, rfl, lc, HZ, HD, hinv, hrow, htch⟩ := hrel
        by_cases hmlt : (m : Int) < (Y : Int)
        · have cy := (htch.row HB.out hgb).cell m (by have := HY.out; omega)
          have cz := hrow.cell (n + m) (by have := HL.out; rw [HZ.out]; omega)
          have fz := hrow.frozen (n + m)
          obtain ⟨y, ey⟩ : ∃ y, y = ys.getD m 0 := ⟨_, rfl⟩
          obtain ⟨z, ez⟩ : ∃ z, z = ds.getD (n + m) 0 := ⟨_, rfl⟩
          rw [← ey] at cy
          rw [← ez] at cz
          have by_ : Lim y := by rw [ey]; exact LY.out.get (by omega) _
          have bz : Lim z := by rw [ez]; exact HD.out.get (by omega) _
          have EY := Lib.hid ey
          have EZ := Lib.hid ez
          clear ey ez
          go_wp2_with fail
          (with_reducible refine (times_c x y z carry bx by_ bz lc _).mono ?_)
          rintro e w1 ⟨h, lo, rfl, hM, rfl⟩
          have hs := dprod_step (s := x * y + z + carry) hinv.out (by have := HY.out; omega) (by have := HL.out; rw [HZ.out]; omega) (by rw [EX.out, EY.out, EZ.out])
          have h1 : (x * y + z + carry) / 18446744073709551616 = h := by unfold MulA at hM; omega
          have h2 : (x * y + z + carry) % 18446744073709551616 = lo := by unfold MulA at hM; omega
          rw [h1, h2] at hs
          have HS := Lib.hid hs
          have HM := Lib.hid hM
          clear hs h1 h2 hM hinv
          go_wp2_with fail
          go_roundw
          case rel => exact ⟨h, m + 1, ds.set (n + m) lo, by omega, rfl, by go_num, HM.out.2.2, by show (ds.set (n + m) lo).length = P; rw [List.length_set]; exact HZ.out, HD.out.set _ _ HM.out.2.1, HS.out, hrow.set _ _, htch.trans (Tch.put _ _ _ _)⟩
          case measure => simp [intOf]; omega
        · obtain rfl : m = Y := by omega
          have hs := hinv.out
          rw [HY.out] at hs
          have hs := dprod_end hs (by have := HX.out; omega) (by have := HL.out; have := HY.out; rw [HZ.out]; omega)
          rw [← HY.out] at hs
          have HS := Lib.hid hs
          have cz := hrow.cell (n + m) (by have := HL.out; rw [HZ.out]; omega)
          have fz := hrow.frozen (n + m)
          have e1 : IntKind.i64.wrap ((n : Int) + (m : Int)) = ((n + m : Nat) : Int) := by rw [IntWalk.i64_in _ (by omega)]; omega
          clear hs hinv
          have hPl : (n : Int) + (m : Int) < (P : Int) := by have := HL.out; omega
          go_wp2_with fail
          go_roundw
          case rel => exact ⟨n + 1, ds.set (n + m) carry, by omega, by go_num, by show (ds.set (n + m) carry).length = P; rw [List.length_set]; exact HZ.out, HD.out.set _ _ lc, HS.out, hrow.set _ _, htch.trans (Tch.put _ _ _ _)⟩
          case measure => simp [intOf]; omega
    · obtain rfl : n = X := by omega
      have hz := hinv.out
      have e : dv 18446744073709551616 zs = dv 18446744073709551616 xs * dv 18446744073709551616 ys := by rw [hz.1, HX.out, List.take_length]
      have HE := Lib.hid e
      clear e hz hinv
      go_wp2_with fail
      go_end0
      exact ⟨zs, rfl, hrow, HD.out, HE.out, HZ.out, htch⟩

set_option maxRecDepth 100000 in
set_option maxHeartbeats 3200000 in
theorem mul_o {A B : Option Addr} {c d : Nat} {xs ys : List Nat} (w : World) (h : Rd .u8 w A c xs) (h' : Rd .u8 w B d ys) (hx : Ds 256 xs) (hy : Ds 256 ys) (hl : xs.length ≤ 2097152) (hl' : ys.length ≤ 2097152) :
    Calls Try.prog 13 #[.slice A xs.length c, .slice B ys.length d] w (RetR (fun w' v => NBO w.heap.size w' v (dv 256 xs.reverse * dv 256 ys.reverse)) w) := by
  have RY := Lib.hid h'
  have HY := Lib.hid hy
  have C1 := Lib.hid (toLimbs_c w h hx (by omega))
  obtain ⟨a, ha⟩ : ∃ a, a = dv 256 xs.reverse := ⟨_, rfl⟩
  obtain ⟨b, hb⟩ : ∃ b, b = dv 256 ys.reverse := ⟨_, rfl⟩
  obtain ⟨L, hL⟩ : ∃ L, L = xs.length := ⟨_, rfl⟩
  obtain ⟨M, hM⟩ : ∃ M, M = ys.length := ⟨_, rfl⟩
  have HM := Lib.hid hM
  have HBv := Lib.hid hb
  rw [← hL] at hl C1
  rw [← ha] at C1
  rw [← hM] at hl'
  rw [← hL, ← hM, ← ha, ← hb]
  clear h h' hx hy ha hb hL hM
  go_enter Try.func13, Try.ntmps13
  go_wp2_with fail
  (with_reducible refine C1.out.mono ?_)
  rintro e w1 ⟨G1, l1, rfl, hr1, hg1, hc1, hk1, hb1⟩
  have hG1 := hr1.lt
  have C2 := Lib.hid (toLimbs_c w1 (RY.out.below hb1) HY.out (by rw [← HM.out]; omega))
  rw [← HM.out, ← HBv.out] at C2
  have HC1 := Lib.hid hc1
  have HR1 := Lib.hid hr1
  clear C1 hc1 hr1
  go_wp2_with fail
  (with_reducible refine C2.out.mono ?_)
  rintro e w2 ⟨G2, l2, rfl, hr2, hg2, hc2, hk2, hb2⟩
  have hG2 := hr2.lt
  have HR1 := Lib.hid (HR1.out.below hb2 hG1)
  have HC2 := Lib.hid hc2
  have hbel := Lib.hid (hb1.trans (hb2.mono hb1.size))
  obtain ⟨P, hP⟩ : ∃ P, P = l1.length + l2.length := ⟨_, rfl⟩
  obtain ⟨X, hX⟩ : ∃ X, X = l1.length := ⟨_, rfl⟩
  obtain ⟨Y, hY⟩ : ∃ Y, Y = l2.length := ⟨_, rfl⟩
  rw [← hX] at hk1
  rw [← hY] at hk2
  rw [← hX, ← hY] at hP
  have hP2 : (X : Int) + (Y : Int) = (P : Int) := by omega
  have hmk := mk64 (P : Int) P rfl (by omega) w2
  have hrow := Row.made (k := .u64) w2 68 P
  have hsz1 := hb1.size
  have hsz2 := hb2.size
  have HX := Lib.hid hX
  have HYl := Lib.hid hY
  have HP := Lib.hid hP
  have HR1 := Lib.hid (HR1.out.alloc (.cells (madeCells #[Value.int .u64 0] P) 68))
  have HR2 := Lib.hid (hr2.alloc (.cells (madeCells #[Value.int .u64 0] P) 68))
  have HBL := Lib.hid (hbel.out.alloc (by omega) (.cells (madeCells #[Value.int .u64 0] P) 68))
  have C3 := Lib.hid (multiply_c _ hrow HR1.out HR2.out (by omega) (by omega) HC1.out.1 HC2.out.1 (by rw [List.length_replicate, ← HX.out, ← HYl.out]; exact HP.out) (by rw [← HX.out]; omega) (by rw [← HYl.out]; omega) (Nat.le_refl _) (ca := X) (cb := Y))
  rw [List.length_replicate, ← HX.out, ← HYl.out, HC1.out.2.1, HC2.out.2.1] at C3
  rw [← HX.out, ← HYl.out]
  have hwP : IntKind.i64.wrap (P : Int) = (P : Int) := IntWalk.i64_in _ (by omega)
  clear hrow hr2 hb1 hb2 hX hY hP C2 hc2 hbel
  go_wp2_with fail
  (with_reducible refine C3.out.mono ?_)
  rintro e w3 ⟨zs, rfl, hr3, hd3, hv3, hl3, ht3⟩
  have C4 := Lib.hid (toBytes_o w3 hr3.rd0 hd3 (by omega))
  rw [hl3, hv3] at C4
  have HBL2 := Lib.hid (ht3.below HBL.out (by omega))
  clear C3 hr3 hd3 hv3 hl3 ht3 hmk hwP
  go_wp2_with fail
  (with_reducible refine C4.out.mono ?_)
  rintro e w4 ⟨v, rfl, hv, hb4⟩
  go_wp2_with fail
  go_ret
  exact ⟨v, rfl, hv.mono HBL2.out.size, HBL2.out.trans (hb4.mono HBL2.out.size)⟩
theorem mul_n {A B : Option Addr} {c d : Nat} {xs ys : List Nat} (w : World) (h : Rd .u8 w A c xs) (h' : Rd .u8 w B d ys) (hx : Ds 256 xs) (hy : Ds 256 ys) (hl : xs.length ≤ 2097152) (hl' : ys.length ≤ 2097152) :
    Calls Try.prog 13 #[.slice A xs.length c, .slice B ys.length d] w (RetR (fun w' v => ∃ zs, Byt w' v zs ∧ Can 256 zs.reverse (dv 256 xs.reverse * dv 256 ys.reverse)) w) := (mul_o w h h' hx hy hl hl').mono fun _ _ ⟨v, e, h, hb⟩ => ⟨v, e, h.byt, hb⟩
end Go.Proofs.Ytakojlgoelbjmaa
