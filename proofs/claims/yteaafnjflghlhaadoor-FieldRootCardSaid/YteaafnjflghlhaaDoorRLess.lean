/- The contracts of package quarryref02's less and back. -/
import Derived.Test.YteaafnjflghlhaaDoorRAdd
import Derived.Test.YteaafnjflghlhaaDoorDig
namespace Go.Proofs.YteaafnjflghlhaaDoor
open Go.RowKit

/-- What less tells and leaves: q times ys is taken away from place i on; b says whether that was too much. -/
def RetLess (g : Nat) (zs ys : List Nat) (i q : Nat) (w : World) (e : Ending) (w' : World) : Prop :=
  ∃ (b : Nat) (xs : List Nat), e = .returned (.bool ((b : Int) == 1)) ∧ b ≤ 1 ∧ xs.length = zs.length ∧ Ds 4294967296 xs ∧ dv 4294967296 xs + 4294967296 ^ i * (q * dv 4294967296 ys) = dv 4294967296 zs + 4294967296 ^ (i + ys.length + 1) * b ∧
    (∀ j, i + ys.length + 1 ≤ j → xs.getD j 0 = zs.getD j 0) ∧ Row .u32 w' g 65 xs ∧ Tch g w w'

theorem and32 (m : Nat) (h : m < 18446744073709551616) : bits .and .u64 (m : Int) 4294967295 = ((m % 4294967296 : Nat) : Int) := by
  have := u64_and_nat m 4294967295 h (by omega)
  rw [show m &&& 4294967295 = m % 4294967296 from Nat.and_two_pow_sub_one_eq_mod m 32] at this
  exact this
theorem qmul_lt {q y c : Nat} (hq : q < 4294967296) (hy : y < 4294967296) (hc : c < 4294967296) : c + q * y < 18446744073709551616 := by
  have : q * y ≤ 4294967295 * 4294967295 := Nat.mul_le_mul (by omega) (by omega)
  omega

set_option maxRecDepth 100000 in
set_option maxHeartbeats 6400000 in
theorem rless_c {B : Option Addr} {d g n i q : Nat} {zs ys : List Nat} (w0 w : World) (hy : Rd .u32 w0 B d ys) (hds : Ds 4294967296 ys) (hb : Below w0.heap.size w0 w) (hg : w0.heap.size ≤ g) (hrow : Row .u32 w g 65 zs) (hn : zs.length = n)
    (hz : Ds 4294967296 zs) (hi : i + ys.length < n) (hq : q < 4294967296) (hl : n ≤ 33554432) :
    Calls Tryd.prog 70 #[.slice (some ⟨g, 0, none⟩) n n, .slice B ys.length d, .int .i64 i, .int .u64 q] w (RetLess g zs ys i q w) := by
  have HQ := Lib.hid hq
  have HN := Lib.hid hn
  clear hq hn
  go_enter Tryd.func70, Tryd.ntmps70
  go_wp2_with fail
  go_loopw [9, 10, 11, 12, 13, 14] (fun cr br kk _ _ _ wr => ∃ (k c b : Nat) (xs : List Nat), k ≤ ys.length + 1 ∧ cr = .int .u64 c ∧ br = .int .u64 b ∧ kk = .int .i64 k ∧ Hid (c < 4294967296 ∧ (k = ys.length + 1 → c = 0)) ∧ b ≤ 1 ∧ xs.length = n ∧ Ds 4294967296 xs ∧ LessInv zs ys i q k (c + b) xs ∧ Row .u32 wr g 65 xs ∧ Tch g w wr)
    (fun _ _ kk _ _ _ _ => ys.length + 1 - (intOf kk).toNat)
  case atStart => exact ⟨0, 0, 0, zs, by omega, rfl, rfl, rfl, ⟨by omega, fun h => rfl⟩, by omega, HN.out, hz, ⟨by simp [dv], fun _ _ => rfl⟩, hrow, Tch.refl _ _⟩
  case round =>
    obtain ⟨k, c, b, xs, hk, rfl, rfl, rfl, hc, hb1, hlen, hds2, hinv, hrow2, htch⟩ := hrel
    have HL := Lib.hid hlen
    have R2 := Lib.hid ((hy.below (htch.below hb hg)))
    have HB1 := Lib.hid hb1
    clear hlen hrow hz hb1
    by_cases hlt : k ≤ ys.length
    · obtain ⟨x, ex⟩ : ∃ x, x = xs.getD (i + k) 0 := ⟨_, rfl⟩
      obtain ⟨y, ey⟩ : ∃ y, y = ys.getD k 0 := ⟨_, rfl⟩
      have bx : x < 4294967296 := by rw [ex]; exact hds2.get (by omega) _
      have by_ : y < 4294967296 := by rw [ey]; exact hds.get (by omega) _
      have cx := hrow2.cell (i + k) (by rw [HL.out]; omega)
      have fx := hrow2.frozen (i + k)
      rw [← ex] at cx
      obtain ⟨m, em⟩ : ∃ m, m = c + q * y := ⟨_, rfl⟩
      have hm := qmul_lt HQ.out by_ hc.out.1
      obtain ⟨lo, elo⟩ : ∃ lo, lo = m % 4294967296 := ⟨_, rfl⟩
      obtain ⟨hi', ehi⟩ : ∃ hi', hi' = m / 4294967296 := ⟨_, rfl⟩
      obtain ⟨s, es⟩ : ∃ s, s = lo + b := ⟨_, rfl⟩
      have hb2 := HB1.out
      have vx : IntKind.u64.wrap (x : Int) = (x : Int) := IntWalk.u64_in _ (by omega)
      have vand := and32 m (by omega)
      rw [← elo] at vand
      have vhi : (m : Int) / 4294967296 = (hi' : Int) := by omega
      have vs : IntKind.u64.wrap ((lo : Int) + b) = (s : Int) := by rw [IntWalk.u64_in _ (by omega)]; omega
      have hmm : lo + 4294967296 * hi' = c + q * ys.getD k 0 := by rw [← ey, ← em, elo, ehi]; exact Nat.mod_add_div _ _
      have hs2 : s ≤ 4294967296 ∧ hi' < 4294967296 := by omega
      have hlast : k = ys.length → hi' = 0 ∧ y = 0 ∧ m = c := fun hk => by
        have hy0 : y = 0 := by rw [ey, List.getD_eq_getElem?_getD, List.getElem?_eq_none (by omega)]; rfl
        have hm2 : m = c := by rw [em, hy0]; simp
        have := hc.out.1
        exact ⟨by omega, hy0, hm2⟩
      have HM := Lib.hid hmm
      have HS2 := Lib.hid hs2
      have HLast := Lib.hid hlast
      have BX := Lib.hid bx
      have BY := Lib.hid by_
      have EX := Lib.hid ex
      have EY := Lib.hid ey
      have EM := Lib.hid em
      have ES := Lib.hid es
      have HMb := Lib.hid hm
      clear hmm hs2 hlast ex ey em elo ehi es bx by_ hm hb2
      have stepR : ∀ r b', r + (lo + b) = x + 4294967296 * b' → b' ≤ 1 → LessInv zs ys i q (k + 1) (hi' + b') (xs.set (i + k) r) := fun r b' hr _ => less_step hinv (by rw [HL.out]; omega) EX.out.symm HM.out hr
      have SR := Lib.hid stepR
      clear stepR
      by_cases hxs : x < s
      all_goals
        obtain ⟨b', eb'⟩ : ∃ b', b' = if x < s then 1 else 0 := ⟨_, rfl⟩
        first
        | rw [if_pos hxs] at eb'
        | rw [if_neg hxs] at eb'
        subst eb'
      · have t1 : decide (x < s) = true := decide_eq_true hxs
        obtain ⟨z, ez⟩ : ∃ z, z = x + 4294967296 := ⟨_, rfl⟩
        have vz : IntKind.u64.wrap ((x : Int) + 4294967296) = (z : Int) := by rw [IntWalk.u64_in _ (by have := BX.out; omega)]; omega
        obtain ⟨r, er⟩ : ∃ r, r = z - s := ⟨_, rfl⟩
        have hr : r < 4294967296 ∧ r + (lo + b) = x + 4294967296 * 1 := by have := ES.out; have := HS2.out; have := BX.out; omega
        have vr : IntKind.u64.wrap ((z : Int) - s) = (r : Int) := by rw [IntWalk.u64_in _ (by have := HS2.out; have := BX.out; omega)]; have := HS2.out; omega
        have vc : IntKind.u32.wrap (r : Int) = (r : Int) := IntWalk.u32_in _ (by omega)
        have HR := Lib.hid hr
        clear ez er hr hxs
        rcases Nat.lt_or_ge k ys.length with hkl | hkl
        · obtain ⟨b2, o2, rfl, hb2, hc2⟩ := R2.out.at_ (by omega)
          have cy := hc2 k hkl
          rw [← EY.out] at cy
          have vy : IntKind.u64.wrap (y : Int) = (y : Int) := IntWalk.u64_in _ (by have := BY.out; omega)
          obtain ⟨p, ep⟩ : ∃ p, p = q * y := ⟨_, rfl⟩
          have vp : IntKind.u64.wrap ((q : Int) * y) = (p : Int) := by rw [ep, IntWalk.u64_in _ (by rw [← Int.natCast_mul]; have := HMb.out; omega)]; simp
          have vm : IntKind.u64.wrap ((c : Int) + p) = (m : Int) := by have := EM.out; have := HMb.out; rw [IntWalk.u64_in _ (by omega)]; omega
          clear ep hc2
          go_wp2_with fail
          go_roundw
          case rel =>
            exact ⟨k + 1, hi', 1, xs.set (i + k) r, by omega, rfl, rfl, by go_num, ⟨HS2.out.2, fun h => by omega⟩, by omega, by rw [List.length_set]; exact HL.out, hds2.set _ _ HR.out.1, SR.out r 1 HR.out.2 (by omega), hrow2.set _ _, htch.trans (Tch.put _ _ _ _)⟩
          case measure => simp [intOf] <;> omega
        · obtain rfl : k = ys.length := by omega
          obtain ⟨h1, h2, rfl⟩ := HLast.out rfl
          subst h1
          go_wp2_with fail
          go_roundw
          case rel =>
            exact ⟨ys.length + 1, 0, 1, xs.set (i + ys.length) r, by omega, rfl, rfl, by go_num, ⟨by omega, fun h => rfl⟩, by omega, by rw [List.length_set]; exact HL.out, hds2.set _ _ HR.out.1, SR.out r 1 HR.out.2 (by omega), hrow2.set _ _, htch.trans (Tch.put _ _ _ _)⟩
          case measure => simp [intOf] <;> omega
      · have t1 : decide (x < s) = false := decide_eq_false hxs
        obtain ⟨r, er⟩ : ∃ r, r = x - s := ⟨_, rfl⟩
        have hr : r < 4294967296 ∧ r + (lo + b) = x + 4294967296 * 0 := by have := ES.out; have := HS2.out; have := BX.out; omega
        have vr : IntKind.u64.wrap ((x : Int) - s) = (r : Int) := by rw [IntWalk.u64_in _ (by have := HS2.out; have := BX.out; omega)]; have := HS2.out; omega
        have vc : IntKind.u32.wrap (r : Int) = (r : Int) := IntWalk.u32_in _ (by omega)
        have HR := Lib.hid hr
        clear er hr hxs
        rcases Nat.lt_or_ge k ys.length with hkl | hkl
        · obtain ⟨b2, o2, rfl, hb2, hc2⟩ := R2.out.at_ (by omega)
          have cy := hc2 k hkl
          rw [← EY.out] at cy
          have vy : IntKind.u64.wrap (y : Int) = (y : Int) := IntWalk.u64_in _ (by have := BY.out; omega)
          obtain ⟨p, ep⟩ : ∃ p, p = q * y := ⟨_, rfl⟩
          have vp : IntKind.u64.wrap ((q : Int) * y) = (p : Int) := by rw [ep, IntWalk.u64_in _ (by rw [← Int.natCast_mul]; have := HMb.out; omega)]; simp
          have vm : IntKind.u64.wrap ((c : Int) + p) = (m : Int) := by have := EM.out; have := HMb.out; rw [IntWalk.u64_in _ (by omega)]; omega
          clear ep hc2
          go_wp2_with fail
          go_roundw
          case rel =>
            exact ⟨k + 1, hi', 0, xs.set (i + k) r, by omega, rfl, rfl, by go_num, ⟨HS2.out.2, fun h => by omega⟩, by omega, by rw [List.length_set]; exact HL.out, hds2.set _ _ HR.out.1, SR.out r 0 HR.out.2 (by omega), hrow2.set _ _, htch.trans (Tch.put _ _ _ _)⟩
          case measure => simp [intOf] <;> omega
        · obtain rfl : k = ys.length := by omega
          obtain ⟨h1, h2, rfl⟩ := HLast.out rfl
          subst h1
          go_wp2_with fail
          go_roundw
          case rel =>
            exact ⟨ys.length + 1, 0, 0, xs.set (i + ys.length) r, by omega, rfl, rfl, by go_num, ⟨by omega, fun h => rfl⟩, by omega, by rw [List.length_set]; exact HL.out, hds2.set _ _ HR.out.1, SR.out r 0 HR.out.2 (by omega), hrow2.set _ _, htch.trans (Tch.put _ _ _ _)⟩
          case measure => simp [intOf] <;> omega
    · obtain rfl : k = ys.length + 1 := by omega
      obtain rfl : c = 0 := hc.out.2 rfl
      go_wp2_with fail
      go_ret
      obtain ⟨h1, h2⟩ := hinv
      rw [List.take_of_length_le (by omega), Nat.zero_add] at h1
      exact ⟨b, xs, rfl, HB1.out, by rw [HL.out, HN.out], hds2, by rw [Nat.add_assoc]; exact h1, fun j hj => h2 j (by omega), hrow2, htch⟩

/-- What back leaves: ys is given back from place i on; c is carried out of it. -/
def RetBack (g : Nat) (zs ys : List Nat) (i : Nat) (w : World) (e : Ending) (w' : World) : Prop :=
  ∃ (c : Nat) (xs : List Nat), e = .returned (.tuple #[]) ∧ xs.length = zs.length ∧ Ds 4294967296 xs ∧ dv 4294967296 xs + 4294967296 ^ (i + ys.length + 1) * c = dv 4294967296 zs + 4294967296 ^ i * dv 4294967296 ys ∧
    (∀ j, i + ys.length + 1 ≤ j → xs.getD j 0 = zs.getD j 0) ∧ Row .u32 w' g 65 xs ∧ Tch g w w'

set_option maxRecDepth 100000 in
set_option maxHeartbeats 6400000 in
theorem rback_c {B : Option Addr} {d g n i : Nat} {zs ys : List Nat} (w0 w : World) (hy : Rd .u32 w0 B d ys) (hds : Ds 4294967296 ys) (hb : Below w0.heap.size w0 w) (hg : w0.heap.size ≤ g) (hrow : Row .u32 w g 65 zs) (hn : zs.length = n)
    (hz : Ds 4294967296 zs) (hi : i + ys.length < n) (hl : n ≤ 33554432) :
    Calls Tryd.prog 71 #[.slice (some ⟨g, 0, none⟩) n n, .slice B ys.length d, .int .i64 i] w (RetBack g zs ys i w) := by
  have HN := Lib.hid hn
  clear hn
  go_enter Tryd.func71, Tryd.ntmps71
  go_wp2_with fail
  go_loopw [6, 7, 8] (fun cr kk _ wr => ∃ (k c : Nat) (xs : List Nat), k ≤ ys.length + 1 ∧ cr = .int .u64 c ∧ kk = .int .i64 k ∧ c ≤ 1 ∧ xs.length = n ∧ Ds 4294967296 xs ∧ BackInv zs ys i k c xs ∧ Row .u32 wr g 65 xs ∧ Tch g w wr)
    (fun _ kk _ _ => ys.length + 1 - (intOf kk).toNat)
  case atStart => exact ⟨0, 0, zs, by omega, rfl, rfl, by omega, HN.out, hz, ⟨by simp [dv], fun _ _ => rfl⟩, hrow, Tch.refl _ _⟩
  case round =>
    obtain ⟨k, c, xs, hk, rfl, rfl, hc1, hlen, hds2, hinv, hrow2, htch⟩ := hrel
    have HL := Lib.hid hlen
    have R2 := Lib.hid ((hy.below (htch.below hb hg)))
    clear hlen hrow hz
    by_cases hlt : k ≤ ys.length
    · obtain ⟨x, ex⟩ : ∃ x, x = xs.getD (i + k) 0 := ⟨_, rfl⟩
      obtain ⟨y, ey⟩ : ∃ y, y = ys.getD k 0 := ⟨_, rfl⟩
      have bx : x < 4294967296 := by rw [ex]; exact hds2.get (by omega) _
      have by_ : y < 4294967296 := by rw [ey]; exact hds.get (by omega) _
      have cx := hrow2.cell (i + k) (by rw [HL.out]; omega)
      have fx := hrow2.frozen (i + k)
      rw [← ex] at cx
      obtain ⟨s0, es0⟩ : ∃ s0, s0 = x + c := ⟨_, rfl⟩
      obtain ⟨s, es⟩ : ∃ s, s = x + c + y := ⟨_, rfl⟩
      obtain ⟨lo, elo⟩ : ∃ lo, lo = s % 4294967296 := ⟨_, rfl⟩
      obtain ⟨hi', ehi⟩ : ∃ hi', hi' = s / 4294967296 := ⟨_, rfl⟩
      have vx : IntKind.u64.wrap (x : Int) = (x : Int) := IntWalk.u64_in _ (by omega)
      have v0 : IntKind.u64.wrap ((x : Int) + c) = (s0 : Int) := by rw [IntWalk.u64_in _ (by omega)]; omega
      have vhi : (s : Int) / 4294967296 = (hi' : Int) := by omega
      have vlo : IntKind.u32.wrap (s : Int) = (lo : Int) := by rw [IntKind.wrap_u32']; omega
      have hst := back_step hinv (s := s) (by rw [HL.out]; omega) (by rw [← ex, ← ey]; exact es)
      rw [← elo, ← ehi] at hst
      have hfin : lo < 4294967296 ∧ hi' ≤ 1 := by omega
      have hlast : k = ys.length → s = s0 := fun hk => by
        have hy0 : y = 0 := by rw [ey, List.getD_eq_getElem?_getD, List.getElem?_eq_none (by omega)]; rfl
        omega
      have vs : IntKind.u64.wrap ((s0 : Int) + y) = (s : Int) := by rw [IntWalk.u64_in _ (by omega)]; omega
      have vy : IntKind.u64.wrap (y : Int) = (y : Int) := IntWalk.u64_in _ (by omega)
      have HF := Lib.hid hfin
      have HS := Lib.hid hst
      have HLast := Lib.hid hlast
      have EY := Lib.hid ey
      clear hlast ex ey es es0 elo ehi bx by_ hfin hst
      rcases Nat.lt_or_ge k ys.length with hkl | hkl
      · obtain ⟨b2, o2, rfl, hb2, hc2⟩ := R2.out.at_ (by omega)
        have cy := hc2 k hkl
        rw [← EY.out] at cy
        clear hc2
        go_wp2_with fail
        go_roundw
        case rel =>
          exact ⟨k + 1, hi', xs.set (i + k) lo, by omega, rfl, by go_num, HF.out.2, by rw [List.length_set]; exact HL.out, hds2.set _ _ HF.out.1, HS.out, hrow2.set _ _, htch.trans (Tch.put _ _ _ _)⟩
        case measure => simp [intOf] <;> omega
      · obtain rfl : k = ys.length := by omega
        obtain rfl := HLast.out rfl
        go_wp2_with fail
        go_roundw
        case rel =>
          exact ⟨ys.length + 1, hi', xs.set (i + ys.length) lo, by omega, rfl, by go_num, HF.out.2, by rw [List.length_set]; exact HL.out, hds2.set _ _ HF.out.1, HS.out, hrow2.set _ _, htch.trans (Tch.put _ _ _ _)⟩
        case measure => simp [intOf] <;> omega
    · obtain rfl : k = ys.length + 1 := by omega
      go_wp2_with fail
      go_end0
      obtain ⟨h1, h2⟩ := hinv
      rw [List.take_of_length_le (by omega)] at h1
      exact ⟨c, xs, rfl, by rw [HL.out, HN.out], hds2, by rw [Nat.add_assoc]; exact h1, fun j hj => h2 j (by omega), hrow2, htch⟩
end Go.Proofs.YteaafnjflghlhaaDoor
