/- The contracts of package quarryref01's N, W and top: a word as a number, and back. -/
import Derived.Test.YtiflfcdegpmhnaaRFrom
import Derived.Test.YtiflfcdegpmhnaaRShl
import Derived.Test.YtiflfcdegpmhnaaWordMath
import Derived.BigRegion
namespace Go.Proofs.Ytiflfcdegpmhnaa
open Go.RowKit

theorem vl_dv (xs : List Nat) : vl xs = dv 18446744073709551616 xs := by
  induction xs with
  | nil => rfl
  | cons x xs ih => simp only [vl, dv, ih]
/-- A byte of a word, by its limbs. -/
theorem byte_of_limb {xs : List Nat} (h : Lims xs) (i k : Nat) (hk : k < 8) : xs.getD i 0 / 2 ^ (8 * k) % 256 = vl xs / 256 ^ (8 * i + k) % 256 := by
  rw [vl_dv, ← dv_digit (B := 18446744073709551616) h (by omega) i]
  have e : (256 : Nat) ^ (8 * i + k) = 18446744073709551616 ^ i * 2 ^ (8 * k) := by
    rw [show (256 : Nat) = 2 ^ 8 by decide, show (18446744073709551616 : Nat) = 2 ^ 64 by decide, ← Nat.pow_mul, ← Nat.pow_mul, ← Nat.pow_add]
    congr 1
    omega
  rw [e, ← Nat.div_div_eq_div_mul]
  generalize dv 18446744073709551616 xs / 18446744073709551616 ^ i = q
  have h8 : k = 0 ∨ k = 1 ∨ k = 2 ∨ k = 3 ∨ k = 4 ∨ k = 5 ∨ k = 6 ∨ k = 7 := by omega
  rcases h8 with h | h | h | h | h | h | h | h <;> subst h <;> simp <;> omega

/-- The bytes that are gathered when t of them are still to come. -/
def Gath (a t : Nat) (bs : List Nat) : Prop := Ds 256 bs ∧ bs.length + t = 32 ∧ dv 256 bs.reverse = a / 256 ^ t
theorem gath_step {a t b : Nat} {bs : List Nat} (h : Gath a (t + 1) bs) (hb : b = a / 256 ^ t % 256) : Gath a t (bs ++ [b]) := by
  obtain ⟨h1, h2, h3⟩ := h
  refine ⟨h1.append (Ds.mk (by omega) Ds.nil), by simp; omega, ?_⟩
  rw [List.reverse_append, div_pow_succ, ← hb, ← h3]
  rfl

set_option maxRecDepth 100000 in
set_option maxHeartbeats 3200000 in
theorem rN_c {a0 a1 a2 a3 a : Nat} (ha : IsW a0 a1 a2 a3 a) (w : World) : Calls Try.prog 37 #[W4 a0 a1 a2 a3] w (RetR (fun w' v => Num w' v a 8) w) := by
  obtain ⟨i0, hi, hz0, hz1, hz2⟩ := info_parts info8
  have hal := ha.limsList
  have hav := ha.vals
  obtain ⟨ls, eas⟩ : ∃ ls, ls = [a0, a1, a2, a3] := ⟨_, rfl⟩
  have hbx := Arr.new4 w 24 a0 a1 a2 a3
  have hbel0 : Below w.heap.size w (w.alloc (.cells #[.int .u64 (a0 : Nat), .int .u64 (a1 : Nat), .int .u64 (a2 : Nat), .int .u64 (a3 : Nat)] 24)) := (Below.refl _ _).alloc (Nat.le_refl _) _
  rw [← eas] at hbx hal hav
  have hasl : ls.length = 4 := by rw [eas]; rfl
  have HAS := Lib.hid hasl
  have HBX := Lib.hid hbx
  have HAV := Lib.hid hav
  have HBe := Lib.hid hbel0
  have HBG := Lib.hid ha.big
  clear hbx hbel0 eas hasl ha hav
  go_enter Try.func37, Try.ntmps37
  go_wp2_with fail
  go_loopw [3, 4, 5] (fun v i _ wr => ∃ (n : Nat) (bs : List Nat), n ≤ 4 ∧ i = .int .i64 ((n : Int) - 1) ∧ Hid (Gath a (8 * n) bs) ∧ Acc wr (w.heap.size + 1) v bs ∧ Arr wr w.heap.size 24 ls ∧ Below w.heap.size w wr)
    (fun _ i _ _ => (intOf i + 1).toNat)
  case atStart =>
    refine ⟨4, [], by omega, by go_num, ⟨Ds.nil, by simp, ?_⟩, Acc.nil _ _, HBX.out, HBe.out⟩
    have := HBG.out
    unfold Big at this
    rw [Nat.div_eq_of_lt (by omega)]; rfl
  case round =>
    obtain ⟨n, bs, hn, rfl, hg, hacc, harr, hbel⟩ := hrel
    clear HBX HBe
    rcases Nat.eq_zero_or_pos n with rfl | hn0
    · have hb := hacc.byt hg.out.1
      have hv := hg.out.2.2
      have hlen := hg.out.2.1
      rw [show 8 * 0 = 0 by omega, Nat.pow_zero, Nat.div_one] at hv
      have hf := rfrom_n wr hb (by omega)
      rw [hv] at hf
      have HF := Lib.hid hf
      have HLn := Lib.hid hlen
      clear hf hv hlen hb hacc harr
      go_wp2_with fail
      (with_reducible refine HF.out.mono ?_)
      rintro e w' ⟨v, rfl, hv, hb⟩
      have HV := Lib.hid hv
      have HB := Lib.hid (hbel.trans (hb.mono hbel.size))
      clear hv hb hbel
      go_wp2_with fail
      go_ret
      exact ⟨_, rfl, HV.out.mono (by have := HLn.out; omega), HB.out⟩
    · obtain ⟨q, rfl⟩ : ∃ q, n = q + 1 := ⟨n - 1, by omega⟩
      rw [show (((q + 1 : Nat) : Int) - 1) = (q : Int) by omega]
      go_wp2_with fail
      obtain ⟨wo, ewo⟩ : ∃ wo : World, wo = wr := ⟨_, rfl⟩
      subst ewo
      go_loopw [3, 5] (fun v i wr => ∃ (m : Nat) (bs : List Nat), m ≤ 8 ∧ i = .int .i64 ((m : Int) - 1) ∧ Hid (Gath a (8 * q + m) bs) ∧ Acc wr (w.heap.size + 1) v bs ∧ Arr wr w.heap.size 24 ls ∧ Below w.heap.size w wr)
        (fun _ i _ => (intOf i + 1).toNat)
      case atStart =>
        refine ⟨8, bs, by omega, by go_num, ?_, hacc, harr, hbel⟩
        have := hg.out
        rwa [show 8 * (q + 1) = 8 * q + 8 by omega] at this
      case round =>
        clear hg hacc harr hbel
        obtain ⟨m, bs1, hm, rfl, hg, hacc, harr, hbel⟩ := hrel
        rcases Nat.eq_zero_or_pos m with rfl | hm0
        · go_wp2_with fail
          go_roundw
          case rel => exact ⟨q, bs1, by omega, by go_num, hg, hacc, harr, hbel⟩
          case measure => simp [intOf] <;> omega
        · obtain ⟨p, rfl⟩ : ∃ p, m = p + 1 := ⟨m - 1, by omega⟩
          rw [show (((p + 1 : Nat) : Int) - 1) = (p : Int) by omega]
          have cx := harr.cell q (by rw [HAS.out]; omega)
          obtain ⟨x, ex⟩ : ∃ x, x = ls.getD q 0 := ⟨_, rfl⟩
          rw [← ex] at cx
          obtain ⟨y, ey⟩ : ∃ y, y = x / 2 ^ (8 * p) := ⟨_, rfl⟩
          obtain ⟨b, eb⟩ : ∃ b, b = y % 256 := ⟨_, rfl⟩
          have hbyte : b = a / 256 ^ (8 * q + p) % 256 := by rw [eb, ey, ex, byte_of_limb hal q p (by omega), ← HAV.out]
          have vy : (x : Int) / 2 ^ (8 * p) = (y : Int) := by rw [ey]; simp
          have vb : IntKind.u8.wrap (y : Int) = (b : Int) := by rw [IntKind.wrap_u8']; omega
          have hnext := gath_step (t := 8 * q + p) (bs := bs1) (by have := hg.out; rwa [show 8 * q + (p + 1) = 8 * q + p + 1 by omega] at this) hbyte
          have HN := Lib.hid hnext
          have hbl : bs1.length ≤ 32 := by have := hg.out.2.1; omega
          clear ex ey eb hbyte hnext hg
          obtain ⟨A', c', rfl⟩ := hacc.form
          go_wp2_with (at_builtin; refine wpList_append_own _ rfl (.tmp 14) (.tmp 22) 54 rfl (w.heap.size + 1) 5 i0 (.int .u8 0) 1 1 Try.underlying54 hi hz0 hz1 hz2 rfl (by decide) _ _ _ rfl (World.ownsRow.alloc hacc _) ⟨wr.heap.size, 0, none⟩ 1 1 [.int .u8 (b : Int)] rfl rfl one_cells (by intro u hu; simp at hu; subst hu; rfl) (by unfold maxLen; omega) (by omega) (by have := harr.lt; simp; omega) ?_)
          intro v' w1 hown hgr _
          have hacc' : Acc w1 (w.heap.size + 1) v' (bs1 ++ [b]) := by unfold Acc; rw [bv_append, List.length_append]; exact hown
          have hbel' : Below w.heap.size w w1 := (hbel.alloc hbel.size _).grown hgr (by have := hbel.size; simp; omega) (fun k hk => by have := Acc.own hacc k hk; omega)
          have hbelA : Below (w.heap.size + 1) wr w1 := ((Below.refl _ wr).alloc (by have := harr.lt; omega) (.cells #[.int .u8 (b : Int)] 5)).grown hgr (by have := harr.lt; simp; omega) (fun k hk => Acc.own hacc k hk)
          have harr' := harr.below hbelA (by omega)
          have HA := Lib.hid hacc'
          have HBl := Lib.hid hbel'
          have HAr := Lib.hid harr'
          clear hown hgr hacc' hbel' hacc hbel harr harr' hbelA
          go_wp2_with fail
          go_roundw
          case rel => exact ⟨p, bs1 ++ [b], by omega, rfl, HN.out, HA.out, HAr.out, HBl.out⟩
          case measure => simp [intOf] <;> omega

end Go.Proofs.Ytiflfcdegpmhnaa
