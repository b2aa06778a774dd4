/- The contracts of package quarryref02's Of and From. -/
import Derived.Test.YtihffojljbgpcaaRAdd
import Derived.Test.YtihffojljbgpcaaDig2
import Derived.BigRegion
namespace Go.Proofs.Ytihffojljbgpcaa
open Go.RowKit

set_option maxRecDepth 100000 in
set_option maxHeartbeats 3200000 in
theorem rof_c (n : Nat) (hn : n < 18446744073709551616) (w : World) : Calls Try.prog 97 #[.int .u64 n] w (RetR (fun w' v => Num w' v n 2) w) := by
  obtain ⟨lo, elo⟩ : ∃ lo, lo = n % 4294967296 := ⟨_, rfl⟩
  obtain ⟨hi, ehi⟩ : ∃ hi, hi = n / 4294967296 := ⟨_, rfl⟩
  have vlo : IntKind.u32.wrap (n : Int) = (lo : Int) := by rw [IntKind.wrap_u32']; omega
  have hhi : (n : Int) / 4294967296 = (hi : Int) := by omega
  have vhi : IntKind.u32.wrap (hi : Int) = (hi : Int) := IntWalk.u32_in _ (by omega)
  have hd : Ds 4294967296 [lo, hi] := Ds.mk (by omega) (Ds.mk (by omega) Ds.nil)
  have hv : dv 4294967296 [lo, hi] = n := by simp only [dv]; omega
  have HD := Lib.hid hd
  have HV := Lib.hid hv
  clear elo ehi hn hd hv
  go_enter Try.func97, Try.ntmps97
  go_wp2_with fail
  have hrow := Row.new (k := .u32) w 56 [lo, hi]
  refine (rtrim_n _ hrow.rd0 rfl HD.out (show 2 ≤ 67108864 by omega)).mono ?_
  rintro e w' ⟨v, rfl, hv, rfl⟩
  rw [HV.out] at hv
  have HV2 := Lib.hid hv
  clear hv hrow
  go_wp2_with fail
  go_ret
  exact ⟨v, rfl, HV2.out, (Below.refl _ _).alloc (Nat.le_refl _) _⟩

set_option maxRecDepth 100000 in
set_option maxHeartbeats 3200000 in
theorem rfrom_c {A : Option Addr} {c : Nat} {bs : List Nat} (w : World) (h : Rd .u8 w A c bs) (hb : Ds 256 bs) (hl : bs.length ≤ 16777216) :
    Calls Try.prog 74 #[.slice A bs.length c] w (RetR (fun w' v => Num w' v (dv 256 bs.reverse) ((bs.length + 3) / 4)) w) := by
  have hmk := mk32 (((bs.length : Int) + 3) / 4) ((bs.length + 3) / 4) (by omega) (by omega)
  have hk0 := Lib.hid (Row.made (k := .u32) w 56 ((bs.length + 3) / 4))
  have hb0 : Hid (Below w.heap.size w (w.alloc (.cells (madeCells #[Value.int .u32 0] ((bs.length + 3) / 4)) 56))) := (Below.refl _ _).alloc (Nat.le_refl _) _
  have HB := Lib.hid hb
  clear hb
  go_enter Try.func74, Try.ntmps74
  go_wp2_with fail
  clear hmk
  go_loopw [4, 5] (fun i _ wr => ∃ (k : Nat) (zs : List Nat), k ≤ bs.length ∧ i = .int .i64 k ∧ zs.length = (bs.length + 3) / 4 ∧ Ds 4294967296 zs ∧ FromInv bs.reverse k zs ∧ Row .u32 wr w.heap.size 56 zs ∧ Below w.heap.size w wr)
    (fun i _ _ => bs.length - (intOf i).toNat)
  case atStart =>
    exact ⟨0, List.replicate ((bs.length + 3) / 4) 0, by omega, rfl, List.length_replicate, Ds.zeros (by omega) _, by simp [FromInv, dv_zeros, dv], hk0.out, hb0.out⟩
  case round =>
    obtain ⟨k, zs, hk, rfl, hlen, hds, hinv, hrow, hbel⟩ := hrel
    have HL := Lib.hid hlen
    have R1 := Lib.hid (h.below hbel)
    clear hlen h hk0 hb0
    by_cases hlt : k < bs.length
    · obtain ⟨b1, o1, rfl, hb1, hc1⟩ := R1.out.at_ (by omega)
      have cx := hc1 (bs.length - 1 - k) (by omega)
      obtain ⟨x, ex⟩ : ∃ x, x = bs.getD (bs.length - 1 - k) 0 := ⟨_, rfl⟩
      obtain ⟨z, ez⟩ : ∃ z, z = zs.getD (k / 4) 0 := ⟨_, rfl⟩
      rw [← ex] at cx
      have cz := hrow.cell (k / 4) (by rw [HL.out]; omega)
      have fz := hrow.frozen (k / 4)
      rw [← ez] at cz
      have bx : x < 256 := by rw [ex]; exact HB.out.get (by omega) _
      have bz : z < 2 ^ (8 * (k % 4)) := by rw [ez]; exact from_carry hinv HB.out.reverse hds (by rw [List.length_reverse]; exact hk)
      obtain ⟨hl1, hl2, hl3⟩ := from_lo bx (Nat.mod_lt k (by omega : 0 < 4))
      have hl3 := hl3 z bz
      have hst := from_step hinv (by rw [List.length_reverse]; exact hlt) (by rw [HL.out]; omega)
      rw [rev_get bs k hlt, ← ex, ← ez] at hst
      obtain ⟨W, eW⟩ : ∃ W, W = x * 2 ^ (8 * (k % 4)) := ⟨_, rfl⟩
      rw [← eW] at hl1 hl2 hl3 hst
      obtain ⟨t, et⟩ : ∃ t, t = z + W := ⟨_, rfl⟩
      have vor := or_join bz hl1 hl3
      rw [← et] at vor hst
      have vx : IntKind.u32.wrap (x : Int) = (x : Int) := IntWalk.u32_in _ (by omega)
      have vW : IntKind.u32.wrap ((x : Int) * 2 ^ (8 * (k % 4))) = (W : Int) := by
        have e : (x : Int) * 2 ^ (8 * (k % 4)) = ((x * 2 ^ (8 * (k % 4)) : Nat) : Int) := by simp
        rw [e, ← eW]; exact IntWalk.u32_in _ (by omega)
      have vW' : (x : Int) * 2 ^ (8 * (k % 4)) % 4294967296 = (W : Int) := by rw [← vW, IntKind.wrap_u32']
      have ht : t < 4294967296 := by omega
      have HT := Lib.hid ht
      have HS := Lib.hid hst
      clear hc1 ex ez bx bz hl1 hl2 hl3 hst eW et ht
      go_wp2_with fail
      go_region
      all_goals
        go_wp2_with fail
        go_roundw
        case rel =>
          refine ⟨k + 1, zs.set (k / 4) t, by omega, by go_num, by rw [List.length_set]; exact HL.out, hds.set _ _ HT.out, HS.out, ?_, ?_⟩
          · first | exact (hrow.set _ _).drew | trace_state
          · exact (hbel.setCell (Nat.le_refl _) _).drew
        case measure => simp [intOf] <;> omega
    · obtain rfl : k = bs.length := by omega
      go_wp2_with fail
      have he := hinv
      unfold FromInv at he
      rw [List.take_of_length_le (by rw [List.length_reverse]; exact Nat.le_refl _)] at he
      have hrd := hrow.rd0
      rw [HL.out] at hrd
      refine (rtrim_n _ hrd HL.out hds (by omega)).mono ?_
      rintro e w' ⟨v, rfl, hv, rfl⟩
      rw [he] at hv
      have HV := Lib.hid hv
      clear hv he hrd
      go_wp2_with fail
      go_ret
      exact ⟨v, rfl, HV.out, hbel⟩
theorem rfrom_n {v : Value} {bs : List Nat} (w : World) (h : Byt w v bs) (hl : bs.length ≤ 16777216) :
    Calls Try.prog 74 #[v] w (RetR (fun w' v => Num w' v (dv 256 bs.reverse) ((bs.length + 3) / 4)) w) := by
  obtain ⟨A, c, rfl, h1, h2⟩ := h
  exact rfrom_c w h1 h2 hl
end Go.Proofs.Ytihffojljbgpcaa
