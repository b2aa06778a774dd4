/- The contracts of package quarryref02's Shl and Shr. -/
import Derived.Test.YtgmpoefgcimaiaaRAdd
import Derived.Test.YtgmpoefgcimaiaaDig
namespace Go.Proofs.Ytgmpoefgcimaiaa
open Go.RowKit

set_option maxRecDepth 100000 in
set_option maxHeartbeats 3200000 in
theorem rshl_c {A : Option Addr} {c a : Nat} {xs : List Nat} (w : World) (h : Rd .u32 w A c xs) (hx : Can 4294967296 xs a) (hl : xs.length ≤ 16777216) (n : Nat) (hn : n ≤ 33554432) :
    Calls Try.prog 34 #[.slice A xs.length c, .int .i64 n] w (RetR (fun w' v => Num w' v (a * 2 ^ n) (xs.length + n / 32 + 1)) w) := by
  have hmk := mk32 ((xs.length : Int) + (n : Int) / 32 + 1) (xs.length + n / 32 + 1) (by omega) (by omega)
  have hk0 := Lib.hid (Row.made (k := .u32) w 99 (xs.length + n / 32 + 1))
  have hb0 : Hid (Below w.heap.size w (w.alloc (.cells (madeCells #[Value.int .u32 0] (xs.length + n / 32 + 1)) 99))) := (Below.refl _ _).alloc (Nat.le_refl _) _
  have HX := Lib.hid hx
  clear hx
  go_enter Try.func34, Try.ntmps34
  go_wp2_with fail
  clear hmk
  go_loopw [6, 7] (fun i _ wr => ∃ (k : Nat) (zs : List Nat), k ≤ xs.length ∧ i = .int .i64 k ∧ zs.length = xs.length + n / 32 + 1 ∧ Ds 4294967296 zs ∧ DShlInv xs n k zs ∧ Row .u32 wr w.heap.size 99 zs ∧ Below w.heap.size w wr)
    (fun i _ _ => xs.length - (intOf i).toNat)
  case atStart =>
    exact ⟨0, List.replicate (xs.length + n / 32 + 1) 0, by omega, rfl, List.length_replicate, Ds.zeros (by omega) _, ⟨by simp [dv_zeros, dv], fun j hj => by
      rw [List.getD_eq_getElem?_getD, List.getElem?_replicate]; split <;> rfl⟩, hk0.out, hb0.out⟩
  case round =>
    obtain ⟨k, zs, hk, rfl, hlen, hds, hinv, hrow, hbel⟩ := hrel
    have HL := Lib.hid hlen
    have R1 := Lib.hid (h.below hbel)
    clear hlen h hk0 hb0
    by_cases hlt : k < xs.length
    · obtain ⟨b1, o1, rfl, hb1, hc1⟩ := R1.out.at_ (by omega)
      have cx := hc1 k hlt
      obtain ⟨x, ex⟩ : ∃ x, x = xs.getD k 0 := ⟨_, rfl⟩
      obtain ⟨z, ez⟩ : ∃ z, z = zs.getD (k + n / 32) 0 := ⟨_, rfl⟩
      obtain ⟨o, eo⟩ : ∃ o, o = zs.getD (k + n / 32 + 1) 0 := ⟨_, rfl⟩
      rw [← ex] at cx
      have cz := hrow.cell (k + n / 32) (by rw [HL.out]; omega)
      have fz := hrow.frozen (k + n / 32)
      have co := hrow.cell (k + n / 32 + 1) (by rw [HL.out]; omega)
      have fo := hrow.frozen (k + n / 32 + 1)
      rw [← ez] at cz
      rw [← eo] at co
      have bx : x < 4294967296 := by rw [ex]; exact HX.out.1.get (by omega) _
      have bz : z < 2 ^ (n % 32) := by rw [ez]; exact dshl_carry hinv HX.out.1 hds hk
      have ho0 : o = 0 := by rw [eo]; exact hinv.2 _ (Nat.le_refl _)
      obtain ⟨hl1, hl2⟩ := dshl_lo (x := x) (r := n % 32) (Nat.mod_lt _ (by omega))
      have hl2 := hl2 z bz
      have hst := dshl_step hinv hlt (by rw [HL.out]; omega)
      rw [← ex, ← ez] at hst
      have hW : x * 2 ^ (n % 32) < 4294967296 * 4294967296 := by
        have h1 : 2 ^ (n % 32) ≤ 2 ^ 31 := Nat.pow_le_pow_right (by omega) (by omega)
        have := Nat.mul_le_mul (show x ≤ 4294967295 by omega) h1
        omega
      obtain ⟨W, eW⟩ : ∃ W, W = x * 2 ^ (n % 32) := ⟨_, rfl⟩
      rw [← eW] at hl1 hl2 hst hW
      obtain ⟨lo, elo⟩ : ∃ lo, lo = W % 4294967296 := ⟨_, rfl⟩
      obtain ⟨hi, ehi⟩ : ∃ hi, hi = W / 4294967296 := ⟨_, rfl⟩
      rw [← elo] at hl1 hl2 hst
      rw [← ehi] at hst
      obtain ⟨t, et⟩ : ∃ t, t = z + lo := ⟨_, rfl⟩
      have vor := or_join bz hl1 hl2
      rw [← et] at vor hst
      have vx : IntKind.u64.wrap (x : Int) = (x : Int) := IntWalk.u64_in _ (by omega)
      have vW : IntKind.u64.wrap ((x : Int) * 2 ^ (n % 32)) = (W : Int) := by
        have e : (x : Int) * 2 ^ (n % 32) = ((x * 2 ^ (n % 32) : Nat) : Int) := by simp
        rw [e, ← eW]; exact IntWalk.u64_in _ (by omega)
      have vlo : IntKind.u32.wrap (W : Int) = (lo : Int) := by rw [IntKind.wrap_u32']; omega
      have hhi : (W : Int) / 4294967296 = (hi : Int) := by omega
      have vhi : IntKind.u32.wrap (hi : Int) = (hi : Int) := IntWalk.u32_in _ (by omega)
      have vor2 : bits .or .u32 (o : Int) (hi : Int) = (hi : Int) := by
        have := or_join (z := o) (l := hi) (r := 0) (by omega) (Nat.mod_one _) (by omega)
        rw [this]; omega
      have hts : t < 4294967296 ∧ hi < 4294967296 := by omega
      have HT := Lib.hid hts
      have HS := Lib.hid hst
      clear hc1 ex ez eo bx bz ho0 hl1 hl2 hst hW eW elo ehi et hts
      go_wp2_with fail
      go_roundw
      case rel =>
        exact ⟨k + 1, (zs.set (k + n / 32) t).set (k + n / 32 + 1) hi, by omega, by go_num, by rw [List.length_set, List.length_set]; exact HL.out, (hds.set _ _ HT.out.1).set _ _ HT.out.2, HS.out, (hrow.set _ _).set _ _, (hbel.setCell (Nat.le_refl _) _).setCell (Nat.le_refl _) _⟩
      case measure => simp [intOf] <;> omega
    · obtain rfl : k = xs.length := by omega
      go_wp2_with fail
      have he := dshl_end hinv
      rw [HX.out.2.1] at he
      have hrd := hrow.rd0
      rw [HL.out] at hrd
      refine (rtrim_n _ hrd HL.out hds (by omega)).mono ?_
      rintro e w' ⟨v, rfl, hv, rfl⟩
      rw [he] at hv
      have HV := Lib.hid hv
      clear hv he hrd
      go_wp2_with fail
      go_ret
      exact ⟨v, rfl, HV.out, hbel⟩
theorem rshl_n {u : Value} {a L : Nat} (w : World) (h : Num w u a L) (hL : L ≤ 16777216) (n : Nat) (hn : n ≤ 33554432) :
    Calls Try.prog 34 #[u, .int .i64 n] w (RetR (fun w' v => Num w' v (a * 2 ^ n) (L + n / 32 + 1)) w) := by
  obtain ⟨A, c, xs, rfl, h1, h2, h3⟩ := h
  exact (rshl_c w h1 h2 (by omega) n hn).mono fun e w' ⟨v, he, hv, hb⟩ => ⟨v, he, hv.mono (by omega), hb⟩

end Go.Proofs.Ytgmpoefgcimaiaa
