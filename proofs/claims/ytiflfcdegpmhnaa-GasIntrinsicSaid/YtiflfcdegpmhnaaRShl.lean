/- The contracts of package quarryref02's Shl and Shr. -/
import Derived.Test.YtiflfcdegpmhnaaRAdd
import Derived.Test.YtiflfcdegpmhnaaDig
namespace Go.Proofs.Ytiflfcdegpmhnaa
open Go.RowKit

set_option maxRecDepth 100000 in
set_option maxHeartbeats 3200000 in
theorem rshr_c {A : Option Addr} {c a : Nat} {xs : List Nat} (w : World) (h : Rd .u32 w A c xs) (hx : Can 4294967296 xs a) (hl : xs.length ≤ 16777216) (n : Nat) (hn : n ≤ 536870912) :
    Calls Try.prog 46 #[.slice A xs.length c, .int .i64 n] w (RetR (fun w' v => Num w' v (a / 2 ^ n) xs.length) w) := by
  by_cases hs : xs.length ≤ n / 32
  · have he : a / 2 ^ n = 0 := by
      refine Nat.div_eq_of_lt (Nat.lt_of_lt_of_le hx.lt ?_)
      rw [pow32]
      exact Nat.pow_le_pow_right (by omega) (by omega)
    rw [he]
    clear he hx h
    go_enter Try.func46, Try.ntmps46
    go_wp2_with fail
    go_ret
    exact ⟨_, rfl, (Num.nil w).mono (Nat.zero_le _), Below.refl _ _⟩
  · have hmk := mk32 ((xs.length : Int) - (n : Int) / 32) (xs.length - n / 32) (by omega) (by omega)
    have hk0 := Lib.hid (Row.made (k := .u32) w 98 (xs.length - n / 32))
    have hb0 : Hid (Below w.heap.size w (w.alloc (.cells (madeCells #[Value.int .u32 0] (xs.length - n / 32)) 98))) := (Below.refl _ _).alloc (Nat.le_refl _) _
    have HX := Lib.hid hx
    clear hx
    go_enter Try.func46, Try.ntmps46
    go_wp2_with fail
    clear hmk
    go_loopw [6, 7] (fun i _ wr => ∃ (k : Nat) (zs : List Nat), k + n / 32 ≤ xs.length ∧ i = .int .i64 k ∧ zs.length = xs.length - n / 32 ∧ Ds 4294967296 zs ∧
        Hid (∀ i, i < k → zs.getD i 0 = (xs.getD (i + n / 32) 0 + 4294967296 * xs.getD (i + n / 32 + 1) 0) / 2 ^ (n % 32) % 4294967296) ∧ Row .u32 wr w.heap.size 98 zs ∧ Below w.heap.size w wr)
      (fun i _ _ => xs.length - (intOf i).toNat)
    case atStart =>
      exact ⟨0, List.replicate (xs.length - n / 32) 0, by omega, rfl, List.length_replicate, Ds.zeros (by omega) _, fun i hi => by omega, hk0.out, hb0.out⟩
    case round =>
      obtain ⟨k, zs, hk, rfl, hlen, hds, hinv, hrow, hbel⟩ := hrel
      have HL := Lib.hid hlen
      have R1 := Lib.hid (h.below hbel)
      clear hlen h hk0 hb0
      by_cases hlt : k < xs.length - n / 32
      · obtain ⟨b1, o1, rfl, hb1, hc1⟩ := R1.out.at_ (by omega)
        have cx := hc1 (k + n / 32) (by omega)
        obtain ⟨x, ex⟩ : ∃ x, x = xs.getD (k + n / 32) 0 := ⟨_, rfl⟩
        obtain ⟨y, ey⟩ : ∃ y, y = xs.getD (k + n / 32 + 1) 0 := ⟨_, rfl⟩
        rw [← ex] at cx
        have cz := hrow.cell k (by rw [HL.out]; omega)
        have fz := hrow.frozen k
        have bx : x < 4294967296 := by rw [ex]; exact HX.out.1.get (by omega) _
        have by_ : y < 4294967296 := by rw [ey]; exact HX.out.1.get (by omega) _
        obtain ⟨W, eW⟩ : ∃ W, W = x + 4294967296 * y := ⟨_, rfl⟩
        obtain ⟨q, eq⟩ : ∃ q, q = W / 2 ^ (n % 32) := ⟨_, rfl⟩
        obtain ⟨t, et⟩ : ∃ t, t = q % 4294967296 := ⟨_, rfl⟩
        have hnew : t = (xs.getD (k + n / 32) 0 + 4294967296 * xs.getD (k + n / 32 + 1) 0) / 2 ^ (n % 32) % 4294967296 := by rw [et, eq, eW, ex, ey]
        have vx : IntKind.u64.wrap (x : Int) = (x : Int) := IntWalk.u64_in _ (by omega)
        have vy : IntKind.u64.wrap (y : Int) = (y : Int) := IntWalk.u64_in _ (by omega)
        have vsh : IntKind.u64.wrap ((y : Int) * 4294967296) = ((4294967296 * y : Nat) : Int) := by rw [IntWalk.u64_in _ (by omega)]; omega
        obtain ⟨Y, eY⟩ : ∃ Y, Y = 4294967296 * y := ⟨_, rfl⟩
        rw [← eY] at vsh
        have vor : bits .or .u64 (x : Int) (Y : Int) = (W : Int) := by
          rw [u64_or_nat x Y (by omega) (by omega), Nat.or_comm, nat_join 32 Y x (by rw [eY]; exact Nat.mul_mod_right _ _) (by omega), eW, eY]
          omega
        have vq : (W : Int) / 2 ^ (n % 32) = (q : Int) := by rw [eq]; simp
        have vt : IntKind.u32.wrap (q : Int) = (t : Int) := by rw [IntKind.wrap_u32']; omega
        have ht : t < 4294967296 := by omega
        have hy0 : xs.length ≤ k + n / 32 + 1 → W = x := fun hh => by
          have : y = 0 := by rw [ey, List.getD_eq_getElem?_getD, List.getElem?_eq_none hh]; rfl
          omega
        have HT := Lib.hid ht
        have HN := Lib.hid hnew
        have HY := Lib.hid hy0
        have EY := Lib.hid ey
        clear ex bx by_ eW eq et hnew eY ht hy0 ey
        have fin : ∀ j, j < k + 1 → (zs.set k t).getD j 0 = (xs.getD (j + n / 32) 0 + 4294967296 * xs.getD (j + n / 32 + 1) 0) / 2 ^ (n % 32) % 4294967296 := fun j hj => by
          rcases Nat.lt_or_ge j k with hjk | hjk
          · rw [getD_set_ne (by omega)]; exact hinv.out j hjk
          · obtain rfl : j = k := by omega
            rw [getD_set_self (by rw [HL.out]; omega)]; exact HN.out
        have FIN := Lib.hid fin
        clear fin
        by_cases hk1 : k + n / 32 + 1 < xs.length
        · have cy := hc1 (k + n / 32 + 1) (by omega)
          rw [← EY.out] at cy
          clear hc1
          go_wp2_with fail
          go_roundw
          case rel =>
            exact ⟨k + 1, zs.set k t, by omega, by go_num, by rw [List.length_set]; exact HL.out, hds.set _ _ HT.out, FIN.out, hrow.set _ _, hbel.setCell (Nat.le_refl _) _⟩
          case measure => simp [intOf] <;> omega
        · have e := HY.out (by omega)
          rw [e] at vq
          clear hc1 vor vsh e
          go_wp2_with fail
          go_roundw
          case rel =>
            exact ⟨k + 1, zs.set k t, by omega, by go_num, by rw [List.length_set]; exact HL.out, hds.set _ _ HT.out, FIN.out, hrow.set _ _, hbel.setCell (Nat.le_refl _) _⟩
          case measure => simp [intOf] <;> omega
      · obtain rfl : k = xs.length - n / 32 := by omega
        go_wp2_with fail
        have he := shr_end HX.out.1 HL.out (by omega) (by rw [HL.out]; exact hinv.out)
        rw [HX.out.2.1] at he
        have hrd := hrow.rd0
        rw [HL.out] at hrd
        refine (rtrim_n _ hrd HL.out hds (by omega)).mono ?_
        rintro e w' ⟨v, rfl, hv, rfl⟩
        rw [he] at hv
        have HV := Lib.hid (hv.mono (L' := xs.length) (by omega))
        clear hv he hrd
        go_wp2_with fail
        go_ret
        exact ⟨v, rfl, HV.out, hbel⟩
theorem rshr_n {u : Value} {a L : Nat} (w : World) (h : Num w u a L) (hL : L ≤ 16777216) (n : Nat) (hn : n ≤ 536870912) :
    Calls Try.prog 46 #[u, .int .i64 n] w (RetR (fun w' v => Num w' v (a / 2 ^ n) L) w) := by
  obtain ⟨A, c, xs, rfl, h1, h2, h3⟩ := h
  exact (rshr_c w h1 h2 (by omega) n hn).mono fun e w' ⟨v, he, hv, hb⟩ => ⟨v, he, hv.mono h3, hb⟩
end Go.Proofs.Ytiflfcdegpmhnaa
