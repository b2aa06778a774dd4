/- The contract of package quarryref02's Mul. -/
import Derived.Test.YtiflfcdegpmhnaaRAdd
namespace Go.Proofs.Ytiflfcdegpmhnaa
open Go.RowKit

theorem mul32 {x y z c : Nat} (hx : x < 4294967296) (hy : y < 4294967296) (hz : z < 4294967296) (hc : c < 4294967296) : x * y + z + c < 18446744073709551616 := by
  have : x * y ≤ 4294967295 * 4294967295 := Nat.mul_le_mul (by omega) (by omega)
  omega

set_option maxRecDepth 100000 in
set_option maxHeartbeats 3200000 in
theorem rmul_c {A B : Option Addr} {c d a b : Nat} {xs ys : List Nat} (w : World) (h : Rd .u32 w A c xs) (h' : Rd .u32 w B d ys) (hx : Can 4294967296 xs a) (hy : Can 4294967296 ys b) (hl : xs.length ≤ 16777216) (hl' : ys.length ≤ 16777216) :
    Calls Try.prog 71 #[.slice A xs.length c, .slice B ys.length d] w (RetR (fun w' v => Num w' v (a * b) (xs.length + ys.length)) w) := by
  have hmk := mk32 ((xs.length : Int) + ys.length) (xs.length + ys.length) (by omega) (by omega)
  have hrow0 := Row.made (k := .u32) w 98 (xs.length + ys.length)
  have hbel0 : Below w.heap.size w (w.alloc (.cells (madeCells #[Value.int .u32 0] (xs.length + ys.length)) 98)) := (Below.refl _ _).alloc (Nat.le_refl _) _
  have hk0 := Lib.hid hrow0
  have hb0 := Lib.hid hbel0
  clear hrow0 hbel0
  go_enter Try.func71, Try.ntmps71
  go_wp2_with fail
  clear hmk
  have hrow0 := hk0.out
  have hbel0 := hb0.out
  clear hk0 hb0
  have HX := Lib.hid hx
  have HY := Lib.hid hy
  clear hx hy
  go_loopw [6, 7, 8, 9] (fun i _ _ _ wr => ∃ (n : Nat) (zs : List Nat), n ≤ xs.length ∧ i = .int .i64 n ∧ zs.length = xs.length + ys.length ∧ Ds 4294967296 zs ∧ ProdOut 4294967296 xs ys n zs ∧ Row .u32 wr w.heap.size 98 zs ∧ Below w.heap.size w wr)
    (fun i _ _ _ _ => xs.length - (intOf i).toNat)
  case atStart =>
    exact ⟨0, List.replicate (xs.length + ys.length) 0, by omega, rfl, List.length_replicate, Ds.zeros (by omega) _, ⟨by simp [dv_zeros, dv], fun j hj => by
      rw [List.getD_eq_getElem?_getD, List.getElem?_replicate]; split <;> rfl⟩, hrow0, hbel0⟩
  case round =>
    obtain ⟨n, zs, hn, rfl, hlen, hds, hinv, hrow, hbel⟩ := hrel
    have HL := Lib.hid hlen
    clear hlen hrow0 hbel0
    by_cases hlt : n < xs.length
    · go_wp2_with fail
      obtain ⟨wo, ewo⟩ : ∃ wo : World, wo = wr := ⟨_, rfl⟩
      subst ewo
      go_loopw [7, 8, 9] (fun cr k _ wr => ∃ (m cc : Nat) (zs : List Nat), m ≤ ys.length ∧ cr = .int .u64 cc ∧ k = .int .i64 m ∧ Hid (cc < 4294967296) ∧ zs.length = xs.length + ys.length ∧ Ds 4294967296 zs ∧ ProdIn 4294967296 xs ys n m cc zs ∧ Row .u32 wr w.heap.size 98 zs ∧ Below w.heap.size w wr)
        (fun _ k _ _ => ys.length - (intOf k).toNat)
      case atStart => exact ⟨0, 0, zs, by omega, rfl, rfl, (by omega : 0 < 4294967296), HL.out, hds, dprod_start hinv, hrow, hbel⟩
      case round =>
        obtain ⟨m, cc, zs1, hm, rfl, rfl, hcc, hlen, hds1, hinv1, hrow1, hbel1⟩ := hrel
        have HL1 := Lib.hid hlen
        clear hlen hds hinv hrow hbel
        have R1 := Lib.hid (h.below hbel1)
        have R2 := Lib.hid (h'.below hbel1)
        by_cases hmlt : m < ys.length
        · obtain ⟨x, ex⟩ : ∃ x, x = xs.getD n 0 := ⟨_, rfl⟩
          obtain ⟨y, ey⟩ : ∃ y, y = ys.getD m 0 := ⟨_, rfl⟩
          obtain ⟨z, ez⟩ : ∃ z, z = zs1.getD (n + m) 0 := ⟨_, rfl⟩
          have bx : x < 4294967296 := by rw [ex]; exact HX.out.1.get (by omega) _
          have by_ : y < 4294967296 := by rw [ey]; exact HY.out.1.get (by omega) _
          have bz : z < 4294967296 := by rw [ez]; exact hds1.get (by omega) _
          have cz := hrow1.cell (n + m) (by rw [HL1.out]; omega)
          have fz := hrow1.frozen (n + m)
          rw [← ez] at cz
          have hc2 := R2.out.at_ (by omega)
          have hc1 := R1.out.at_ (by omega)
          have HA := Lib.hid h
          have HB := Lib.hid h'
          clear h h' R1 R2
          obtain ⟨b1, o1, rfl, hb1, hc1⟩ := hc1
          obtain ⟨b2, o2, rfl, hb2, hc2⟩ := hc2
          have cx := hc1 n hlt
          have cy := hc2 m hmlt
          rw [← ex] at cx
          rw [← ey] at cy
          have hS := mul32 bx by_ bz hcc.out
          obtain ⟨p, ep⟩ : ∃ p, p = x * y := ⟨_, rfl⟩
          obtain ⟨s, es⟩ : ∃ s, s = x * y + z + cc := ⟨_, rfl⟩
          obtain ⟨q, eq⟩ : ∃ q, q = p + z := ⟨_, rfl⟩
          have vx : IntKind.u64.wrap (x : Int) = (x : Int) := IntWalk.u64_in _ (by omega)
          have vy : IntKind.u64.wrap (y : Int) = (y : Int) := IntWalk.u64_in _ (by omega)
          have vz : IntKind.u64.wrap (z : Int) = (z : Int) := IntWalk.u64_in _ (by omega)
          have vp : IntKind.u64.wrap ((x : Int) * y) = (p : Int) := by rw [ep, IntWalk.u64_in _ (by rw [← Int.natCast_mul]; omega)]; simp
          have vq : IntKind.u64.wrap ((p : Int) + z) = (q : Int) := by rw [IntWalk.u64_in _ (by omega)]; omega
          have vs : IntKind.u64.wrap ((q : Int) + cc) = (s : Int) := by rw [IntWalk.u64_in _ (by omega)]; omega
          have j1 : IntKind.i64.wrap ((n : Int) + m) = ((n + m : Nat) : Int) := by rw [IntWalk.i64_in _ (by omega)]; omega
          have u1 : ((n + m : Nat) : Int) < ((xs.length + ys.length : Nat) : Int) := by omega
          have lo : IntKind.u32.wrap (s : Int) = ((s % 4294967296 : Nat) : Int) := by rw [IntKind.wrap_u32']; omega
          have HS := Lib.hid es
          have EX := Lib.hid ex
          have EY := Lib.hid ey
          have EZ := Lib.hid ez
          have HSb := Lib.hid hS
          clear ex ey ez ep es eq bx by_ bz hS hc1 hc2
          go_wp2_with fail
          go_quiet (fail)
          go_wp2_with fail
          go_roundw
          case rel =>
            refine ⟨m + 1, s / 4294967296, zs1.set (n + m) (s % 4294967296), by omega, by simp, by go_num, ?_, by rw [List.length_set]; exact HL1.out, hds1.set _ _ (Nat.mod_lt _ (by omega)), ?_, (hrow1.drewN _).set' _ _ _ (by omega), (hbel1.trans (Below.drewN_ _ _ _)).setCell (Nat.le_refl _) _⟩
            · show _ < _
              have := HSb.out
              rw [HS.out]
              exact Nat.div_lt_of_lt_mul (by omega)
            · exact dprod_step hinv1 hmlt (by rw [HL1.out]; omega) (by rw [HS.out, EX.out, EY.out, EZ.out])
          case measure => simp [intOf] <;> omega
        · obtain rfl : m = ys.length := by omega
          have hcc2 := hcc.out
          have cz := hrow1.cell (n + ys.length) (by rw [HL1.out]; omega)
          have fz := hrow1.frozen (n + ys.length)
          have lo : IntKind.u32.wrap (cc : Int) = (cc : Int) := IntWalk.u32_in _ (by omega)
          have HC2 := Lib.hid hcc2
          clear hcc2
          go_wp2_with fail
          go_roundw
          case rel =>
            exact ⟨n + 1, zs1.set (n + ys.length) cc, by omega, by go_num, by rw [List.length_set]; exact HL1.out, hds1.set _ _ HC2.out, dprod_end hinv1 hlt (by rw [HL1.out]; omega), hrow1.set _ _, hbel1.setCell (Nat.le_refl _) _⟩
          case measure => simp [intOf] <;> omega
    · obtain rfl : n = xs.length := by omega
      go_wp2_with fail
      have he := hinv.1
      rw [List.take_length, HX.out.2.1, HY.out.2.1] at he
      have hrd := hrow.rd0
      rw [HL.out] at hrd
      refine (rtrim_n _ hrd HL.out hds (by omega)).mono ?_
      rintro e w' ⟨v, rfl, hv, rfl⟩
      rw [he] at hv
      have HV := Lib.hid hv
      clear hv he hrd
      go_wp2_with fail
      go_ret
      exact ⟨v, rfl, HV.out, hbel⟩
theorem rmul_n {u v : Value} {a b L M : Nat} (w : World) (h : Num w u a L) (h' : Num w v b M) (hL : L ≤ 16777216) (hM : M ≤ 16777216) :
    Calls Try.prog 71 #[u, v] w (RetR (fun w' v => Num w' v (a * b) (L + M)) w) := by
  obtain ⟨A, c, xs, rfl, h1, h2, h3⟩ := h
  obtain ⟨B, d, ys, rfl, g1, g2, g3⟩ := h'
  exact (rmul_c w h1 g1 h2 g2 (by omega) (by omega)).mono fun e w' ⟨v, he, hv, hb⟩ => ⟨v, he, hv.mono (by omega), hb⟩
end Go.Proofs.Ytiflfcdegpmhnaa
