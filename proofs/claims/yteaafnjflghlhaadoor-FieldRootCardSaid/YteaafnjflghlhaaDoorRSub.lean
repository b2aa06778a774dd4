/- The contract of package quarryref02's Sub. -/
import Derived.Test.YteaafnjflghlhaaDoorRAdd
namespace Go.Proofs.YteaafnjflghlhaaDoor
open Go.RowKit

set_option maxRecDepth 100000 in
set_option maxHeartbeats 3200000 in
theorem rsub_c {A B : Option Addr} {c d a b : Nat} {xs ys : List Nat} (w : World) (h : Rd .u32 w A c xs) (h' : Rd .u32 w B d ys) (hx : Can 4294967296 xs a) (hy : Can 4294967296 ys b) (hl : xs.length ≤ 16777216) (hab : b ≤ a) :
    Calls Tryd.prog 41 #[.slice A xs.length c, .slice B ys.length d] w (RetR (fun w' v => Num w' v (a - b) xs.length) w) := by
  have hyx : ys.length ≤ xs.length := hy.len_le (by omega) (Nat.lt_of_le_of_lt hab hx.lt)
  have hmk := mk32 (xs.length : Int) xs.length rfl (by omega)
  have HAB := Lib.hid hab
  clear hab
  go_enter Tryd.func41, Tryd.ntmps41
  go_wp2_with fail
  clear hmk
  go_loopw [6, 7, 8, 9] (fun cr i _ _ wr => ∃ (k cc : Nat) (zs : List Nat), k ≤ xs.length ∧ cr = .int .u64 cc ∧ i = .int .i64 k ∧ cc ≤ 1 ∧ zs.length = xs.length ∧ Ds 4294967296 zs ∧ DiffInv 4294967296 xs ys k cc zs ∧ Row .u32 wr w.heap.size 65 zs ∧ Below w.heap.size w wr)
    (fun _ i _ _ _ => xs.length - (intOf i).toNat)
  case atStart =>
    exact ⟨0, 0, List.replicate xs.length 0, by omega, rfl, rfl, by omega, List.length_replicate, Ds.zeros (by omega) _, by simp [DiffInv, dv], Row.made (k := .u32) w 65 xs.length, (Below.refl _ _).alloc (Nat.le_refl _) _⟩
  case round =>
    obtain ⟨k, cc, zs, hk, rfl, rfl, hc1, hlen, hds, hinv, hrow, hbel⟩ := hrel
    have R1 := Lib.hid (h.below hbel)
    have R2 := Lib.hid (h'.below hbel)
    have X := Lib.hid hx
    have Y := Lib.hid hy
    have HL := Lib.hid hlen
    clear h h' hx hy hlen
    by_cases hlt : k < xs.length
    · obtain ⟨x, ex⟩ : ∃ x, x = xs.getD k 0 := ⟨_, rfl⟩
      obtain ⟨y, ey⟩ : ∃ y, y = ys.getD k 0 := ⟨_, rfl⟩
      have bx : (x : Int) < 4294967296 := by have := X.out.1.get (by omega) k; omega
      have by_ : (y : Int) < 4294967296 := by have := Y.out.1.get (by omega) k; omega
      have hy2 : k < ys.length ∨ y = 0 := by
        rcases Nat.lt_or_ge k ys.length with h | h
        · exact .inl h
        · right; rw [ey, List.getD_eq_getElem?_getD, List.getElem?_eq_none h]; rfl
      have EX := Lib.hid ex
      have EY := Lib.hid ey
      have HY2 := Lib.hid hy2
      have cz := hrow.cell k (by rw [HL.out]; omega)
      have fz := hrow.frozen k
      obtain ⟨b1, o1, rfl, hb1, hc1'⟩ := R1.out.at_ (by omega)
      have cx := hc1' k hlt
      rw [← EX.out] at cx
      clear ex ey hy2 hc1'
      have hcx : IntKind.u64.wrap (x : Int) = (x : Int) := IntWalk.u64_in _ (by omega)
      have hcy : IntKind.u64.wrap (y : Int) = (y : Int) := IntWalk.u64_in _ (by omega)
      have BX := Lib.hid bx
      have BY := Lib.hid by_
      have HC1 := Lib.hid hc1
      clear bx by_ hc1
      by_cases ky : k < ys.length
      · obtain ⟨b2, o2, rfl, hb2, hc2⟩ := R2.out.at_ (by omega)
        have cy := hc2 k ky
        rw [← EY.out] at cy
        obtain ⟨s, es⟩ : ∃ s, s = cc + y := ⟨_, rfl⟩
        have hs : IntKind.u64.wrap ((cc : Int) + y) = (s : Int) := by rw [IntWalk.u64_in _ (by have := BY.out; have := HC1.out; omega)]; omega
        have hS0 : s = cc + y := es
        clear hc2
        have hsb : s ≤ 4294967296 ∧ s = cc + y := by have := BY.out; have := HC1.out; omega
        have HS := Lib.hid hsb
        clear hsb hS0 es
        by_cases hxy : x < s
        · have t1 : decide (x < s) = true := decide_eq_true hxy
          obtain ⟨z, ez⟩ : ∃ z, z = x + 4294967296 := ⟨_, rfl⟩
          have hadd : IntKind.u64.wrap ((x : Int) + 4294967296) = (z : Int) := by rw [IntWalk.u64_in _ (by have := BX.out; omega)]; omega
          obtain ⟨r, er⟩ : ∃ r, r = z - s := ⟨_, rfl⟩
          have hr : r < 4294967296 ∧ r + (cc + y) = x + 4294967296 := by have := HS.out; have := BX.out; omega
          have hsub : IntKind.u64.wrap ((z : Int) - s) = (r : Int) := by rw [IntWalk.u64_in _ (by have := HS.out; have := BX.out; omega)]; have := HS.out; omega
          have hcv : IntKind.u32.wrap (r : Int) = (r : Int) := IntWalk.u32_in _ (by omega)
          have HR := Lib.hid hr
          clear ez er hr hxy
          go_wp2_with fail
          go_roundw
          case rel =>
            exact ⟨k + 1, 1, zs.set k r, by omega, rfl, by go_num, by omega, by rw [List.length_set]; exact HL.out, hds.set _ _ HR.out.1, diff_lt hinv (by rw [HL.out]; omega) (by rw [← EX.out, ← EY.out]; exact HR.out.2), hrow.set k r, hbel.setCell (Nat.le_refl _) _⟩
          case measure => simp [intOf] <;> omega
        · have t1 : decide (x < s) = false := decide_eq_false hxy
          obtain ⟨r, er⟩ : ∃ r, r = x - s := ⟨_, rfl⟩
          have hr : r < 4294967296 ∧ r + (cc + y) = x := by have := HS.out; have := BX.out; omega
          have hsub : IntKind.u64.wrap ((x : Int) - s) = (r : Int) := by rw [IntWalk.u64_in _ (by have := HS.out; have := BX.out; omega)]; have := HS.out; omega
          have hcv : IntKind.u32.wrap (r : Int) = (r : Int) := IntWalk.u32_in _ (by omega)
          have HR := Lib.hid hr
          clear er hr hxy
          go_wp2_with fail
          go_roundw
          case rel =>
            exact ⟨k + 1, 0, zs.set k r, by omega, rfl, by go_num, by omega, by rw [List.length_set]; exact HL.out, hds.set _ _ HR.out.1, diff_ge hinv (by rw [HL.out]; omega) (by rw [← EX.out, ← EY.out]; exact HR.out.2), hrow.set k r, hbel.setCell (Nat.le_refl _) _⟩
          case measure => simp [intOf] <;> omega
      · have hy0 : y = 0 := by have := HY2.out; omega
        have hsb : cc ≤ 4294967296 ∧ cc = cc + y := by have := BY.out; have := HC1.out; omega
        have HS := Lib.hid hsb
        clear hsb hy0
        by_cases hxy : x < cc
        · have t1 : decide (x < cc) = true := decide_eq_true hxy
          obtain ⟨z, ez⟩ : ∃ z, z = x + 4294967296 := ⟨_, rfl⟩
          have hadd : IntKind.u64.wrap ((x : Int) + 4294967296) = (z : Int) := by rw [IntWalk.u64_in _ (by have := BX.out; omega)]; omega
          obtain ⟨r, er⟩ : ∃ r, r = z - cc := ⟨_, rfl⟩
          have hr : r < 4294967296 ∧ r + (cc + y) = x + 4294967296 := by have := HS.out; have := BX.out; omega
          have hsub : IntKind.u64.wrap ((z : Int) - cc) = (r : Int) := by rw [IntWalk.u64_in _ (by have := HS.out; have := BX.out; omega)]; have := HS.out; omega
          have hcv : IntKind.u32.wrap (r : Int) = (r : Int) := IntWalk.u32_in _ (by omega)
          have HR := Lib.hid hr
          clear ez er hr hxy
          go_wp2_with fail
          go_roundw
          case rel =>
            exact ⟨k + 1, 1, zs.set k r, by omega, rfl, by go_num, by omega, by rw [List.length_set]; exact HL.out, hds.set _ _ HR.out.1, diff_lt hinv (by rw [HL.out]; omega) (by rw [← EX.out, ← EY.out]; exact HR.out.2), hrow.set k r, hbel.setCell (Nat.le_refl _) _⟩
          case measure => simp [intOf] <;> omega
        · have t1 : decide (x < cc) = false := decide_eq_false hxy
          obtain ⟨r, er⟩ : ∃ r, r = x - cc := ⟨_, rfl⟩
          have hr : r < 4294967296 ∧ r + (cc + y) = x := by have := HS.out; have := BX.out; omega
          have hsub : IntKind.u64.wrap ((x : Int) - cc) = (r : Int) := by rw [IntWalk.u64_in _ (by have := HS.out; have := BX.out; omega)]; have := HS.out; omega
          have hcv : IntKind.u32.wrap (r : Int) = (r : Int) := IntWalk.u32_in _ (by omega)
          have HR := Lib.hid hr
          clear er hr hxy
          go_wp2_with fail
          go_roundw
          case rel =>
            exact ⟨k + 1, 0, zs.set k r, by omega, rfl, by go_num, by omega, by rw [List.length_set]; exact HL.out, hds.set _ _ HR.out.1, diff_ge hinv (by rw [HL.out]; omega) (by rw [← EX.out, ← EY.out]; exact HR.out.2), hrow.set k r, hbel.setCell (Nat.le_refl _) _⟩
          case measure => simp [intOf] <;> omega
    · obtain rfl : k = xs.length := by omega
      go_wp2_with fail
      have he := diff_end (by omega) hinv HL.out hds (by rw [X.out.2.1, Y.out.2.1]; exact HAB.out) hyx
      rw [X.out.2.1, Y.out.2.1] at he
      have hrd := hrow.rd0
      rw [HL.out] at hrd
      refine (rtrim_n _ hrd HL.out hds (by omega)).mono ?_
      rintro e w' ⟨v, rfl, hv, rfl⟩
      rw [he] at hv
      have HV := Lib.hid hv
      clear hv he hrd
      go_wp2_with fail
      go_ret
      exact ⟨v, rfl, HV.out, hbel⟩
theorem rsub_n {u v : Value} {a b L M : Nat} (w : World) (h : Num w u a L) (h' : Num w v b M) (hL : L ≤ 16777216) (hab : b ≤ a) :
    Calls Tryd.prog 41 #[u, v] w (RetR (fun w' v => Num w' v (a - b) L) w) := by
  obtain ⟨A, c, xs, rfl, h1, h2, h3⟩ := h
  obtain ⟨B, d, ys, rfl, g1, g2, g3⟩ := h'
  exact (rsub_c w h1 g1 h2 g2 (by omega) hab).mono fun e w' ⟨v, he, hv, hb⟩ => ⟨v, he, hv.mono (by omega), hb⟩
end Go.Proofs.YteaafnjflghlhaaDoor
