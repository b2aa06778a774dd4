/- The contract of package quarryref02's Cmp. -/
import Derived.Test.YtiflfcdegpmhnaaRTrim
namespace Go.Proofs.Ytiflfcdegpmhnaa
open Go.RowKit

set_option maxRecDepth 100000 in
set_option maxHeartbeats 1600000 in
theorem rcmp_c {A B : Option Addr} {c d a b : Nat} {xs ys : List Nat} (w : World) (h : Rd .u32 w A c xs) (h' : Rd .u32 w B d ys) (hx : Can 4294967296 xs a) (hy : Can 4294967296 ys b) (hl : xs.length ≤ 16777216) :
    Calls Try.prog 36 #[.slice A xs.length c, .slice B ys.length d] w (RetD (.int .i64 (ordI a b)) w) := by
  have hB : 0 < 4294967296 := by omega
  rcases Nat.lt_trichotomy xs.length ys.length with hc | hc | hc
  · have hlt := can_short hB hx hy hc
    have hne : ((xs.length : Int) != ys.length) = true := by simp; omega
    have he : ordI a b = -1 := if_pos hlt
    rw [he]
    clear he h h' hx hy hlt
    go_enter Try.func36, Try.ntmps36
    go_wp2_with fail
    go_ret
    exact ⟨rfl, 0, rfl⟩
  · have hne : ((xs.length : Int) != ys.length) = false := by simp; omega
    have HC := Lib.hid hc
    clear hc
    go_enter Try.func36, Try.ntmps36
    go_wp2_with fail
    go_loopw [5] (fun i wr => ∃ k : Nat, k ≤ xs.length ∧ i = .int .i64 ((k : Int) - 1) ∧ Hid (xs.drop k = ys.drop k) ∧ ∃ n, wr = w.drewN n) (fun i _ => (intOf i + 1).toNat)
    case atStart => exact ⟨xs.length, Nat.le_refl _, rfl, by show _ = _; rw [List.drop_length, HC.out, List.drop_length], 0, rfl⟩
    case round =>
      obtain ⟨k, hk, rfl, hd, n, rfl⟩ := hrel
      have H1 := Lib.hid h
      have H2 := Lib.hid h'
      have X := Lib.hid hx
      have Y := Lib.hid hy
      clear h h' hx hy
      by_cases hk0 : (0 : Int) ≤ (k : Int) - 1
      · obtain ⟨b1, o1, rfl, hb1, hc1⟩ := H1.out.at_ (by omega)
        obtain ⟨b2, o2, rfl, hb2, hc2⟩ := H2.out.at_ (by rw [← HC.out]; omega)
        have c1 := hc1 (k - 1) (by omega)
        have c2 := hc2 (k - 1) (by rw [← HC.out]; omega)
        have hkl : ((k : Int) - 1) < ys.length := by rw [← HC.out]; omega
        obtain ⟨x, ex⟩ : ∃ x, x = xs.getD (k - 1) 0 := ⟨_, rfl⟩
        obtain ⟨y, ey⟩ : ∃ y, y = ys.getD (k - 1) 0 := ⟨_, rfl⟩
        rw [← ex] at c1
        rw [← ey] at c2
        have EX := Lib.hid ex
        have EY := Lib.hid ey
        have hd' : xs.drop (k - 1 + 1) = ys.drop (k - 1 + 1) := by rw [show k - 1 + 1 = k by omega]; exact hd.out
        have HD := Lib.hid hd'
        clear hc1 hc2 ex ey hd' H1 H2
        rcases Nat.lt_trichotomy x y with hxy | hxy | hxy
        · have t1 : decide ((x : Int) < y) = true := by simp; omega
          have hlt := cmp_digit X.out.1 HC.out (k := k - 1) (by omega) HD.out (by rw [← EX.out, ← EY.out]; exact hxy)
          rw [X.out.2.1, Y.out.2.1] at hlt
          have he : ordI a b = -1 := if_pos hlt
          have HE := Lib.hid he
          clear he hlt
          go_wp2_with fail
          go_quiet (fail)
          go_wp2_with fail
          go_ret
          exact ⟨by rw [HE.out]; rfl, by first | exact dr2 _ _ _ | exact dr3 _ _ _ _⟩
        · obtain rfl := hxy
          have t1 : decide ((x : Int) < x) = false := by simp
          have hd2 := drop_step HC.out (k := k - 1) (by omega) HD.out (by rw [← EX.out, ← EY.out])
          have HD2 := Lib.hid hd2
          clear hd2
          go_wp2_with fail
          go_quiet (fail)
          go_wp2_with fail
          go_quiet (fail)
          go_wp2_with fail
          go_roundw
          case rel => exact ⟨k - 1, by omega, by go_num, HD2.out, _, rfl⟩
          case measure => simp [intOf]; omega
        · have t1 : decide ((x : Int) < y) = false := by simp; omega
          have t2 : decide ((y : Int) < x) = true := by simp; omega
          have hlt := cmp_digit Y.out.1 HC.out.symm (k := k - 1) (by rw [← HC.out]; omega) HD.out.symm (by rw [← EX.out, ← EY.out]; exact hxy)
          rw [X.out.2.1, Y.out.2.1] at hlt
          have he : ordI a b = 1 := by unfold ordI; rw [if_neg (by omega), if_pos hlt]
          have HE := Lib.hid he
          clear he hlt
          go_wp2_with fail
          go_quiet (fail)
          go_wp2_with fail
          go_quiet (fail)
          go_wp2_with fail
          go_ret
          exact ⟨by rw [HE.out]; rfl, by first | exact dr2 _ _ _ | exact dr3 _ _ _ _⟩
      · obtain rfl : k = 0 := by omega
        have he : a = b := by
          have := hd.out
          simp only [List.drop_zero] at this
          rw [← X.out.2.1, ← Y.out.2.1, this]
        have he2 : ordI a b = 0 := by unfold ordI; rw [if_neg (by omega), if_neg (by omega)]
        have HE := Lib.hid he2
        clear he he2
        go_wp2_with fail
        go_ret
        exact ⟨by rw [HE.out]; rfl, n, rfl⟩
  · have hlt := can_short hB hy hx hc
    have hne : ((xs.length : Int) != ys.length) = true := by simp; omega
    have he : ordI a b = 1 := by unfold ordI; rw [if_neg (by omega), if_pos hlt]
    rw [he]
    clear he h h' hx hy hlt
    go_enter Try.func36, Try.ntmps36
    go_wp2_with fail
    go_ret
    exact ⟨rfl, 0, rfl⟩
theorem rcmp_n {u v : Value} {a b L M : Nat} (w : World) (h : Num w u a L) (h' : Num w v b M) (hL : L ≤ 16777216) :
    Calls Try.prog 36 #[u, v] w (RetD (.int .i64 (ordI a b)) w) := by
  obtain ⟨A, c, xs, rfl, h1, h2, h3⟩ := h
  obtain ⟨B, d, ys, rfl, g1, g2, g3⟩ := h'
  exact rcmp_c w h1 g1 h2 g2 (by omega)
end Go.Proofs.Ytiflfcdegpmhnaa
