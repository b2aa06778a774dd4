/- How long heads and texts are; what is in an item. -/
import Derived.Test.YtgjiealcjaojaaaRlRead
import Derived.Test.YtgjiealcjaojaaaWordBits
namespace Go.Proofs.Ytgjiealcjaojaaa
open Go.RowKit

def lsz (n : Nat) : Nat := (Lib.bitLen n + 7) / 8
def hsz (n : Nat) : Nat := if n ≤ 55 then 1 else 1 + lsz n
def tsz (bs : List Nat) : Nat := if bareB bs = true then 1 else hsz bs.length + bs.length
theorem lsz_le {n : Nat} (h : n ≤ 1099511627776) : lsz n ≤ 6 := by
  have := Lib.bitLen_le n 41 (by omega) (by omega)
  unfold lsz; omega
theorem hsz_le {n : Nat} (h : n ≤ 1099511627776) : hsz n ≤ 7 := by
  have := lsz_le h
  unfold hsz; split <;> omega

set_option maxRecDepth 100000 in
theorem lengthSize_c (n : Nat) (hn : n ≤ 1099511627776) (w : World) : Calls Try.prog 100 #[.int .i64 n] w fun e w' => e = .returned (.int .i64 (lsz n : Nat)) ∧ w' = w := by
  have e1 : IntKind.u64.wrap (n : Int) = (n : Int) := IntWalk.u64_in _ (by omega)
  have C := Lib.hid (len64_c n (by unfold Lim; omega) w)
  have hb := lsz_le hn
  obtain ⟨q, hq⟩ : ∃ q, q = lsz n := ⟨_, rfl⟩
  have hq2 : q = (Lib.bitLen n + 7) / 8 := hq
  obtain ⟨l, hl⟩ : ∃ l, l = Lib.bitLen n := ⟨_, rfl⟩
  rw [← hl] at C hq2
  rw [← hq] at hb ⊢
  have e2 : IntKind.i64.wrap ((l : Int) + 7) = (l : Int) + 7 := IntWalk.i64_in _ (by omega)
  have e3 : ((l : Int) + 7).tdiv 8 = (q : Int) := by rw [Int.tdiv_eq_ediv_of_nonneg (by omega)]; omega
  have e4 : ((l : Int) + 7) / 8 = (q : Int) := by omega
  have e5 : IntKind.i64.wrap (q : Int) = (q : Int) := IntWalk.i64_in _ (by omega)
  clear hq hq2 hl hb
  go_enter Try.func100, Try.ntmps100
  go_wp2_with fail
  (with_reducible refine C.out.mono ?_)
  rintro e w' ⟨rfl, rfl⟩
  clear C
  go_wp2_with fail
  go_ret
  exact ⟨rfl, rfl⟩

set_option maxRecDepth 100000 in
theorem headSize_c (n : Nat) (hn : n ≤ 1099511627776) (w : World) : Calls Try.prog 82 #[.int .i64 n] w fun e w' => e = .returned (.int .i64 (hsz n : Nat)) ∧ w' = w := by
  by_cases h : n ≤ 55
  · have h' : (n : Int) ≤ 55 := by omega
    have HR : Hid (hsz n = 1) := if_pos h
    clear hn
    go_enter Try.func82, Try.ntmps82
    go_wp2_with fail
    go_ret
    exact ⟨by rw [HR.out]; rfl, rfl⟩
  · have h' : ¬ (n : Int) ≤ 55 := by omega
    have HR : Hid (hsz n = 1 + lsz n) := if_neg h
    have C := Lib.hid (lengthSize_c n hn w)
    have hl := lsz_le hn
    obtain ⟨l, hl'⟩ : ∃ l, l = lsz n := ⟨_, rfl⟩
    rw [← hl'] at C HR hl
    have e1 : IntKind.i64.wrap (1 + (l : Int)) = 1 + (l : Int) := IntWalk.i64_in _ (by omega)
    clear hl' hl hn
    go_enter Try.func82, Try.ntmps82
    go_wp2_with fail
    (with_reducible refine C.out.mono ?_)
    rintro e w' ⟨rfl, rfl⟩
    clear C
    go_wp2_with fail
    go_ret
    exact ⟨by rw [HR.out]; simp, rfl⟩

set_option maxRecDepth 100000 in
theorem textSize_c {A : Option Addr} {c : Nat} {bs : List Nat} (w : World) (h : Rd .u8 w A c bs) (hl : bs.length ≤ 1099511627776) : Calls Try.prog 81 #[.slice A bs.length c] w fun e w' => e = .returned (.int .i64 (tsz bs : Nat)) ∧ w' = w := by
  have CB := Lib.hid (bare_c w h)
  have CH := Lib.hid (headSize_c bs.length hl w)
  have HT : Hid (tsz bs = if bareB bs = true then 1 else hsz bs.length + bs.length) := by show _ = _; rfl
  have hh := hsz_le hl
  obtain ⟨L, hL⟩ : ∃ L, L = bs.length := ⟨_, rfl⟩
  rw [← hL] at CB CH HT hh hl ⊢
  obtain ⟨H, hH⟩ : ∃ H, H = hsz L := ⟨_, rfl⟩
  rw [← hH] at CH HT hh
  have e1 : IntKind.i64.wrap ((H : Int) + (L : Int)) = (H : Int) + (L : Int) := IntWalk.i64_in _ (by omega)
  clear h hL hH hl hh
  go_enter Try.func81, Try.ntmps81
  go_wp2_with fail
  (with_reducible refine CB.out.mono ?_)
  rintro e w' ⟨rfl, rfl⟩
  clear CB
  rcases hb : bareB bs with _ | _
  · have HR : Hid (tsz bs = H + L) := HT.out.trans (if_neg (by rw [hb]; simp))
    clear hb HT
    go_wp2_with fail
    (with_reducible refine CH.out.mono ?_)
    rintro e w' ⟨rfl, rfl⟩
    clear CH
    go_wp2_with fail
    go_ret
    exact ⟨by rw [HR.out]; simp, rfl⟩
  · have HR : Hid (tsz bs = 1) := HT.out.trans (if_pos hb)
    clear hb HT CH
    go_wp2_with fail
    go_ret
    exact ⟨by rw [HR.out]; rfl, rfl⟩

set_option maxRecDepth 100000 in
theorem contents_c (l : Bool) (A B : Option Addr) (n c m cap : Nat) (w : World) : Calls Try.prog 80 #[.agg #[.bool l, .slice A n c, .slice B m cap]] w (RetV (if l = true then .iface 131 (.slice B m cap) else .iface 112 (.slice A n c)) w) := by
  have hg := heap_alloc_new w (.cells #[.bool l, .slice A n c, .slice B m cap] 56)
  have hb : Below w.heap.size w (w.alloc (.cells #[.bool l, .slice A n c, .slice B m cap] 56)) := (Below.refl _ _).alloc (Nat.le_refl _) _
  obtain ⟨x0, x1, x2, -, -, -⟩ := three_cells hg
  have HB := Lib.hid hb
  clear hg hb
  rcases l with _ | _
  · go_enter Try.func80, Try.ntmps80
    go_wp2_with fail
    go_ret
    exact ⟨rfl, HB.out⟩
  · go_enter Try.func80, Try.ntmps80
    go_wp2_with fail
    go_ret
    exact ⟨rfl, HB.out⟩
end Go.Proofs.Ytgjiealcjaojaaa
