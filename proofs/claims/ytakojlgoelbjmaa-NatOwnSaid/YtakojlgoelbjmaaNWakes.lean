/- Package quarrylaw02's wakes; canonical bytes; package nat's contracts by the bytes of their answers. -/
import Derived.Test.YtakojlgoelbjmaaNExp
import Derived.Test.YtakojlgoelbjmaaOpsS
namespace Go.Proofs.Ytakojlgoelbjmaa
open Go.RowKit

/-- The number that bytes tell, the highest first; a number's bytes, without zeros ahead. -/
def nv (bs : List Nat) : Nat := dv 256 bs.reverse
noncomputable def nb (n : Nat) : List Nat := (Classical.choose (can_exists (B := 256) (by decide) n)).reverse
theorem nb_can (n : Nat) : Can 256 (nb n).reverse n := by
  unfold nb; rw [List.reverse_reverse]; exact Classical.choose_spec (can_exists (B := 256) (by decide) n)
theorem nb_eq {zs : List Nat} {n : Nat} (h : Can 256 zs.reverse n) : zs = nb n := List.reverse_inj.1 (h.inj (nb_can n) (by decide))
theorem nb_ds (n : Nat) : Ds 256 (nb n) := by have := (nb_can n).1.reverse; rwa [List.reverse_reverse] at this
theorem nv_nb (n : Nat) : nv (nb n) = n := (nb_can n).2.1
theorem NB.byt {w : World} {v : Value} {n : Nat} (h : NB w v n) : Byt w v (nb n) := by
  obtain ⟨zs, h1, h2⟩ := h
  rw [← nb_eq h2]; exact h1
theorem nb_len {n m : Nat} (h : n < 256 ^ m) : (nb n).length ≤ m := by
  have := (nb_can n).len_le (by decide) h
  rwa [List.length_reverse] at this
theorem nb_one {d : Nat} (h0 : 0 < d) (h : d < 256) : nb d = [d] := (nb_eq (show Can 256 [d].reverse d from ⟨fun x hx => by simp at hx; omega, by simp [dv], fun _ => by simp; omega⟩)).symm
theorem nb_two {c d : Nat} (h0 : 0 < c) (hc : c < 256) (h : d < 256) : nb (256 * c + d) = [c, d] := (nb_eq (show Can 256 [c, d].reverse (256 * c + d) from ⟨fun x hx => by simp at hx; omega, by simp [dv]; omega, fun _ => by simp; omega⟩)).symm
theorem nb_zero : nb 0 = [] := (nb_eq (show Can 256 ([] : List Nat).reverse 0 from Can.nil)).symm

set_option maxRecDepth 100000 in
set_option maxHeartbeats 3200000 in
theorem nwakes_c (w : World) : Calls Try.prog 22 #[] w (RetV (.bool true) w) := by
  have r1 : Row .u8 (w.alloc (.cells #[.int .u8 1, .int .u8 0] 5)) w.heap.size 5 [1, 0] := Row.new (k := .u8) w 5 [1, 0]
  have r1 := r1.alloc (.cells #[.int .u8 7] 5)
  have r2 : Row .u8 ((w.alloc (.cells #[.int .u8 1, .int .u8 0] 5)).alloc (.cells #[.int .u8 7] 5)) (w.heap.size + 1) 5 [7] := by
    have h := Row.new (k := .u8) (w.alloc (.cells #[.int .u8 1, .int .u8 0] 5)) 5 [7]
    rw [show (w.alloc (.cells #[.int .u8 1, .int .u8 0] 5)).heap.size = w.heap.size + 1 by simp] at h
    exact h
  have hb1 : Below w.heap.size w ((w.alloc (.cells #[.int .u8 1, .int .u8 0] 5)).alloc (.cells #[.int .u8 7] 5)) := ((Below.refl _ _).alloc (Nat.le_refl _) _).alloc (by simp) _
  have q1 := divmod_n _ r1.rd0 r2.rd0 (fun x hx => by simp at hx; omega) (fun x hx => by simp at hx; omega) (by decide) (by decide) (by decide)
  have q2 : Calls Try.prog 14 #[.slice (some ⟨w.heap.size, 0, none⟩) 2 2, .slice (some ⟨w.heap.size + 1, 0, none⟩) 1 1] _ _ := q1
  have C1 := Lib.hid q2
  clear q1 q2
  have H1 := Lib.hid hb1
  clear r1 r2 hb1
  go_enter Try.func22, Try.ntmps22
  go_wp2_with fail
  (with_reducible refine C1.out.mono ?_)
  rintro e w1 ⟨u, v, rfl, hu, hv, hb1⟩
  have s1 := run_sOf hu.byt
  have s2 := run_sOf hv.byt
  have e1 : nb (dv 256 [1, 0].reverse / dv 256 [7].reverse) = [36] := nb_one (d := 36) (by decide) (by decide)
  have e2 : nb (dv 256 [1, 0].reverse % dv 256 [7].reverse) = [4] := nb_one (d := 4) (by decide) (by decide)
  rw [e1] at s1
  rw [e2] at s2
  have t1 : sOf [36] = ⟨#[36]⟩ := rfl
  have t2 : sOf [4] = ⟨#[4]⟩ := rfl
  rw [t1] at s1
  rw [t2] at s2
  have H1 := Lib.hid (H1.out.trans (hb1.mono H1.out.size))
  clear C1 hu hv e1 e2 t1 t2 hb1
  obtain ⟨z1, hz1⟩ : ∃ z, z = w1.heap.size := ⟨_, rfl⟩
  have r1 : Row .u8 (w1.alloc (.cells #[.int .u8 3] 5)) w1.heap.size 5 [3] := Row.new (k := .u8) w1 5 [3]
  have r1 := (r1.alloc (.cells #[.int .u8 5] 5)).alloc (.cells #[.int .u8 7] 5)
  have r2 : Row .u8 ((w1.alloc (.cells #[.int .u8 3] 5)).alloc (.cells #[.int .u8 5] 5)) (w1.heap.size + 1) 5 [5] := by
    have h := Row.new (k := .u8) (w1.alloc (.cells #[.int .u8 3] 5)) 5 [5]
    rw [show (w1.alloc (.cells #[.int .u8 3] 5)).heap.size = w1.heap.size + 1 by simp] at h
    exact h
  have r2 := r2.alloc (.cells #[.int .u8 7] 5)
  have r3 : Row .u8 (((w1.alloc (.cells #[.int .u8 3] 5)).alloc (.cells #[.int .u8 5] 5)).alloc (.cells #[.int .u8 7] 5)) (w1.heap.size + 1 + 1) 5 [7] := by
    have h := Row.new (k := .u8) ((w1.alloc (.cells #[.int .u8 3] 5)).alloc (.cells #[.int .u8 5] 5)) 5 [7]
    rw [show ((w1.alloc (.cells #[.int .u8 3] 5)).alloc (.cells #[.int .u8 5] 5)).heap.size = w1.heap.size + 1 + 1 by simp] at h
    exact h
  have hb1 : Below w1.heap.size w1 (((w1.alloc (.cells #[.int .u8 3] 5)).alloc (.cells #[.int .u8 5] 5)).alloc (.cells #[.int .u8 7] 5)) := (((Below.refl _ _).alloc (Nat.le_refl _) _).alloc (by simp) _).alloc (by simp; omega) _
  have q1 := modexp_n _ r1.rd0 r2.rd0 r3.rd0 (fun x hx => by simp at hx; omega) (fun x hx => by simp at hx; omega) (fun x hx => by simp at hx; omega) (by decide) (by decide) (by decide) (by decide)
  have q2 : Calls Try.prog 15 #[.slice (some ⟨w1.heap.size, 0, none⟩) 1 1, .slice (some ⟨w1.heap.size + 1, 0, none⟩) 1 1, .slice (some ⟨w1.heap.size + 1 + 1, 0, none⟩) 1 1] _ _ := q1
  have C1 := Lib.hid q2
  clear q1 q2
  have H1 := Lib.hid (H1.out.trans (hb1.mono H1.out.size))
  clear r1 r2 r3 hb1 hz1
  go_wp2_with fail
  (with_reducible refine C1.out.mono ?_)
  rintro e w2 ⟨u2, rfl, hu2, hb2⟩
  have s1 := run_sOf hu2.byt
  have e1 : nb (dv 256 [3].reverse ^ dv 256 [5].reverse % dv 256 [7].reverse) = [5] := nb_one (d := 5) (by decide) (by decide)
  rw [e1] at s1
  have t1 : sOf [5] = ⟨#[5]⟩ := rfl
  rw [t1] at s1
  have H1 := Lib.hid (H1.out.trans (hb2.mono H1.out.size))
  clear C1 hu2 e1 t1 hb2
  have r1 : Row .u8 (w2.alloc (.cells #[.int .u8 255] 5)) w2.heap.size 5 [255] := Row.new (k := .u8) w2 5 [255]
  have r1 := r1.alloc (.cells #[.int .u8 255] 5)
  have r2 : Row .u8 ((w2.alloc (.cells #[.int .u8 255] 5)).alloc (.cells #[.int .u8 255] 5)) (w2.heap.size + 1) 5 [255] := by
    have h := Row.new (k := .u8) (w2.alloc (.cells #[.int .u8 255] 5)) 5 [255]
    rw [show (w2.alloc (.cells #[.int .u8 255] 5)).heap.size = w2.heap.size + 1 by simp] at h
    exact h
  have hb1 : Below w2.heap.size w2 ((w2.alloc (.cells #[.int .u8 255] 5)).alloc (.cells #[.int .u8 255] 5)) := ((Below.refl _ _).alloc (Nat.le_refl _) _).alloc (by simp) _
  have q1 := mul_n _ r1.rd0 r2.rd0 (fun x hx => by simp at hx; omega) (fun x hx => by simp at hx; omega) (by decide) (by decide)
  have q2 : Calls Try.prog 13 #[.slice (some ⟨w2.heap.size, 0, none⟩) 1 1, .slice (some ⟨w2.heap.size + 1, 0, none⟩) 1 1] _ _ := q1
  have C1 := Lib.hid q2
  clear q1 q2
  have H1 := Lib.hid (H1.out.trans (hb1.mono H1.out.size))
  clear r1 r2 hb1
  go_wp2_with fail
  (with_reducible refine C1.out.mono ?_)
  rintro e w3 ⟨u3, rfl, hu3, hb3⟩
  have hu3 : NB w3 u3 _ := hu3
  have s1 := run_sOf hu3.byt
  have e1 : nb (dv 256 [255].reverse * dv 256 [255].reverse) = [254, 1] := nb_two (c := 254) (d := 1) (by decide) (by decide) (by decide)
  rw [e1] at s1
  have t1 : sOf [254, 1] = ⟨#[254, 1]⟩ := rfl
  rw [t1] at s1
  have H1 := Lib.hid (H1.out.trans (hb3.mono H1.out.size))
  clear C1 hu3 e1 t1 hb3
  go_wp2_with fail
  go_ret
  exact ⟨rfl, H1.out⟩
end Go.Proofs.Ytakojlgoelbjmaa
