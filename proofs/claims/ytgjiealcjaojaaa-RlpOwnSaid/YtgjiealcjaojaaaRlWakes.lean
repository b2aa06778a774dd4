/- What the laws' wakes asks of package rlp holds. -/
import Derived.Test.YtgjiealcjaojaaaRlEncode
import Derived.Test.YtgjiealcjaojaaaOpsS
import Derived.Lib.SmallJoins
namespace Go.Proofs.Ytgjiealcjaojaaa
open Go.RowKit

/-- An item's value, parted. -/
theorem IAt.inv {S : Nat → Prop} {w : World} {p q r : Value} {l : Bool} {bs : List Nat} {xs : List Itm} (h : IAt S w (.agg #[p, q, r]) (.mk l bs xs)) :
    p = .bool l ∧ Byt w q bs ∧ ∃ (B : Option Addr) (cap b off : Nat) (u : Nat → Value), r = .slice B xs.length cap ∧ (0 < xs.length → B = some ⟨b, off, none⟩ ∧ b < w.heap.size) ∧ xs.length ≤ cap ∧
      (∀ j, j < 3 * xs.length → w.cell? ⟨b, off + j, none⟩ = some (u j)) ∧ (∀ (j : Nat) (x : Itm), xs[j]? = some x → IAt S w (.agg #[u (3 * j), u (3 * j + 1), u (3 * j + 2)]) x) := by
  generalize hv : Value.agg #[p, q, r] = v at h
  cases h with
  | mk l A c B cap b off u bs xs hA hd hAb hB hc hn hu hx =>
    injection hv with hv
    have h0 : p = .bool l := by have := congrArg (fun z : Array Value => z[0]?) hv; simpa using this
    have h1 : q = .slice A bs.length c := by have := congrArg (fun z : Array Value => z[1]?) hv; simpa using this
    have h2 : r = .slice B xs.length cap := by have := congrArg (fun z : Array Value => z[2]?) hv; simpa using this
    exact ⟨h0, ⟨A, c, h1, hA, hd⟩, B, cap, b, off, u, h2, fun h => ⟨(hB h).1, (hB h).2.1⟩, hc, hu, hx⟩

def wakeX : Itm := .mk true [] [.mk true [] [], .mk false [97] []]
theorem wakeX_form : form wakeX = [194, 192, 97] := by simp [wakeX, form, formL, formT, hdB, psz, fsz, bareB, tsz, hsz]
theorem wakeX_ok : okN wakeX 1024 = true := by simp [wakeX, okN, okL]
theorem wakeX_sz : fsz wakeX ≤ 16777216 := by simp [wakeX, psz, fsz, bareB, tsz, hsz]
theorem wakeX_read : ReadR [194, 192, 97] 0 (.ok (.list [.list [], .text [97]], [])) := by
  refine .list (u := [192, 97]) (r := []) (by decide +kernel) (by omega) ?_
  refine .cons (by decide) (.list (u := []) (r := [97]) (by decide +kernel) (by omega) .nil) ?_
  exact .cons (by decide) (.text (u := [97]) (r := []) (by decide +kernel)) .nil
theorem sOf_wake1 : sOf [194, 192, 97] = ⟨#[194, 192, 97]⟩ := by decide +kernel
theorem sOf_wake2 : sOf [97] = ⟨#[97]⟩ := by decide +kernel

set_option maxRecDepth 100000 in
set_option maxHeartbeats 6400000 in
theorem rwakes_c (w : World) : Calls Try.prog 33 #[] w (RetV (.bool true) w) := by
  have hb2 : Below w.heap.size w ((w.alloc (.cells #[.int .u8 97] 5 (1, 2))).alloc (.cells #[.bool true, .slice none 0 0, .slice none 0 0, .bool false, .slice (some ⟨w.heap.size, 0, none⟩) 1 1, .slice none 0 0] 56)) := ((Below.refl _ _).alloc (Nat.le_refl _) _).alloc (by simp) _
  have hrow : ((w.alloc (.cells #[.int .u8 97] 5 (1, 2))).alloc (.cells #[.bool true, .slice none 0 0, .slice none 0 0, .bool false, .slice (some ⟨w.heap.size, 0, none⟩) 1 1, .slice none 0 0] 56)).heap[w.heap.size + 1]? = some (.cells #[.bool true, .slice none 0 0, .slice none 0 0, .bool false, .slice (some ⟨w.heap.size, 0, none⟩) 1 1, .slice none 0 0] 56 (0, 0)) := by
    have := heap_alloc_new (w.alloc (.cells #[.int .u8 97] 5 (1, 2))) (.cells #[.bool true, .slice none 0 0, .slice none 0 0, .bool false, .slice (some ⟨w.heap.size, 0, none⟩) 1 1, .slice none 0 0] 56)
    simpa using this
  have hbl : ((w.alloc (.cells #[.int .u8 97] 5 (1, 2))).alloc (.cells #[.bool true, .slice none 0 0, .slice none 0 0, .bool false, .slice (some ⟨w.heap.size, 0, none⟩) 1 1, .slice none 0 0] 56)).heap[w.heap.size]? = some (.cells #[.int .u8 97] 5 (1, 2)) := by
    rw [Below.heap_alloc _ _ _ (by simp)]
    exact heap_alloc_new w _
  have hbt : Rd .u8 ((w.alloc (.cells #[.int .u8 97] 5 (1, 2))).alloc (.cells #[.bool true, .slice none 0 0, .slice none 0 0, .bool false, .slice (some ⟨w.heap.size, 0, none⟩) 1 1, .slice none 0 0] 56)) (some ⟨w.heap.size, 0, none⟩) 1 [97] := by
    refine ⟨Nat.le_refl _, (fun e => nomatch e), fun _ => ⟨w.heap.size, 0, rfl, by simp; omega, fun j hj => ?_⟩⟩
    have : j = 0 := by simp at hj; exact hj
    subst this
    rw [cell_of_row _ _ _ _ _ (1, 2) hbl]
    rfl
  have hsz : ((w.alloc (.cells #[.int .u8 97] 5 (1, 2))).alloc (.cells #[.bool true, .slice none 0 0, .slice none 0 0, .bool false, .slice (some ⟨w.heap.size, 0, none⟩) 1 1, .slice none 0 0] 56)).heap.size = w.heap.size + 2 := by simp
  have hit : IAt (fun _ => True) ((w.alloc (.cells #[.int .u8 97] 5 (1, 2))).alloc (.cells #[.bool true, .slice none 0 0, .slice none 0 0, .bool false, .slice (some ⟨w.heap.size, 0, none⟩) 1 1, .slice none 0 0] 56)) (.agg #[.bool true, .slice none 0 0, .slice (some ⟨w.heap.size + 1, 0, none⟩) 2 2]) wakeX := by
    refine IAt.mk (S := fun _ => True) (xs := [.mk true [] [], .mk false [97] []]) true none 0 (some ⟨w.heap.size + 1, 0, none⟩) 2 (w.heap.size + 1) 0 (fun j => (#[.bool true, .slice none 0 0, .slice none 0 0, .bool false, .slice (some ⟨w.heap.size, 0, none⟩) 1 1, .slice none 0 0] : Array Value).getD j undef) [] (Rd.nil _) Ds.nil (fun h => absurd h (Nat.lt_irrefl 0)) (fun _ => ⟨rfl, by rw [hsz]; omega, trivial⟩) (by simp) (fun h => by cases h) (fun j hj => ?_) (fun j x hx => ?_)
    · rw [Nat.zero_add, cell_of_row _ _ _ _ _ (0, 0) hrow]
      simp at hj
      simp [hj]
    · match j, hx with
      | 0, hx =>
        simp at hx
        subst hx
        exact IAt.mk (S := fun _ => True) true none 0 none 0 0 0 (fun _ => undef) [] [] (Rd.nil _) Ds.nil (fun h => absurd h (by simp)) (fun h => absurd h (by simp)) (Nat.le_refl _) (fun _ => rfl) (fun j hj => absurd hj (by simp)) (fun j x hj => by simp at hj)
      | 1, hx =>
        simp at hx
        subst hx
        exact IAt.mk (S := fun _ => True) false (some ⟨w.heap.size, 0, none⟩) 1 none 0 0 0 (fun _ => undef) [97] [] hbt (fun x hx => by simp at hx; omega) (fun _ => ⟨_, _, rfl, trivial⟩) (fun h => absurd h (by simp)) (Nat.le_refl _) (fun _ => rfl) (fun j hj => absurd hj (by simp)) (fun j x hj => by simp at hj)
      | j + 2, hx => simp at hx
  have C1 := Lib.hid (encode_c wakeX _ _ hit wakeX_sz)
  have HB2 := Lib.hid hb2
  have HSZ := Lib.hid hsz
  have cv := Lib.run_convert_bytes_const (P := Try.prog) w 22 5 #[.int .u8 97] 1 1 Try.underlying22 Try.underlying5
  clear hb2 hrow hbt hbl hsz hit
  go_enter Try.func33, Try.ntmps33
  go_wp2_with fail
  (with_reducible refine C1.out.mono ?_)
  rintro e w1 ⟨hb1, hres⟩
  rcases hres with ⟨-, v, rfl, hacc⟩ | ⟨hk, -⟩
  · rw [wakeX_form] at hacc
    obtain ⟨A, c, rfl⟩ := hacc.form
    have HB1 := Lib.hid (HB2.out.trans (hb1.mono HB2.out.size))
    have HBY := Lib.hid (hacc.byt (fun x hx => by simp at hx; omega))
    clear hb1 hacc C1
    have hrw := Row.new (k := .u8) w1 5 [194, 192, 97]
    have c2 : Calls Try.prog 28 #[.slice (some ⟨w1.heap.size, 0, none⟩) 3 3] (w1.alloc (.cells #[.int .u8 194, .int .u8 192, .int .u8 97] 5)) _ :=
      decode_c (raw := [194, 192, 97]) _ hrw.rd0 (fun x hx => by simp at hx; omega) (by decide)
    have C2 := Lib.hid c2
    have hb3 : Below w1.heap.size w1 (w1.alloc (.cells #[.int .u8 194, .int .u8 192, .int .u8 97] 5)) := (Below.refl _ _).alloc (Nat.le_refl _) _
    have HBY2 := Lib.hid (HBY.out.below hb3)
    have HB3 := Lib.hid (HB1.out.trans (hb3.mono HB1.out.size))
    clear c2 hrw hb3 HB1 HBY
    go_wp2_with fail
    (with_reducible refine C2.out.mono ?_)
    rintro e w2 ⟨hb4, o, vx, ho, rfl, hx⟩
    have ho2 := ho.det wakeX_read
    subst ho2
    have hd : decR (.ok (.list [.list [], .text [97]], [])) = (.list [.list [], .text [97]], 0) := rfl
    rw [hd] at hx ⊢
    obtain ⟨l1, a1, n1, c1, b1, m1, cp1, rfl⟩ := hx.parts
    obtain ⟨hl, hbs, B, cap, b, off, u, hr, hB, hcap, hu, hxs⟩ := hx.inv
    obtain ⟨rfl, hbb⟩ := hB (by decide)
    have hx0 := (hxs 0 _ rfl).parts
    obtain ⟨l3, a3, n3, c3, b3, m3, cp3, hp3⟩ := hx0
    have i0 := hxs 0 _ rfl
    have i1 := hxs 1 _ rfl
    obtain ⟨h00, -, -⟩ := i0.inv
    obtain ⟨h10, h11, -⟩ := i1.inv
    obtain ⟨a5, c5, h12, hr5, hd5⟩ := h11
    have hb5 : Below w2.heap.size w2 (w2.alloc (.cells #[.bool l1, .slice a1 n1 c1, .slice b1 m1 cp1] 56)) := (Below.refl _ _).alloc (Nat.le_refl _) _
    have z0 := (hb5.cell (p := ⟨b, off + 0, none⟩) hbb).trans (hu 0 (by decide))
    have z3 := (hb5.cell (p := ⟨b, off + 3, none⟩) hbb).trans (hu 3 (by decide))
    have z4 := (hb5.cell (p := ⟨b, off + 4, none⟩) hbb).trans (hu 4 (by decide))
    rw [show u 0 = .bool true from h00] at z0
    rw [show u 3 = .bool false from h10] at z3
    rw [show u 4 = .slice a5 1 c5 from h12] at z4
    rw [Nat.add_zero] at z0
    injection hl with hl
    subst hl
    injection hr with hr1 hr2 hr3
    obtain rfl : m1 = 2 := hr2
    obtain rfl : cap = cp1 := hr3.symm
    subst hr1
    have s1 := run_sOf ((HBY2.out.below hb4).below hb5)
    have s2 := run_sOf (show Byt _ (.slice a5 1 c5) [97] from ⟨a5, c5, rfl, hr5.below hb5, hd5⟩)
    rw [sOf_wake1, show ([194, 192, 97] : List Nat).length = 3 from rfl] at s1
    rw [sOf_wake2] at s2
    obtain ⟨y0, y1, y2, -, -, -⟩ := three_cells (heap_alloc_new w2 (.cells #[.bool true, .slice a1 n1 c1, .slice (some ⟨b, off, none⟩) 2 cap] 56))
    have HE := Lib.hid ((HB3.out.trans (hb4.mono HB3.out.size)).alloc (Nat.le_trans HB3.out.size hb4.size) (.cells #[.bool true, .slice a1 n1 c1, .slice (some ⟨b, off, none⟩) 2 cap] 56))
    have q1 : (1 : Nat) ≤ cap := by have : (2 : Nat) ≤ cap := hcap; omega
    clear C2 hb4 ho hx hbs hB hcap hu hxs i0 i1 h00 h10 h12 hr5 hd5 hb5 HBY2 HB3 hp3 hd hbb
    go_wp2_with fail
    go_ret
    exact ⟨rfl, HE.out⟩
  · rw [wakeX_ok] at hk; cases hk
end Go.Proofs.Ytgjiealcjaojaaa
