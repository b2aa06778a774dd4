/- The contracts of package nat's digit and strip. -/
import Derived.Test.YteaafnjflghlhaaDoorOwn8
import Derived.Test.YteaafnjflghlhaaDoorRTrim
import Derived.Deep.MidRow
import Derived.Deep.DeepCutAuto
namespace Go.Proofs.YteaafnjflghlhaaDoor
open Go.RowKit

set_option maxRecDepth 100000 in
set_option maxHeartbeats 3200000 in
/-- digit: the byte that counts 256^i, 0 beyond the end. -/
theorem digit_c {A : Option Addr} {c : Nat} {bs : List Nat} (w : World) (h : Rd .u8 w A c bs) (hb : Ds 256 bs) (hl : bs.length ≤ 16777216) (i : Nat) (hi : i ≤ 1152921504606846976) :
    Calls Tryd.prog 83 #[.slice A bs.length c, .int .i64 (i : Nat)] w fun e w' => e = .returned (.int .i64 (bs.reverse.getD i 0 : Nat)) ∧ w' = w := by
  have HR := Lib.hid h
  have HD := Lib.hid hb
  obtain ⟨L, hL⟩ : ∃ L, L = bs.length := ⟨_, rfl⟩
  have HL := Lib.hid hL
  rw [← hL] at hl ⊢
  clear h hb hL
  have HI := Lib.hid hi
  obtain ⟨d, hd⟩ : ∃ d, d = bs.reverse.getD i 0 := ⟨_, rfl⟩
  rw [← hd]
  by_cases hlt : i < L
  · obtain ⟨b, o, rfl, hbb, hcell⟩ := HR.out.at_ (by have := HL.out; omega)
    have cx := hcell (L - 1 - i) (by have := HL.out; omega)
    have hde : bs.getD (L - 1 - i) 0 = d := by rw [hd, rev_get _ _ (by have := HL.out; omega), ← HL.out]
    rw [hde] at cx
    have hd256 : d < 256 := by rw [← hde]; exact HD.out.get (by omega) _
    obtain ⟨p, hp⟩ : ∃ p : Nat, p = L - 1 - i := ⟨_, rfl⟩
    rw [← hp] at cx
    have hlt1 : ¬ ((L : Int) ≤ (i : Int)) := by omega
    have hpi : (L : Int) - 1 - (i : Int) = (p : Int) := by omega
    have hwp : IntKind.i64.wrap ((L : Int) - 1 - (i : Int)) = (p : Int) := by rw [IntWalk.i64_in _ (by omega)]; exact hpi
    have hw1 : IntKind.i64.wrap ((L : Int) - 1) = (L : Int) - 1 := IntWalk.i64_in _ (by omega)
    have hpL : (p : Int) < (L : Int) := by omega
    have hwd : IntKind.i64.wrap (d : Int) = (d : Int) := IntWalk.i64_in _ (by omega)
    clear hd hde hcell hbb hp hi hlt
    go_enter Tryd.func83, Tryd.ntmps83
    go_wp2_with fail
    go_ret
    exact ⟨rfl, rfl⟩
  · have hd0 : d = 0 := by
      rw [hd, List.getD_eq_getElem?_getD, List.getElem?_eq_none (by rw [List.length_reverse]; have := HL.out; omega)]
      rfl
    have hlt1 : (L : Int) ≤ (i : Int) := by omega
    rw [hd0]
    clear hd hd0 hi hlt
    go_enter Tryd.func83, Tryd.ntmps83
    go_wp2_with fail
    go_ret
    exact ⟨rfl, rfl⟩

/-- Without the zeros ahead. -/
def sd : List Nat → List Nat
  | [] => []
  | x :: xs => if x = 0 then sd xs else x :: xs
theorem sd_dv (bs : List Nat) : dv 256 (sd bs).reverse = dv 256 bs.reverse := by
  induction bs with
  | nil => rfl
  | cons x xs ih =>
    unfold sd
    split
    · rename_i h
      rw [ih, h, List.reverse_cons, dv_append]
      simp [dv]
    · rfl
theorem sd_ds {bs : List Nat} (h : Ds 256 bs) : Ds 256 (sd bs) := by
  induction bs with
  | nil => exact h
  | cons x xs ih =>
    unfold sd
    split
    · exact ih (Ds.cons h).2
    · exact h
theorem sd_head (bs : List Nat) : 0 < (sd bs).length → (sd bs).getD 0 0 ≠ 0 := by
  induction bs with
  | nil => intro h; simp [sd] at h
  | cons x xs ih =>
    unfold sd
    split
    · exact ih
    · intro _; simpa using ‹¬ x = 0›
theorem sd_can {bs : List Nat} (h : Ds 256 bs) : Can 256 (sd bs).reverse (dv 256 bs.reverse) := by
  refine ⟨(sd_ds h).reverse, sd_dv bs, fun hl => ?_⟩
  rw [List.length_reverse] at hl ⊢
  rw [rev_get _ _ (by omega), show (sd bs).length - 1 - ((sd bs).length - 1) = 0 by omega]
  exact sd_head bs hl
theorem sd_len (bs : List Nat) : (sd bs).length ≤ bs.length := by
  induction bs with
  | nil => simp [sd]
  | cons x xs ih =>
    unfold sd
    split
    · simp; omega
    · simp

/-- Bytes of one's own, from block B on, that tell n without zeros ahead. -/
def NBO (B : Nat) (w : World) (v : Value) (n : Nat) : Prop := ∃ zs, OwnB B w v zs ∧ Can 256 zs.reverse n
theorem NBO.below {B : Nat} {w w' : World} {v : Value} {n : Nat} (h : NBO B w v n) (hb : Below w.heap.size w w') : NBO B w' v n := h.elim fun zs h => ⟨zs, h.1.below hb, h.2⟩
theorem NBO.mono {B B' : Nat} {w : World} {v : Value} {n : Nat} (h : NBO B w v n) (hb : B' ≤ B) : NBO B' w v n := h.elim fun zs h => ⟨zs, h.1.mono hb, h.2⟩
theorem NBO.byt {B : Nat} {w : World} {v : Value} {n : Nat} (h : NBO B w v n) : ∃ zs, Byt w v zs ∧ Can 256 zs.reverse n := h.elim fun zs h => ⟨zs, h.1.byt, h.2⟩
/-- A slice within another's memory, that reads as xs; where it lies. -/
def RetSubO (A0 : Option Addr) (c0 : Nat) (xs : List Nat) (w : World) (e : Ending) (w' : World) : Prop := ∃ A c, e = .returned (.slice A xs.length c) ∧ Rd .u8 w A c xs ∧ w' = w ∧ Subs A0 c0 A c
/-- A slice within another's memory, that reads as xs. -/
def RetSub (xs : List Nat) (w : World) (e : Ending) (w' : World) : Prop := ∃ A c, e = .returned (.slice A xs.length c) ∧ Rd .u8 w A c xs ∧ w' = w
set_option maxRecDepth 100000 in
set_option maxHeartbeats 3200000 in
theorem strip_o {A : Option Addr} {c : Nat} {bs : List Nat} (w : World) (h : Rd .u8 w A c bs) (hb : Ds 256 bs) (hl : bs.length ≤ 16777216) :
    Calls Tryd.prog 64 #[.slice A bs.length c] w (RetSubO A c (sd bs) w) := by
  have HR := Lib.hid h
  have HD := Lib.hid hb
  have HLL := Lib.hid hl
  clear h hb hl
  go_enter Tryd.func64, Tryd.ntmps64
  go_wp2_with fail
  go_loopw [0] (fun v wr => ∃ (B : Option Addr) (d : Nat) (xs : List Nat) (n : Nat), v = .slice B n d ∧ Hid (n = xs.length) ∧ Hid (Rd .u8 w B d xs) ∧ Hid (Ds 256 xs) ∧ Hid (sd xs = sd bs) ∧ n ≤ 16777216 ∧ Hid (Subs A c B d) ∧ wr = w)
    (fun v _ => match v with | .slice _ n _ => n | _ => 0)
  case atStart => exact ⟨A, c, bs, bs.length, rfl, rfl, HR, HD, rfl, HLL.out, Subs.refl _ _, rfl⟩
  case round =>
    obtain ⟨B, d, xs, n, rfl, hn, hrd, hds, hsd, hn2, HSU, rfl⟩ := hrel
    clear HR HD HLL
    match xs, hn, hrd, hds, hsd with
    | [], hn, hrd, hds, hsd =>
      have hn0 : n = 0 := hn.out
      have hs : sd bs = [] := by rw [← hsd.out]; rfl
      subst hn0
      have HRD := Lib.hid hrd.out
      have HS := Lib.hid hs
      clear hs hn hrd hds hsd
      go_wp2_with fail
      go_ret
      exact ⟨_, _, by rw [HS.out]; rfl, by rw [HS.out]; exact HRD.out, rfl, HSU.out⟩
    | x :: xs, hn, hrd, hds, hsd =>
      have hn1 : n = xs.length + 1 := hn.out
      obtain ⟨b, o, rfl, hbb, hcell⟩ := hrd.out.at_ (by simp)
      have c0 := hcell 0 (by simp)
      rw [Nat.add_zero, show (x :: xs).getD 0 0 = x from rfl] at c0
      have hle := hrd.out.le
      rw [List.length_cons] at hle
      by_cases hx : x = 0
      · have hs : sd xs = sd bs := by rw [← hsd.out]; show _ = (if x = 0 then _ else _); rw [if_pos hx]
        have HS := Lib.hid hs
        have HDX := Lib.hid (Ds.cons hds.out).2
        have hnn : n - 1 = xs.length := by omega
        have HNN := Lib.hid hnn
        have hxi : (x : Int) = 0 := by omega
        have hni : 0 < (n : Int) := by omega
        have hni1 : (1 : Int) ≤ (n : Int) := by omega
        have hnd : (n : Int) ≤ (d : Int) := by omega
        have hrx : ∀ B', (0 < xs.length → B' = some ⟨b, o + 1, none⟩) → B' ≠ none → Rd .u8 wr B' (d - 1) xs := fun B' hB hne => ⟨by omega, fun e => absurd e hne, fun hp => ⟨b, o + 1, hB hp, hbb, fun j hj => by
          have hh := hcell (j + 1) (by simp; omega)
          rw [show o + 1 + j = o + (j + 1) by omega, hh]
          simp⟩⟩
        have HS2 := Lib.hid (HSU.out.next (show 1 ≤ d by omega))
        by_cases hd1 : d = 1
        · have HS1 : Hid (Subs A c (some ⟨b, o, none⟩) 0) := HSU.out.less (by omega)
          have hR := hrx (some ⟨b, o, none⟩) (fun hp => by omega) (by simp)
          have HRX := Lib.hid hR
          clear hs hcell hbb hn hsd hle hn1 hx hrx hR hnn hrd hds
          go_wp2_with fail
          refine ⟨⟨_, _, xs, n - 1, rfl, HNN, Lib.hid (by have hh := HRX.out; rw [hd1] at hh; exact hh), HDX, HS, by omega, HS1.out, trivial⟩, ?_⟩
          show n - 1 < n
          omega
        · have hR := hrx (some ⟨b, o + 1, none⟩) (fun _ => rfl) (by simp)
          have HRX := Lib.hid hR
          clear hs hcell hbb hn hsd hle hn1 hx hrx hR hnn hrd hds
          go_wp2_with fail
          refine ⟨⟨_, _, xs, n - 1, rfl, HNN, HRX, HDX, HS, by omega, HS2.out, trivial⟩, ?_⟩
          show n - 1 < n
          omega
      · have hs : sd bs = x :: xs := by rw [← hsd.out]; show (if x = 0 then _ else _) = _; rw [if_neg hx]
        have HS := Lib.hid hs
        have HN := Lib.hid hn1
        have hxi : ¬ ((x : Int) = 0) := by omega
        have hni : 0 < (n : Int) := by omega
        clear hs hcell hbb hn hsd hle hn1 hx
        go_wp2_with fail
        go_ret
        exact ⟨_, _, by rw [HS.out]; show _ = Ending.returned (.slice _ (xs.length + 1) _); rw [← HN.out]; rfl, by rw [HS.out]; exact hrd.out, rfl, HSU.out⟩
theorem strip_c {A : Option Addr} {c : Nat} {bs : List Nat} (w : World) (h : Rd .u8 w A c bs) (hb : Ds 256 bs) (hl : bs.length ≤ 16777216) :
    Calls Tryd.prog 64 #[.slice A bs.length c] w (RetSub (sd bs) w) := (strip_o w h hb hl).mono fun _ _ ⟨A', c', h1, h2, h3, _⟩ => ⟨A', c', h1, h2, h3⟩
end Go.Proofs.YteaafnjflghlhaaDoor
