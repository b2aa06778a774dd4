/- Package field's reduce. -/
import Derived.Test.YteaafnjflghlhaaDoorFlTimesMath
import Derived.Test.YteaafnjflghlhaaDoorFlTimes
import Derived.Deep.RegionLaw
import Derived.Laws.CopyOwn
namespace Go.Proofs.YteaafnjflghlhaaDoor
open Go.RowKit

theorem mont_value {A B P k S s : Nat} (h : MontInv A B P k S) (hb : B < P) (l : LowR S P s) : s < P ∧ s * 18446744073709551616 ^ k % P = A % 18446744073709551616 ^ k * B % P := by
  obtain ⟨hS, q, -, e⟩ := h
  by_cases hlt : S < P
  · have es := l.1 hlt
    rw [es]
    exact ⟨hlt, by rw [e, Nat.add_mul_mod_self_right]⟩
  · have es := l.2 hlt
    refine ⟨by omega, ?_⟩
    rw [← es, Nat.add_mul] at e
    have h1 : (s * 18446744073709551616 ^ k + P * 18446744073709551616 ^ k) % P = s * 18446744073709551616 ^ k % P := Nat.add_mul_mod_self_left _ _ _
    rw [← h1, e, Nat.add_mul_mod_self_right]
/-- To divide by R modulo the prime is to multiply by what makes R 1. -/
theorem div_by {s R Ri X P : Nat} (hs : s < P) (hR : R * Ri % P = 1 % P) (h : s * R % P = X % P) : s = X * Ri % P := by
  have e : s * (R * Ri) % P = X * Ri % P := by rw [← Nat.mul_assoc, Nat.mul_mod, h, ← Nat.mul_mod]
  rw [Nat.mul_mod, hR, ← Nat.mul_mod, Nat.mul_one, Nat.mod_eq_of_lt hs] at e
  exact e
theorem mont_times {A B P k S s Ri : Nat} (h : MontInv A B P k S) (hb : B < P) (l : LowR S P s) (hR : 18446744073709551616 ^ k * Ri % P = 1 % P) : s < P ∧ s = A % 18446744073709551616 ^ k * B * Ri % P := by
  obtain ⟨h1, h2⟩ := mont_value h hb l
  exact ⟨h1, div_by h1 hR h2⟩
/-- What has entered is multiplied as it is. -/
theorem mont_entered {a b P R Ri : Nat} (hR : R * Ri % P = 1 % P) : (a * R % P) * (b * R % P) * Ri % P = a * b * R % P := by
  have e0 : (a * R % P) * (b * R % P) % P = a * R * (b * R) % P := by rw [← Nat.mul_mod]
  rw [Nat.mul_mod, e0, ← Nat.mul_mod]
  have e : a * R * (b * R) * Ri = a * b * R * (R * Ri) := by grind
  rw [e, Nat.mul_mod, hR, ← Nat.mul_mod, Nat.mul_one]
theorem mont_enter {a P R Ri : Nat} (hR : R * Ri % P = 1 % P) : a * (R * R % P) * Ri % P = a * R % P := by
  rw [Nat.mul_mod, Nat.mul_mod a, Nat.mod_mod, ← Nat.mul_mod a, ← Nat.mul_mod]
  have e : a * (R * R) * Ri = a * R * (R * Ri) := by grind
  rw [e, Nat.mul_mod, hR, ← Nat.mul_mod, Nat.mul_one]
theorem mont_leave {a P R Ri : Nat} (hR : R * Ri % P = 1 % P) : (a * R % P) * 1 * Ri % P = a % P := by
  rw [Nat.mul_one, Nat.mod_mul_mod, Nat.mul_assoc, Nat.mul_mod, hR, ← Nat.mul_mod, Nat.mul_one]
/-- A number of all limbs is reduced: its low limbs and its high ones. -/
theorem mont_reduce {a P R Ri : Nat} (hR : R * Ri % P = 1 % P) : (a % R * (R % P) * Ri % P + (a / R) * (R * R % P) * Ri % P) % P = a % P := by
  rw [mont_enter hR, ← Nat.add_mod_mod, Nat.mod_mod]
  have h1 : a % R * (R % P) * Ri % P = a % R % P := by
    rw [Nat.mul_mod, Nat.mul_mod (a % R), Nat.mod_mod, ← Nat.mul_mod (a % R), ← Nat.mul_mod, Nat.mul_assoc, Nat.mul_mod, hR, ← Nat.mul_mod, Nat.mul_one]
  rw [h1, Nat.add_mod_mod, Nat.mod_add_mod, Nat.mul_comm (a / R), Nat.mod_add_div]
end Go.Proofs.YteaafnjflghlhaaDoor
namespace Go.Proofs.YteaafnjflghlhaaDoor
open Go.RowKit

/-- What is asked of a prime of so many limbs. -/
structure FNum (P L : Nat) : Prop where
  pos : 1 < P
  dbl : 2 * P ≤ 39402006196394479212279040100143613805079739270465446667948293404245721771497210611414266254884915640806627990306816
  fit : P < 18446744073709551616 ^ L
  limbs : L = 4 ∨ L = 6
  ri : ∃ Ri, 18446744073709551616 ^ L * Ri % P = 1 % P

/-- The cells of a field. -/
structure FldC (P L : Nat) (w : World) (B p0 p1 p2 p3 p4 p5 v o0 o1 o2 o3 o4 o5 q0 q1 q2 q3 q4 q5 : Nat) : Prop where
  hp : L6 w B 0 p0 p1 p2 p3 p4 p5
  lp : Lim6 p0 p1 p2 p3 p4 p5
  np : n6 p0 p1 p2 p3 p4 p5 = P
  hL : w.cell? ⟨B, 0 + 6, none⟩ = some (.int .i64 (L : Nat))
  hv : w.cell? ⟨B, 0 + 7, none⟩ = some (.int .u64 (v : Nat))
  iv : (P * v + 1) % 18446744073709551616 = 0
  ho : L6 w B 8 o0 o1 o2 o3 o4 o5
  lo : Lim6 o0 o1 o2 o3 o4 o5
  no : n6 o0 o1 o2 o3 o4 o5 = 18446744073709551616 ^ L % P
  hq : L6 w B 14 q0 q1 q2 q3 q4 q5
  lq : Lim6 q0 q1 q2 q3 q4 q5
  nq : n6 q0 q1 q2 q3 q4 q5 = 18446744073709551616 ^ L * 18446744073709551616 ^ L % P
/-- A field lies in block B. -/
def FldAt (P L : Nat) (w : World) (B : Nat) : Prop := ∃ p0 p1 p2 p3 p4 p5 v o0 o1 o2 o3 o4 o5 q0 q1 q2 q3 q4 q5 : Nat, FldC P L w B p0 p1 p2 p3 p4 p5 v o0 o1 o2 o3 o4 o5 q0 q1 q2 q3 q4 q5
theorem L6.keepB {w w' : World} {g o x0 x1 x2 x3 x4 x5 : Nat} (h : L6 w g o x0 x1 x2 x3 x4 x5) (hb : w'.heap[g]? = w.heap[g]?) : L6 w' g o x0 x1 x2 x3 x4 x5 :=
  h.keep (fun j _ => World.cell?_of_block (w := w) (a := ⟨g, o + j, none⟩) hb)
theorem L6.lt {w : World} {g o x0 x1 x2 x3 x4 x5 : Nat} (h : L6 w g o x0 x1 x2 x3 x4 x5) : g < w.heap.size := World.block_lt_of_cell? w _ h.c0
theorem FldAt.lt {P L : Nat} {w : World} {B : Nat} (h : FldAt P L w B) : B < w.heap.size := by
  obtain ⟨_, _, _, _, _, _, _, _, _, _, _, _, _, _, _, _, _, _, _, h⟩ := h
  exact h.hp.lt
theorem FldC.keepB {P L : Nat} {w w' : World} {B p0 p1 p2 p3 p4 p5 v o0 o1 o2 o3 o4 o5 q0 q1 q2 q3 q4 q5 : Nat} (h : FldC P L w B p0 p1 p2 p3 p4 p5 v o0 o1 o2 o3 o4 o5 q0 q1 q2 q3 q4 q5) (hb : w'.heap[B]? = w.heap[B]?) :
    FldC P L w' B p0 p1 p2 p3 p4 p5 v o0 o1 o2 o3 o4 o5 q0 q1 q2 q3 q4 q5 :=
  { h with hp := h.hp.keepB hb, hL := (World.cell?_of_block (w := w) (a := ⟨B, 0 + 6, none⟩) hb).trans h.hL, hv := (World.cell?_of_block (w := w) (a := ⟨B, 0 + 7, none⟩) hb).trans h.hv, ho := h.ho.keepB hb, hq := h.hq.keepB hb }
theorem FldAt.keepB {P L : Nat} {w w' : World} {B : Nat} (h : FldAt P L w B) (hb : w'.heap[B]? = w.heap[B]?) : FldAt P L w' B := by
  obtain ⟨_, _, _, _, _, _, _, _, _, _, _, _, _, _, _, _, _, _, _, h⟩ := h
  exact ⟨_, _, _, _, _, _, _, _, _, _, _, _, _, _, _, _, _, _, _, h.keepB hb⟩
theorem FldAt.below {P L : Nat} {w w' : World} {B b : Nat} (h : FldAt P L w B) (hb : Below b w w') (hB : B < b) : FldAt P L w' B := h.keepB (hb.block B hB)

/-- Of the blocks that stood, only six cells of one may have turned. -/
structure Grew6 (g o : Nat) (w w' : World) : Prop where
  os : w'.os = w.os
  tape : w'.tape = w.tape
  output : w'.output = w.output
  size : w.heap.size ≤ w'.heap.size
  block : ∀ k, k < w.heap.size → k ≠ g → w'.heap[k]? = w.heap[k]?
  cell : ∀ q, ¬(o ≤ q ∧ q < o + 6) → w'.cell? ⟨g, q, none⟩ = w.cell? ⟨g, q, none⟩
  frozen : ∀ q, w'.frozen? ⟨g, q, none⟩ = w.frozen? ⟨g, q, none⟩
theorem Grew6.refl (g o : Nat) (w : World) : Grew6 g o w w := ⟨rfl, rfl, rfl, Nat.le_refl _, fun _ _ _ => rfl, fun _ _ => rfl, fun _ => rfl⟩
theorem Grew6.trans {g o : Nat} {a b c : World} (h : Grew6 g o a b) (k : Grew6 g o b c) : Grew6 g o a c :=
  ⟨k.os.trans h.os, k.tape.trans h.tape, k.output.trans h.output, Nat.le_trans h.size k.size, fun i hi hn => (k.block i (Nat.lt_of_lt_of_le hi h.size) hn).trans (h.block i hi hn), fun q hq => (k.cell q hq).trans (h.cell q hq), fun q => (k.frozen q).trans (h.frozen q)⟩
theorem Grew6.of_put {g o : Nat} {w w' : World} (h : Put6 g o w w') : Grew6 g o w w' := ⟨h.os, h.tape, h.output, Nat.le_of_eq h.size.symm, fun k _ hn => h.block k hn, h.cell, h.frozen⟩
theorem Grew6.of_below {g o : Nat} {w w' : World} (h : Below w.heap.size w w') (hg : g < w.heap.size) : Grew6 g o w w' :=
  ⟨h.os, h.tape, h.output, h.size, fun k hk _ => h.block k hk, fun _ _ => h.cell hg, fun _ => h.frozen hg⟩
/-- Six cells of a new block turned: what stood stands. -/
theorem Grew6.new {g o g' o' : Nat} {w a b : World} (h : Grew6 g' o' w a) (k : Put6 g o a b) (hg : w.heap.size ≤ g) (hg' : g' < w.heap.size) : Grew6 g' o' w b :=
  ⟨k.os.trans h.os, k.tape.trans h.tape, k.output.trans h.output, by rw [k.size]; exact h.size, fun i hi hn => (k.block i (by omega)).trans (h.block i hi hn), fun q hq => (k.far _ (by show g' ≠ g; omega)).trans (h.cell q hq), fun q => (World.frozen?_of_block (w := a) (a := ⟨g', q, none⟩) (k.block g' (by omega))).trans (h.frozen q)⟩
/-- Where the block that turns is new, what lies below stands. -/
theorem Grew6.below {g o b : Nat} {w w' : World} (h : Grew6 g o w w') (hg : b ≤ g) (hb : b ≤ w.heap.size) : Below b w w' :=
  ⟨h.os, h.tape, h.output, h.size, fun k hk => h.block k (by omega) (by omega)⟩
theorem Grew6.apart {g o f p x0 x1 x2 x3 x4 x5 : Nat} {w w' : World} (h : Grew6 g o w w') (hx : L6 w f p x0 x1 x2 x3 x4 x5) (hn : f ≠ g) : L6 w' f p x0 x1 x2 x3 x4 x5 := hx.keepB (h.block f hx.lt hn)
end Go.Proofs.YteaafnjflghlhaaDoor
namespace Go.Proofs.YteaafnjflghlhaaDoor
open Go.RowKit

theorem lim0 : Lim 0 := by unfold Lim; omega
theorem six_new {w : World} {g x0 x1 x2 x3 x4 x5 : Nat} {t : TypeId} (h : w.heap[g]? = some (.cells #[.int .u64 (x0 : Nat), .int .u64 (x1 : Nat), .int .u64 (x2 : Nat), .int .u64 (x3 : Nat), .int .u64 (x4 : Nat), .int .u64 (x5 : Nat)] t (0, 0))) :
    L6 w g 0 x0 x1 x2 x3 x4 x5 ∧ ∀ k, w.frozen? ⟨g, k, none⟩ = false := by
  have c := fun j => cell_of_row w g j _ t _ h
  exact ⟨⟨c 0, c 1, c 2, c 3, c 4, c 5⟩, fun k => frozen_of_row w g k _ t h⟩
/-- What is high in a number of all limbs. -/
theorem n6_high4 {x0 x1 x2 x3 x4 x5 : Nat} (h : Lim6 x0 x1 x2 x3 x4 x5) : n6 x4 x5 0 0 0 0 = n6 x0 x1 x2 x3 x4 x5 / 18446744073709551616 ^ 4 := by
  obtain ⟨h0, h1, h2, h3, h4, h5⟩ := h
  unfold Lim at h0 h1 h2 h3 h4 h5
  unfold n6
  omega
theorem n6_high6 {x0 x1 x2 x3 x4 x5 : Nat} (h : Lim6 x0 x1 x2 x3 x4 x5) : n6 0 0 0 0 0 0 = n6 x0 x1 x2 x3 x4 x5 / 18446744073709551616 ^ 6 := by
  have := n6_lim h
  rw [Nat.div_eq_of_lt (by omega)]
  rfl
theorem n6_high4_lt {x4 x5 : Nat} (h4 : Lim x4) (h5 : Lim x5) : n6 x4 x5 0 0 0 0 < 18446744073709551616 ^ 4 := by
  unfold Lim at h4 h5
  unfold n6
  omega

set_option maxHeartbeats 3200000 in
/-- What reduce does behind its copy: the low limbs and the high ones are multiplied, and added. -/
theorem reduce_tail {P L B g o b1 H x0 x1 x2 x3 x4 x5 h0 h1 h2 h3 h4 h5 z0 z1 z2 z3 z4 z5 : Nat} {w w4 : World} (hk : FNum P L) (hF : FldAt P L w B) (hx : L6 w g o x0 x1 x2 x3 x4 x5) (lx : Lim6 x0 x1 x2 x3 x4 x5) (hf : ∀ k, w.frozen? ⟨g, k, none⟩ = false) (hn : g ≠ B)
    (hb : Below w.heap.size w w4) (g1 : w.heap.size ≤ b1) (g2 : w.heap.size ≤ H) (h12 : b1 ≠ H) (hz : L6 w4 b1 0 z0 z1 z2 z3 z4 z5) (hzf : ∀ k, w4.frozen? ⟨b1, k, none⟩ = false) (hh : L6 w4 H 0 h0 h1 h2 h3 h4 h5) (hhf : ∀ k, w4.frozen? ⟨H, k, none⟩ = false)
    (lh : Lim6 h0 h1 h2 h3 h4 h5) (eh : n6 h0 h1 h2 h3 h4 h5 = n6 x0 x1 x2 x3 x4 x5 / 18446744073709551616 ^ L) (hR : n6 h0 h1 h2 h3 h4 h5 < 18446744073709551616 ^ L) :
    Calls Tryd.prog 33 #[.pointer (some ⟨B, 0, none⟩), .pointer (some ⟨b1, 0, none⟩), .pointer (some ⟨g, o, none⟩), .pointer (some ⟨B, 8, none⟩)] w4 fun e w5 => e = .returned (.tuple #[]) ∧
      Calls Tryd.prog 33 #[.pointer (some ⟨B, 0, none⟩), .pointer (some ⟨H, 0, none⟩), .pointer (some ⟨H, 0, none⟩), .pointer (some ⟨B, 14, none⟩)] w5 fun e w6 => e = .returned (.tuple #[]) ∧
        Calls Tryd.prog 53 #[.pointer (some ⟨B, 0, none⟩), .pointer (some ⟨g, o, none⟩), .pointer (some ⟨b1, 0, none⟩), .pointer (some ⟨H, 0, none⟩)] w6 fun e w7 => e = .returned (.tuple #[]) ∧ Grew6 g o w w7 ∧
          ∃ s0 s1 s2 s3 s4 s5, L6 w7 g o s0 s1 s2 s3 s4 s5 ∧ Lim6 s0 s1 s2 s3 s4 s5 ∧ n6 s0 s1 s2 s3 s4 s5 = n6 x0 x1 x2 x3 x4 x5 % P := by
  obtain ⟨p0, p1, p2, p3, p4, p5, v, o0, o1, o2, o3, o4, o5, q0, q1, q2, q3, q4, q5, hC⟩ := hF
  have hBl := hC.hp.lt
  have hgl := hx.lt
  have hC4 := hC.keepB (hb.block B hBl)
  have hx4 := hx.keepB (hb.block g hgl)
  have hL6 : L ≤ 6 := by rcases hk.limbs with e | e <;> omega
  have hP := hk.pos
  have hD := hk.dbl
  obtain ⟨Ri, hRi⟩ := hk.ri
  have eP := hC.np
  have bo : n6 o0 o1 o2 o3 o4 o5 < n6 p0 p1 p2 p3 p4 p5 := by rw [hC.no, hC.np]; exact Nat.mod_lt _ (by omega)
  have bq : n6 q0 q1 q2 q3 q4 q5 < n6 p0 p1 p2 p3 p4 p5 := by rw [hC.nq, hC.np]; exact Nat.mod_lt _ (by omega)
  have hiv : (n6 p0 p1 p2 p3 p4 p5 * v + 1) % 18446744073709551616 = 0 := by rw [hC.np]; exact hC.iv
  have hdb : 2 * n6 p0 p1 p2 p3 p4 p5 ≤ 39402006196394479212279040100143613805079739270465446667948293404245721771497210611414266254884915640806627990306816 := by rw [hC.np]; exact hD
  refine (ftimes_c w4 hC4.hp hC4.lp hC4.hL hC4.hv hL6 hx4 lx hC4.ho hC4.lo ⟨_, _, _, _, _, _, hz⟩ hzf (by omega) bo hdb hiv).mono ?_
  rintro e w5 ⟨rfl, k5, s0, s1, s2, s3, s4, s5, S, hs, ls, hM, hLo⟩
  refine ⟨rfl, ?_⟩
  have hC5 := hC4.keepB (k5.block B (by omega))
  have hx5 := hx4.keepB (k5.block g (by omega))
  have hh5 := hh.keepB (k5.block H (by omega))
  have hf5 : ∀ k, w5.frozen? ⟨H, k, none⟩ = false := fun k => (World.frozen?_of_block (w := w4) (a := ⟨H, k, none⟩) (k5.block H (by omega))).trans (hhf k)
  refine (ftimes_c w5 hC5.hp hC5.lp hC5.hL hC5.hv hL6 hh5 lh hC5.hq hC5.lq ⟨_, _, _, _, _, _, hh5⟩ hf5 (by omega) bq hdb hiv).mono ?_
  rintro e w6 ⟨rfl, k6, t0, t1, t2, t3, t4, t5, T, ht, lt, hM2, hLo2⟩
  refine ⟨rfl, ?_⟩
  have hC6 := hC5.keepB (k6.block B (by omega))
  have hx6 := hx5.keepB (k6.block g (by omega))
  have hs6 := hs.keepB (k6.block b1 (by omega))
  have hf6 : ∀ k, w6.frozen? ⟨g, k, none⟩ = false := fun k => (World.frozen?_of_block (w := w5) (a := ⟨g, k, none⟩) (k6.block g (by omega))).trans ((World.frozen?_of_block (w := w4) (a := ⟨g, k, none⟩) (k5.block g (by omega))).trans ((hb.frozen (p := ⟨g, k, none⟩) hgl).trans (hf k)))
  have hRi' : 18446744073709551616 ^ L * Ri % n6 p0 p1 p2 p3 p4 p5 = 1 % n6 p0 p1 p2 p3 p4 p5 := by rw [eP]; exact hRi
  obtain ⟨bs, es⟩ := mont_times hM bo hLo hRi'
  obtain ⟨bt, et⟩ := mont_times hM2 bq hLo2 hRi'
  refine (fadd_c w6 hC6.hp hC6.lp hs6 ht ls lt ⟨_, _, _, _, _, _, hx6⟩ hf6 (Or.inr (by omega)) (Or.inr (by omega)) hn bs bt hdb).mono ?_
  rintro e w7 ⟨rfl, k7, u0, u1, u2, u3, u4, u5, hu, lu, eu⟩
  refine ⟨rfl, ((Grew6.of_below hb hgl).new k5 g1 hgl).new k6 g2 hgl |>.trans (Grew6.of_put k7), _, _, _, _, _, _, hu, lu, ?_⟩
  rw [eu, es, et, hC.no, hC.nq, eP, Nat.mod_eq_of_lt hR, eh]
  exact mont_reduce hRi

set_option maxRecDepth 100000 in
set_option maxHeartbeats 6400000 in
theorem freduce_c {P L B g o x0 x1 x2 x3 x4 x5 : Nat} (w : World) (hk : FNum P L) (hF : FldAt P L w B) (hx : L6 w g o x0 x1 x2 x3 x4 x5) (lx : Lim6 x0 x1 x2 x3 x4 x5) (hf : ∀ k, w.frozen? ⟨g, k, none⟩ = false) (hn : g ≠ B) :
    Calls Tryd.prog 29 #[.pointer (some ⟨B, 0, none⟩), .pointer (some ⟨g, o, none⟩)] w fun e w' => e = .returned (.tuple #[]) ∧ Grew6 g o w w' ∧
      ∃ s0 s1 s2 s3 s4 s5, L6 w' g o s0 s1 s2 s3 s4 s5 ∧ Lim6 s0 s1 s2 s3 s4 s5 ∧ n6 s0 s1 s2 s3 s4 s5 = n6 x0 x1 x2 x3 x4 x5 % P := by
  obtain ⟨p0, p1, p2, p3, p4, p5, v, o0, o1, o2, o3, o4, o5, q0, q1, q2, q3, q4, q5, hC⟩ := hF
  have C1 := Lib.hid (below_c w hx hC.hp lx hC.lp)
  have HNP := Lib.hid hC.np
  by_cases hlt : n6 x0 x1 x2 x3 x4 x5 < P
  · have HD : Hid (decide (n6 x0 x1 x2 x3 x4 x5 < n6 p0 p1 p2 p3 p4 p5) = true) := by rw [HNP.out]; exact decide_eq_true hlt
    have HE : Hid (n6 x0 x1 x2 x3 x4 x5 = n6 x0 x1 x2 x3 x4 x5 % P) := (Nat.mod_eq_of_lt hlt).symm
    have HX := Lib.hid hx
    have HLX := Lib.hid lx
    clear hlt hk hC hx lx hf hn
    go_enter Tryd.func29, Tryd.ntmps29
    go_wp2_with fail
    (with_reducible refine (C1.out).mono ?_)
    rintro e w' ⟨he, n, rfl⟩
    rw [HD.out] at he
    subst he
    go_wp2_with fail
    refine bodyPost_ret (v := .tuple #[]) (results_none rfl _ _ _) rfl ⟨rfl, Grew6.of_put ((Put6.refl g o w).drewN n), _, _, _, _, _, _, HX.out.drewN n, HLX.out, HE.out⟩
  · have HD : Hid (decide (n6 x0 x1 x2 x3 x4 x5 < n6 p0 p1 p2 p3 p4 p5) = false) := by rw [HNP.out]; exact decide_eq_false hlt
    have HX := Lib.hid hx
    have HLX := Lib.hid lx
    have HC := Lib.hid hC
    have HK := Lib.hid hk
    have HF := Lib.hid hf
    have HN := Lib.hid hn
    have HG : Hid (g < w.heap.size) := hx.lt
    have HB : Hid (B < w.heap.size) := hC.hp.lt
    clear hlt hk hC hx lx hf hn
    have arm : ∀ (n : Nat) (X : World), X = (((w.drewN n).alloc (.cells #[.int .u64 0, .int .u64 0, .int .u64 0, .int .u64 0, .int .u64 0, .int .u64 0] 24)).alloc (.cells #[.int .u64 0, .int .u64 0, .int .u64 0, .int .u64 0, .int .u64 0, .int .u64 0] 24)) →
        X.heap[w.heap.size]? = some (.cells #[.int .u64 0, .int .u64 0, .int .u64 0, .int .u64 0, .int .u64 0, .int .u64 0] 24 (0, 0)) ∧ X.heap[w.heap.size + 1]? = some (.cells #[.int .u64 0, .int .u64 0, .int .u64 0, .int .u64 0, .int .u64 0, .int .u64 0] 24 (0, 0)) ∧ Below w.heap.size w X ∧ X.heap.size = w.heap.size + 2 := by
      rintro n X rfl
      refine ⟨(Below.heap_alloc _ _ _ (by simp [World.drewN])).trans (heap_alloc_new (w.drewN n) _), ?_, ((show Below w.heap.size w (w.drewN n) from ⟨rfl, rfl, rfl, Nat.le_refl _, fun _ _ => rfl⟩).alloc (by simp [World.drewN]) _).alloc (by simp [World.drewN]) _, by simp [World.drewN]⟩
      have h := heap_alloc_new ((w.drewN n).alloc (.cells #[.int .u64 0, .int .u64 0, .int .u64 0, .int .u64 0, .int .u64 0, .int .u64 0] 24)) (.cells #[.int .u64 0, .int .u64 0, .int .u64 0, .int .u64 0, .int .u64 0, .int .u64 0] 24)
      simpa [World.drewN] using h
    have ARM := Lib.hid arm
    clear arm
    rcases HK.out.limbs with rfl | rfl
    · go_enter Tryd.func29, Tryd.ntmps29
      go_wp2_with fail
      (with_reducible refine (C1.out).mono ?_)
      rintro e w' ⟨he, n, rfl⟩
      rw [HD.out] at he
      subst he
      go_upto_region 2 with (fail)
      obtain ⟨X, hX⟩ : ∃ X, X = (((w.drewN n).alloc (.cells #[.int .u64 0, .int .u64 0, .int .u64 0, .int .u64 0, .int .u64 0, .int .u64 0] 24)).alloc (.cells #[.int .u64 0, .int .u64 0, .int .u64 0, .int .u64 0, .int .u64 0, .int .u64 0] 24)) := ⟨_, rfl⟩
      rw [← hX]
      obtain ⟨r1, r2, hb, hsz⟩ := ARM.out n X hX
      clear hX C1 HD
      have hcL : X.cell? ⟨B, 6, none⟩ = some (.int .i64 4) := (hb.cell (p := ⟨B, 6, none⟩) HB.out).trans HC.out.hL
      have hx4 := (hb.cell (p := ⟨g, o + 4, none⟩) HG.out).trans HX.out.c4
      have hx5 := (hb.cell (p := ⟨g, o + 5, none⟩) HG.out).trans HX.out.c5
      have R1 := Lib.hid r1
      have R2 := Lib.hid r2
      have HBX := Lib.hid hb
      have HSZ := Lib.hid hsz
      have X4 := Lib.hid hx4
      have X5 := Lib.hid hx5
      clear r1 r2 hb hsz hx4 hx5
      go_region_law (refine step_copy_splice rfl (.tmp 11) (.tmp 18) 82 82 rfl 22 Tryd.underlying82 (by kernel_rfl) (some ⟨w.heap.size + 1, 0, none⟩) (some ⟨g, o + 4, none⟩) 6 6 2 2 rfl rfl (w.heap.size + 1) 0 [.int .u64 0, .int .u64 0, .int .u64 0, .int .u64 0, .int .u64 0, .int .u64 0] 24 R2.out [.int .u64 (x4 : Nat), .int .u64 (x5 : Nat)] rfl (fun _ => ⟨rfl, _, rfl, fun j v hj => by
          match j with
          | 0 => simp at hj; subst hj; exact X4.out
          | 1 => simp at hj; subst hj; exact X5.out
          | k + 2 => simp at hj⟩) (by simp) (by intro v hv; simp at hv; rcases hv with rfl | rfl <;> rfl) (w.heap.size + 1) X ((Below.refl _ _).drew) (Nat.le_refl _) ?_; intro w4 hg4 hb4)
      have hbb : Below w.heap.size w w4 := HBX.out.trans (hb4.mono (by omega))
      obtain ⟨lz, fz⟩ := six_new ((hb4.block w.heap.size (by omega)).trans R1.out)
      obtain ⟨lh, fh⟩ := six_new (x0 := x4) (x1 := x5) (x2 := 0) (x3 := 0) (x4 := 0) (x5 := 0) hg4.out
      have C := Lib.hid (reduce_tail HK.out ⟨_, _, _, _, _, _, _, _, _, _, _, _, _, _, _, _, _, _, _, HC.out⟩ HX.out HLX.out HF.out HN.out hbb (Nat.le_refl _) (Nat.le_succ _) (by omega) (z0 := 0) (z1 := 0) (z2 := 0) (z3 := 0) (z4 := 0) (z5 := 0) lz fz lh fh ⟨HLX.out.2.2.2.2.1, HLX.out.2.2.2.2.2, lim0, lim0, lim0, lim0⟩ (n6_high4 HLX.out) (n6_high4_lt HLX.out.2.2.2.2.1 HLX.out.2.2.2.2.2))
      clear hbb lz fz lh fh hb4 hg4 R1 R2 HBX HSZ X4 X5 hcL
      go_wp2_with fail
      (with_reducible refine (C.out).mono ?_)
      rintro e w5 ⟨rfl, D⟩
      have D := Lib.hid D
      clear C
      go_wp2_with fail
      (with_reducible refine (D.out).mono ?_)
      rintro e w6 ⟨rfl, C⟩
      have C := Lib.hid C
      clear D
      go_wp2_with fail
      (with_reducible refine (C.out).mono ?_)
      rintro e w7 ⟨rfl, HR⟩
      have HR := Lib.hid HR
      clear C
      go_wp2_with fail
      go_end0
      exact ⟨rfl, HR.out⟩
    · go_enter Tryd.func29, Tryd.ntmps29
      go_wp2_with fail
      (with_reducible refine (C1.out).mono ?_)
      rintro e w' ⟨he, n, rfl⟩
      rw [HD.out] at he
      subst he
      go_upto_region 2 with (fail)
      obtain ⟨X, hX⟩ : ∃ X, X = (((w.drewN n).alloc (.cells #[.int .u64 0, .int .u64 0, .int .u64 0, .int .u64 0, .int .u64 0, .int .u64 0] 24)).alloc (.cells #[.int .u64 0, .int .u64 0, .int .u64 0, .int .u64 0, .int .u64 0, .int .u64 0] 24)) := ⟨_, rfl⟩
      rw [← hX]
      obtain ⟨r1, r2, hb, hsz⟩ := ARM.out n X hX
      clear hX C1 HD
      have hcL : X.cell? ⟨B, 6, none⟩ = some (.int .i64 6) := (hb.cell (p := ⟨B, 6, none⟩) HB.out).trans HC.out.hL
      have hx4 := (hb.cell (p := ⟨g, o + 4, none⟩) HG.out).trans HX.out.c4
      have hx5 := (hb.cell (p := ⟨g, o + 5, none⟩) HG.out).trans HX.out.c5
      have R1 := Lib.hid r1
      have R2 := Lib.hid r2
      have HBX := Lib.hid hb
      have HSZ := Lib.hid hsz
      have X4 := Lib.hid hx4
      have X5 := Lib.hid hx5
      clear r1 r2 hb hsz hx4 hx5
      go_region_law (refine step_copy_splice rfl (.tmp 11) (.tmp 18) 82 82 rfl 22 Tryd.underlying82 (by kernel_rfl) (some ⟨w.heap.size + 1, 0, none⟩) (some ⟨g, o, none⟩) 6 6 0 0 rfl rfl (w.heap.size + 1) 0 [.int .u64 0, .int .u64 0, .int .u64 0, .int .u64 0, .int .u64 0, .int .u64 0] 24 R2.out [] rfl (fun h => by simp at h) (by simp) (by intro v hv; simp at hv) (w.heap.size + 1) X ((Below.refl _ _).drew) (Nat.le_refl _) ?_; intro w4 hg4 hb4)
      have hbb : Below w.heap.size w w4 := HBX.out.trans (hb4.mono (by omega))
      obtain ⟨lz, fz⟩ := six_new ((hb4.block w.heap.size (by omega)).trans R1.out)
      obtain ⟨lh, fh⟩ := six_new (x0 := 0) (x1 := 0) (x2 := 0) (x3 := 0) (x4 := 0) (x5 := 0) hg4.out
      have C := Lib.hid (reduce_tail HK.out ⟨_, _, _, _, _, _, _, _, _, _, _, _, _, _, _, _, _, _, _, HC.out⟩ HX.out HLX.out HF.out HN.out hbb (Nat.le_refl _) (Nat.le_succ _) (by omega) (z0 := 0) (z1 := 0) (z2 := 0) (z3 := 0) (z4 := 0) (z5 := 0) lz fz lh fh ⟨lim0, lim0, lim0, lim0, lim0, lim0⟩ (n6_high6 HLX.out) (by decide))
      clear hbb lz fz lh fh hb4 hg4 R1 R2 HBX HSZ X4 X5 hcL
      go_wp2_with fail
      (with_reducible refine (C.out).mono ?_)
      rintro e w5 ⟨rfl, D⟩
      have D := Lib.hid D
      clear C
      go_wp2_with fail
      (with_reducible refine (D.out).mono ?_)
      rintro e w6 ⟨rfl, C⟩
      have C := Lib.hid C
      clear D
      go_wp2_with fail
      (with_reducible refine (C.out).mono ?_)
      rintro e w7 ⟨rfl, HR⟩
      have HR := Lib.hid HR
      clear C
      go_wp2_with fail
      go_end0
      exact ⟨rfl, HR.out⟩
end Go.Proofs.YteaafnjflghlhaaDoor
