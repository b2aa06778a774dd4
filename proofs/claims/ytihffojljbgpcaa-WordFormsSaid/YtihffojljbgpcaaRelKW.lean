/- Calls and blocks of words in regions that are asked by the relation Kept. -/
import Derived.Test.YtihffojljbgpcaaWordMod2
import Derived.Test.YtihffojljbgpcaaRel
import Derived.Test.YtihffojljbgpcaaRefW
namespace Go.Proofs.Ytihffojljbgpcaa.RK
open Go.RowKit

/-- Eight limbs of a number. -/
def Lng (v : Value) (n : Nat) : Prop := ∃ c0 c1 c2 c3 c4 c5 c6 c7 : Nat, v = L8 c0 c1 c2 c3 c4 c5 c6 c7 ∧ Lims [c0, c1, c2, c3, c4, c5, c6, c7] ∧ vl [c0, c1, c2, c3, c4, c5, c6, c7] = n
def Fact.lng {R : Rl} (n : Nat) : Fact R := ⟨fun v _ => Lng v n, fun _ _ _ _ h => h⟩
def Qr (v : Value) (q r : Nat) : Prop := ∃ x, v = .tuple #[x, W r] ∧ Lng x q
def Fact.qr {R : Rl} (q r : Nat) : Fact R := ⟨fun v _ => Qr v q r, fun _ _ _ _ h => h⟩
section
variable {P : Program} {B : Nat} {T : Facts (Kept B)}
theorem rel_callL {n : Nat} {f : FuncId} {args : Array Value} {d : Option Nat} {w : World} (hB : B ≤ w.heap.size) (h : Calls P f args w (RetL n w)) (k : ∀ v w', Lng v n → factTo T d v w') : relUpon P T d w (.ok (.enter f args) w) :=
  ⟨(Kept B).refl _, h.mono fun _ w'' ⟨c0, c1, c2, c3, c4, c5, c6, c7, he, hl, hv, hb⟩ => ⟨_, he, kept_below hB hb, k _ w'' ⟨c0, c1, c2, c3, c4, c5, c6, c7, rfl, hl, hv⟩⟩⟩
theorem rel_callQ {q r : Nat} {f : FuncId} {args : Array Value} {d : Option Nat} {w : World} (hB : B ≤ w.heap.size) (h : Calls P f args w (RetQR q r w)) (k : ∀ v w', Qr v q r → factTo T d v w') : relUpon P T d w (.ok (.enter f args) w) :=
  ⟨(Kept B).refl _, h.mono fun _ w'' ⟨q0, q1, q2, q3, q4, q5, q6, q7, r0, r1, r2, r3, he, hl, hv, hr, hb⟩ => ⟨_, he, kept_below hB hb, k _ w'' (by
    obtain ⟨rfl, rfl, rfl, rfl⟩ := hr.canon
    exact ⟨_, rfl, q0, q1, q2, q3, q4, q5, q6, q7, rfl, hl, hv⟩)⟩⟩
theorem kept_put8 {w : World} {f : Nat} {t : TypeId} {n a b c d e g i j : Nat} (hf : B ≤ f) (hs : Shp w f t n) : (Kept B).r w ((((((((w.setCell ⟨f, 0, none⟩ (.int .u64 (a : Int))).setCell ⟨f, 1, none⟩ (.int .u64 (b : Int))).setCell ⟨f, 2, none⟩ (.int .u64 (c : Int))).setCell ⟨f, 3, none⟩ (.int .u64 (d : Int))).setCell ⟨f, 4, none⟩ (.int .u64 (e : Int))).setCell ⟨f, 5, none⟩ (.int .u64 (g : Int))).setCell ⟨f, 6, none⟩ (.int .u64 (i : Int))).setCell ⟨f, 7, none⟩ (.int .u64 (j : Int))) := by
  have k0 := kept_put4 (a := a) (b := b) (c := c) (d := d) hf hs
  have k1 := (Kept B).trans k0 (kept_set (k := 4) (v := e) hf (k0.2 _ _ _ hs))
  have k2 := (Kept B).trans k1 (kept_set (k := 5) (v := g) hf (k1.2 _ _ _ hs))
  have k3 := (Kept B).trans k2 (kept_set (k := 6) (v := i) hf (k2.2 _ _ _ hs))
  exact (Kept B).trans k3 (kept_set (k := 7) (v := j) hf (k3.2 _ _ _ hs))
theorem Shp.cells8 {w : World} {g : Nat} {t : TypeId} (h : Shp w g t 8) : ∃ x0 x1 x2 x3 x4 x5 x6 x7 : Nat, Arr w g t [x0, x1, x2, x3, x4, x5, x6, x7] := by
  obtain ⟨xs, hl, h⟩ := h
  match xs, hl with
  | [x0, x1, x2, x3, x4, x5, x6, x7], _ => exact ⟨x0, x1, x2, x3, x4, x5, x6, x7, h⟩
theorem Shp.cells4 {w : World} {g : Nat} {t : TypeId} (h : Shp w g t 4) : ∃ x0 x1 x2 x3 : Nat, Arr w g t [x0, x1, x2, x3] := by
  obtain ⟨xs, hl, h⟩ := h
  match xs, hl with
  | [x0, x1, x2, x3], _ => exact ⟨x0, x1, x2, x3, h⟩
theorem rel_skip {d : Option Nat} {w w' : World} (hr : (Kept B).r w w') (h : factTo T d undef w') : relUpon P T d w (.ok .skip w') := ⟨hr, h⟩
theorem rel_callW {n : Nat} {f : FuncId} {args : Array Value} {d : Option Nat} {w : World} (hB : B ≤ w.heap.size) (h : Calls P f args w (RetW n w)) (k : ∀ w', factTo T d (W n) w') : relUpon P T d w (.ok (.enter f args) w) :=
  ⟨(Kept B).refl _, h.mono fun _ w'' hh => ⟨W n, hh.val.1, kept_below hB hh.val.2, k w''⟩⟩
theorem rel_callV {u : Value} {f : FuncId} {args : Array Value} {d : Option Nat} {w : World} (hB : B ≤ w.heap.size) (h : Calls P f args w (RetV u w)) (k : ∀ w', factTo T d u w') : relUpon P T d w (.ok (.enter f args) w) :=
  ⟨(Kept B).refl _, h.mono fun _ w'' hh => ⟨u, hh.1, kept_below hB hh.2, k w''⟩⟩
end
end Go.Proofs.Ytihffojljbgpcaa.RK
