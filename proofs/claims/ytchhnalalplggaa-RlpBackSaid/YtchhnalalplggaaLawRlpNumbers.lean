/- The law RlpNumbers. -/
import Derived.Test.YtchhnalalplggaaRlNum
import Derived.Test.YtchhnalalplggaaRlSame
import Derived.Test.YtchhnalalplggaaEqArr
import Derived.Test.YtchhnalalplggaaRel
import Derived.Deep.RegionWith
namespace Go.Proofs.Ytchhnalalplggaa
open Go.RowKit

theorem numS_short {a : Nat} (h : Big a) : numS (shortv a) = (a, 0) := by
  have hl : (shortv a).length ≤ 32 := by rw [shortv_len h]; exact short_k h
  have hc := (shortv_can h).2.2
  have hb : be (shortv a) = a := shortv_dv h
  unfold numS
  rw [if_neg, if_neg (by omega), hb]
  intro ⟨h0, hz⟩
  have h1 := hc (by rw [List.length_reverse]; exact h0)
  apply h1
  rw [List.length_reverse, rev_get _ _ (by omega), show (shortv a).length - 1 - ((shortv a).length - 1) = 0 by omega]
  exact hz

section
variable {ops : Array Oper} {T : Facts} {o : Oper} {a : Act} {w : World}
theorem op_eqW {n : Nat} (x y : Operand) (t : TypeId) (ho : o.op = .binOp .eql 52 x y t) (hx : a.eval x = W n) (hy : a.eval y = W n) (hw : Region.wanted o (yielded ops a.tmps) = true) (hf : factTo T o.dst (.bool true) w) : relStep Try.prog ops T o a w :=
  relStep_val (.bool true) hw hf (by
    have q := eqIn_same (lim 0 n) (lim 1 n) (lim 2 n) (lim 3 n)
    unfold execOp
    rw [ho]
    simp only [hx, hy]
    go_simp)
end
section
variable {ops : Array Oper} {T : Facts} {o : Oper} {a : Act} {w : World}
theorem op_loadRow {g : Nat} {ty : TypeId} {cs : Array Value} (x : Operand) (ho : o.op = .load ty x) (hx : a.eval x = .pointer (some ⟨g, 0, none⟩)) (hv : (loadVar ty ⟨g, 0, none⟩).run Try.prog w = .ok (.agg cs) w)
    (hw : Region.wanted o (yielded ops a.tmps) = true) (hf : factTo T o.dst (.agg cs) w) : relStep Try.prog ops T o a w :=
  relStep_val (.agg cs) hw hf (by
    unfold execOp
    simp only [ho, hx, Instr.loadAt, Instr.sureAddr, Sem.run_bind, Sem.run_pure, Result.andThen_ok, hv])
theorem op_eqE {z : Int} (x y : Operand) (t : TypeId) (ho : o.op = .binOp .eql 28 x y t) (hx : a.eval x = .int .i64 z) (hy : a.eval y = .int .i64 z) (hw : Region.wanted o (yielded ops a.tmps) = true) (hf : factTo T o.dst (.bool true) w) : relStep Try.prog ops T o a w :=
  relStep_val (.bool true) hw hf (by
    unfold execOp
    rw [ho]
    simp only [hx, hy]
    go_simp)
theorem op_call0 {f : FuncId} {tys : Array TypeId} {R : World → Value → Prop} (ho : o.op = .call { callee := .value (.func f), args := #[], argTypes := tys }) (he : ∀ args w, (callFunc f args).run Try.prog w = .ok (.enter f args) w) (hw : Region.wanted o (yielded ops a.tmps) = true)
    (h : Calls Try.prog f #[] w (RetR R w)) (k : ∀ v w', R w' v → factTo T o.dst v w') : relStep Try.prog ops T o a w :=
  relStep_call f #[] hw h k (by
    have hp : a.eval (.func f) = .func (.func f) #[] #[] := rfl
    have e := he #[] w
    clear h hw k
    generalize a.eval = p at *
    unfold execOp
    rw [ho]
    go_simp)
theorem op_call1 {f : FuncId} {tys : Array TypeId} {R : World → Value → Prop} (x : Operand) (ho : o.op = .call { callee := .value (.func f), args := #[x], argTypes := tys }) (he : ∀ args w, (callFunc f args).run Try.prog w = .ok (.enter f args) w) (hw : Region.wanted o (yielded ops a.tmps) = true)
    (h : Calls Try.prog f #[a.eval x] w (RetR R w)) (k : ∀ v w', R w' v → factTo T o.dst v w') : relStep Try.prog ops T o a w :=
  relStep_call f #[a.eval x] hw h k (by
    have hp : a.eval (.func f) = .func (.func f) #[] #[] := rfl
    have e := he #[a.eval x] w
    clear h hw k
    generalize a.eval = p at *
    unfold execOp
    rw [ho]
    go_simp)
theorem op_callB {f : FuncId} {tys : Array TypeId} {R : World → Value → Prop} (x y : Operand) (ho : o.op = .call { callee := .value (.func f), args := #[x, y], argTypes := tys }) (he : ∀ args w, (callFunc f args).run Try.prog w = .ok (.enter f args) w) (hw : Region.wanted o (yielded ops a.tmps) = true)
    (h : Calls Try.prog f #[a.eval x, a.eval y] w (RetR R w)) (k : ∀ v w', R w' v → factTo T o.dst v w') : relStep Try.prog ops T o a w :=
  relStep_call f #[a.eval x, a.eval y] hw h k (by
    have hp : a.eval (.func f) = .func (.func f) #[] #[] := rfl
    have e := he #[a.eval x, a.eval y] w
    clear h hw k
    generalize a.eval = p at *
    unfold execOp
    rw [ho]
    go_simp)
end
theorem en_rof (args : Array Value) (w : World) : (callFunc 27 args).run Try.prog w = .ok (.enter 27 args) w := by go_simp
theorem en_same (args : Array Value) (w : World) : (callFunc 19 args).run Try.prog w = .ok (.enter 19 args) w := by go_simp
theorem en_wakes5 (args : Array Value) (w : World) : (callFunc 15 args).run Try.prog w = .ok (.enter 15 args) w := by go_simp
/-- An item that is a text. -/
def Fact.item (bs : List Nat) : Fact := ⟨fun v w => IAt (fun _ => True) w v (.text bs), fun _ _ _ hb h => h.keep hb⟩
theorem RetV.ret {u : Value} {w : World} {e : Ending} {w' : World} (h : RetV u w e w') : RetR (fun _ v => v = u) w e w' := ⟨u, h.1, rfl, h.2⟩
theorem OfQ.ret {n : Nat} {w : World} {e : Ending} {w' : World} (h : OfQ n w e w') : RetR (fun w v => IAt (fun _ => True) w v (.text (shortv n))) w e w' := by
  obtain ⟨v, he, hv, hb⟩ := h
  exact ⟨_, he, IAt.ofByt hv, hb⟩

/-- What stands in memory while the law looks. -/
structure NCs (X : World) (g3 g6 g8 g10 g11 : Nat) (a n : Nat) (v : Value) : Prop where
  c3 : X.heap[g3]? = some (.cells #[.int .u64 (lim 0 a : Nat), .int .u64 (lim 1 a : Nat), .int .u64 (lim 2 a : Nat), .int .u64 (lim 3 a : Nat)] 52 (0, 0))
  c6 : X.heap[g6]? = some (.cells #[.int .u64 (lim 0 n : Nat), .int .u64 (lim 1 n : Nat), .int .u64 (lim 2 n : Nat), .int .u64 (lim 3 n : Nat)] 52 (0, 0))
  c8 : X.heap[g8]? = some (.cells #[.int .u64 (lim 0 n : Nat), .int .u64 (lim 1 n : Nat), .int .u64 (lim 2 n : Nat), .int .u64 (lim 3 n : Nat)] 52 (0, 0))
  c10 : X.heap[g10]? = some (.cells #[.bool false, v, .slice none 0 0] 25 (0, 0))
  c11 : X.heap[g11]? = some (.cells #[.int .u64 (lim 0 a : Nat), .int .u64 (lim 1 a : Nat), .int .u64 (lim 2 a : Nat), .int .u64 (lim 3 a : Nat)] 52 (0, 0))
  by_ : Byt X v (shortv a)
theorem lt_of_heap {w : World} {g : Nat} {o : Obj} (h : w.heap[g]? = some o) : g < w.heap.size := (Array.getElem?_eq_some_iff.1 h).1
theorem NCs.below {X Y : World} {g3 g6 g8 g10 g11 a n : Nat} {v : Value} (h : NCs X g3 g6 g8 g10 g11 a n v) (hb : Below X.heap.size X Y) : NCs Y g3 g6 g8 g10 g11 a n v :=
  ⟨(hb.block _ (lt_of_heap h.c3)).trans h.c3, (hb.block _ (lt_of_heap h.c6)).trans h.c6, (hb.block _ (lt_of_heap h.c8)).trans h.c8, (hb.block _ (lt_of_heap h.c10)).trans h.c10, (hb.block _ (lt_of_heap h.c11)).trans h.c11, h.by_.below hb⟩

set_option maxRecDepth 100000 in
set_option maxHeartbeats 6400000 in
theorem rlpNumbers_c {A : Option Addr} {c : Nat} {raw : List Nat} {a : Nat} (w : World) (h : Rd .u8 w A c raw) (hd : Ds 256 raw) (ha : Big a) : Calls Try.prog 8 #[.slice A raw.length c, W a] w (RetV (.bool true) w) := by
  have hbx : Below w.heap.size w (w.alloc (.cells #[.int .u64 (lim 0 a : Nat), .int .u64 (lim 1 a : Nat), .int .u64 (lim 2 a : Nat), .int .u64 (lim 3 a : Nat)] 52)) := (Below.refl _ _).alloc (Nat.le_refl _) _
  have hc3 := heap_alloc_new w (.cells #[.int .u64 (lim 0 a : Nat), .int .u64 (lim 1 a : Nat), .int .u64 (lim 2 a : Nat), .int .u64 (lim 3 a : Nat)] 52)
  have hs0 : (w.alloc (.cells #[.int .u64 (lim 0 a : Nat), .int .u64 (lim 1 a : Nat), .int .u64 (lim 2 a : Nat), .int .u64 (lim 3 a : Nat)] 52)).heap.size = w.heap.size + 1 := by simp
  have k1 : Calls Try.prog 16 #[.slice A raw.length c, .int .i64 100] (w.alloc (.cells #[.int .u64 (lim 0 a : Nat), .int .u64 (lim 1 a : Nat), .int .u64 (lim 2 a : Nat), .int .u64 (lim 3 a : Nat)] 52)) (RetR (fun w' v => Byt w' v (raw.take 100)) _) := twin_c _ (h.below hbx) hd 100 (by omega) (by omega)
  obtain ⟨p, hp⟩ : ∃ p, p = raw.take 100 := ⟨_, rfl⟩
  have hpl : p.length ≤ 100 := by rw [hp, List.length_take]; omega
  have hpt : p.take 100 = p := List.take_of_length_le hpl
  rw [← hp] at k1
  have k2 : ∀ (w : World) (A : Option Addr) (c : Nat), Rd .u8 w A c p → Ds 256 p → Calls Try.prog 16 #[.slice A p.length c, .int .i64 100] w (RetR (fun w' v => Byt w' v p) w) := fun w A c h hd => by
    have := twin_c w h hd 100 (by omega) (by omega)
    rw [hpt] at this
    exact this
  obtain ⟨n, hn⟩ : ∃ n, n = (numS p).1 := ⟨_, rfl⟩
  obtain ⟨en, hen⟩ : ∃ e, e = (numS p).2 := ⟨_, rfl⟩
  have k3 : ∀ (w : World) (A : Option Addr) (c : Nat), Rd .u8 w A c p → Ds 256 p → Calls Try.prog 24 #[.slice A p.length c] w fun e w' => e = .returned (.tuple #[.agg #[.int .u64 (lim 0 n : Nat), .int .u64 (lim 1 n : Nat), .int .u64 (lim 2 n : Nat), .int .u64 (lim 3 n : Nat)], .int .i64 (en : Nat)]) ∧ Below w.heap.size w w' := fun w A c h hd => by
    have := number_q w h hd (by omega)
    unfold NumQ at this
    rw [← hn, ← hen] at this
    exact this
  have k4 : ∀ (w : World) (A : Option Addr) (c : Nat), Rd .u8 w A c p → Ds 256 p → Calls Try.prog 25 #[.slice A p.length c] w fun e w' => e = .returned (.tuple #[.agg #[.int .u64 (lim 0 n : Nat), .int .u64 (lim 1 n : Nat), .int .u64 (lim 2 n : Nat), .int .u64 (lim 3 n : Nat)], .int .i64 (en : Nat)]) ∧ Below w.heap.size w w' := fun w A c h hd => by
    have := rnumber_q w h hd (by omega)
    unfold NumQ at this
    rw [← hn, ← hen] at this
    exact this
  have k5 : ∀ w, Calls Try.prog 26 #[.agg #[.int .u64 (lim 0 a : Nat), .int .u64 (lim 1 a : Nat), .int .u64 (lim 2 a : Nat), .int .u64 (lim 3 a : Nat)]] w (OfQ a w) := fun w => of_q ha w
  have k6 : ∀ (w : World) (A : Option Addr) (c : Nat), Rd .u8 w A c (shortv a) → Calls Try.prog 24 #[.slice A (shortv a).length c] w fun e w' => e = .returned (.tuple #[.agg #[.int .u64 (lim 0 a : Nat), .int .u64 (lim 1 a : Nat), .int .u64 (lim 2 a : Nat), .int .u64 (lim 3 a : Nat)], .int .i64 0]) ∧ Below w.heap.size w w' := fun w A c h => by
    have := number_q w h (shortv_ds a) (by rw [shortv_len ha]; have := short_k ha; omega)
    unfold NumQ at this
    rw [numS_short ha] at this
    exact this
  have k7 : ∀ w, Calls Try.prog 27 #[.agg #[.int .u64 (lim 0 a : Nat), .int .u64 (lim 1 a : Nat), .int .u64 (lim 2 a : Nat), .int .u64 (lim 3 a : Nat)]] w (OfQ a w) := fun w => rof_q ha w
  have HIS : Hid (isz (.text (shortv a)) ≤ 1099511627776) := by
    have h1 : (shortv a).length ≤ 32 := by rw [shortv_len ha]; exact short_k ha
    exact Lib.hid (by simp [isz, iszL]; try omega)
  have K1 := Lib.hid k1
  have K2 := Lib.hid k2
  have K3 := Lib.hid k3
  have K4 := Lib.hid k4
  have K5 := Lib.hid k5
  have K6 := Lib.hid k6
  have K7 := Lib.hid k7
  have HC3 := Lib.hid hc3
  have HBX := Lib.hid hbx
  have HS0 := Lib.hid hs0
  have q1 : ∀ w, (Op.equalIn 10000 52 (.agg #[.int .u64 (lim 0 n : Nat), .int .u64 (lim 1 n : Nat), .int .u64 (lim 2 n : Nat), .int .u64 (lim 3 n : Nat)]) (.agg #[.int .u64 (lim 0 n : Nat), .int .u64 (lim 1 n : Nat), .int .u64 (lim 2 n : Nat), .int .u64 (lim 3 n : Nat)])).run Try.prog w = .ok true w := eqIn_same _ _ _ _
  have q2 : ∀ w, (Op.equalIn 10000 52 (.agg #[.int .u64 (lim 0 a : Nat), .int .u64 (lim 1 a : Nat), .int .u64 (lim 2 a : Nat), .int .u64 (lim 3 a : Nat)]) (.agg #[.int .u64 (lim 0 a : Nat), .int .u64 (lim 1 a : Nat), .int .u64 (lim 2 a : Nat), .int .u64 (lim 3 a : Nat)])).run Try.prog w = .ok true w := eqIn_same _ _ _ _
  have Q1 := Lib.hid q1
  have Q2 := Lib.hid q2
  obtain ⟨R, hR⟩ : ∃ R, R = raw.length := ⟨_, rfl⟩
  obtain ⟨L, hL⟩ : ∃ L, L = p.length := ⟨_, rfl⟩
  rw [← hR] at K1 ⊢
  simp only [← hL] at K2 K3 K4
  have HL := Lib.hid hL
  unfold W W4
  clear h hd ha k1 k2 k3 k4 k5 k6 k7 hp hpl hpt hR hL hn hen hc3 hbx hs0 q1 q2
  go_enter Try.func8, Try.ntmps8
  go_wp2_with fail
  (with_reducible refine K1.out.mono ?_)
  rintro e w1 ⟨v1, rfl, ⟨A1, c1, rfl, hr1, hd1⟩, hb1⟩
  rw [← HL.out]
  have HR1 := Lib.hid hr1
  have HD := Lib.hid hd1
  have C3 := Lib.hid ((hb1.block w.heap.size (by rw [HS0.out]; omega)).trans HC3.out)
  have HB1 := Lib.hid (HBX.out.trans (hb1.mono (by rw [HS0.out]; omega)))
  clear K1 hr1 hd1 hb1 HC3 HBX HS0
  go_wp2_with fail
  (with_reducible refine (K2.out _ _ _ HR1.out HD.out).mono ?_)
  rintro e w2 ⟨v2, rfl, ⟨A2, c2, rfl, hr2, hd2⟩, hb2⟩
  rw [← HL.out]
  have HR2 := Lib.hid hr2
  have HR12 := Lib.hid (HR1.out.below hb2)
  have C3 := Lib.hid ((hb2.block _ (lt_of_heap C3.out)).trans C3.out)
  have HB2 := Lib.hid (HB1.out.trans (hb2.mono HB1.out.size))
  clear K2 hr2 hd2 hb2 HR1 HB1
  go_wp2_with fail
  (with_reducible refine (K3.out _ _ _ HR2.out HD.out).mono ?_)
  rintro e w3 ⟨rfl, hb3⟩
  have hb3 := hb3.trans ((((Below.refl w3.heap.size w3).alloc (Nat.le_refl _) (.cells #[.int .u64 (lim 0 n : Nat), .int .u64 (lim 1 n : Nat), .int .u64 (lim 2 n : Nat), .int .u64 (lim 3 n : Nat)] 52))).mono hb3.size)
  have C6 := Lib.hid (heap_alloc_new w3 (.cells #[.int .u64 (lim 0 n : Nat), .int .u64 (lim 1 n : Nat), .int .u64 (lim 2 n : Nat), .int .u64 (lim 3 n : Nat)] 52))
  have C3 := Lib.hid ((hb3.block _ (lt_of_heap C3.out)).trans C3.out)
  have HR13 := Lib.hid (HR12.out.below hb3)
  have HB3 := Lib.hid (HB2.out.trans (hb3.mono HB2.out.size))
  clear K3 hb3 HR2 HR12 HB2
  go_wp2_with fail
  (with_reducible refine (K4.out _ _ _ HR13.out HD.out).mono ?_)
  rintro e w4 ⟨rfl, hb4⟩
  have hb4 := hb4.trans ((((Below.refl w4.heap.size w4).alloc (Nat.le_refl _) (.cells #[.int .u64 (lim 0 n : Nat), .int .u64 (lim 1 n : Nat), .int .u64 (lim 2 n : Nat), .int .u64 (lim 3 n : Nat)] 52))).mono hb4.size)
  have C8 := Lib.hid (heap_alloc_new w4 (.cells #[.int .u64 (lim 0 n : Nat), .int .u64 (lim 1 n : Nat), .int .u64 (lim 2 n : Nat), .int .u64 (lim 3 n : Nat)] 52))
  have C6 := Lib.hid ((hb4.block _ (lt_of_heap C6.out)).trans C6.out)
  have C3 := Lib.hid ((hb4.block _ (lt_of_heap C3.out)).trans C3.out)
  have HB4 := Lib.hid (HB3.out.trans (hb4.mono HB3.out.size))
  obtain ⟨x0, x1, x2, x3, -, -, -, -⟩ := four_cells5 C3.out
  clear K4 hb4 HR13 HB3
  go_wp2_with fail
  (with_reducible refine (K5.out _).mono ?_)
  rintro e w5 ⟨v5, rfl, hv5, hb5⟩
  obtain ⟨A5, c5, rfl, hr5, hd5⟩ := hv5
  have hb5 := hb5.trans ((((Below.refl w5.heap.size w5).alloc (Nat.le_refl _) (.cells #[.bool false, .slice A5 (shortv a).length c5, .slice none 0 0] 25))).mono hb5.size)
  have C10 := Lib.hid (heap_alloc_new w5 (.cells #[.bool false, .slice A5 (shortv a).length c5, .slice none 0 0] 25))
  have C8 := Lib.hid ((hb5.block _ (lt_of_heap C8.out)).trans C8.out)
  have C6 := Lib.hid ((hb5.block _ (lt_of_heap C6.out)).trans C6.out)
  have C3 := Lib.hid ((hb5.block _ (lt_of_heap C3.out)).trans C3.out)
  have HB5 := Lib.hid (HB4.out.trans (hb5.mono HB4.out.size))
  have HR5 := Lib.hid (hr5.alloc (.cells #[.bool false, .slice A5 (shortv a).length c5, .slice none 0 0] 25))
  have HD5 := Lib.hid hd5
  clear K5 hb5 HB4 x0 x1 x2 x3 hr5 hd5
  obtain ⟨x0, x1, x2, -, -, -⟩ := three_cells C10.out
  go_wp2_with fail
  (with_reducible refine (K6.out _ _ _ HR5.out).mono ?_)
  rintro e w6 ⟨rfl, hb6⟩
  have hb6 := hb6.trans ((((Below.refl w6.heap.size w6).alloc (Nat.le_refl _) (.cells #[.int .u64 (lim 0 a : Nat), .int .u64 (lim 1 a : Nat), .int .u64 (lim 2 a : Nat), .int .u64 (lim 3 a : Nat)] 52))).mono hb6.size)
  have CS : Hid (NCs (w6.alloc (.cells #[.int .u64 (lim 0 a : Nat), .int .u64 (lim 1 a : Nat), .int .u64 (lim 2 a : Nat), .int .u64 (lim 3 a : Nat)] 52)) w.heap.size w3.heap.size w4.heap.size w5.heap.size w6.heap.size a n (.slice A5 (shortv a).length c5)) :=
    ⟨(hb6.block _ (lt_of_heap C3.out)).trans C3.out, (hb6.block _ (lt_of_heap C6.out)).trans C6.out, (hb6.block _ (lt_of_heap C8.out)).trans C8.out, (hb6.block _ (lt_of_heap C10.out)).trans C10.out, heap_alloc_new w6 _, ⟨_, _, rfl, HR5.out.below hb6, HD5.out⟩⟩
  have HB6 := Lib.hid (HB5.out.trans (hb6.mono HB5.out.size))
  clear K6 hb6 HB5 x0 x1 x2 C3 C6 C8 C10 HR5 HD5
  go_upto_region 6 with (fail)
  generalize w6.alloc (.cells #[.int .u64 (lim 0 a : Nat), .int .u64 (lim 1 a : Nat), .int .u64 (lim 2 a : Nat), .int .u64 (lim 3 a : Nat)] 52) = X at *
  refine wp_region_see 27 [34, 35, 36, 37, 38, 39, 40, 41, 42, 43, 44, 45, 46, 47, 48, 49, 50, 51, 52, 53, 54, 55, 56, 57, 58, 59, 4] [(34, .is (.int .i64 (en : Nat))), (35, .is (.int .i64 (en : Nat))), (36, .is (.bool true)), (37, .is (.bool true)), (38, .is (W n)), (39, .is (W n)), (40, .is (.bool true)), (41, .is (.bool true)), (42, .is (.bool true)), (43, .item (shortv a)), (44, .is (W a)), (45, .item (shortv a)), (46, .is (.bool true)), (47, .is (.bool true)), (48, .is (.bool true)), (49, .is (.int .i64 0)), (50, .is (.bool true)), (51, .is (.bool true)), (52, .is (.bool true)), (53, .is (W a)), (54, .is (W a)), (55, .is (.bool true)), (56, .is (.bool true)), (57, .is (.bool true)), (58, .is (.bool true)), (59, .is (.bool true)), (4, .is (.bool true))] (by kernel_rfl) (by kernel_rfl) (by rfl) ?_ ?_
  · refine seeOps_cons ?_ (seeOps_cons ?_ (seeOps_cons ?_ (seeOps_cons ?_ (seeOps_cons ?_ (seeOps_cons ?_ (seeOps_cons ?_ (seeOps_cons ?_ (seeOps_cons ?_ (seeOps_cons ?_ (seeOps_cons ?_ (seeOps_cons ?_ (seeOps_cons ?_ (seeOps_cons ?_ (seeOps_cons ?_ (seeOps_cons ?_ (seeOps_cons ?_ (seeOps_cons ?_ (seeOps_cons ?_ (seeOps_cons ?_ (seeOps_cons ?_ (seeOps_cons ?_ (seeOps_cons ?_ (seeOps_cons ?_ (seeOps_cons ?_ (seeOps_cons ?_ (seeOps_cons ?_ seeOps_nil))))))))))))))))))))))))))
    · intro w2 hb2 fr hout hin
      have h7 : fr.tmps.getD 7 undef = .int .i64 (en : Nat) := hout 7 (by decide)
      clear hout hin
      exact relStep_move (.tmp 7) rfl (wanted_none rfl) (by show fr.tmps.getD 7 undef = _; rw [h7])
    · intro w2 hb2 fr hout hin
      have h9 : fr.tmps.getD 9 undef = .int .i64 (en : Nat) := hout 9 (by decide)
      clear hout hin
      exact relStep_move (.tmp 9) rfl (wanted_none rfl) (by show fr.tmps.getD 9 undef = _; rw [h9])
    · intro w2 hb2 fr hout hin
      have h34 : fr.tmps.getD 34 undef = .int .i64 (en : Nat) := hin 34 (by decide) (by decide)
      have h35 : fr.tmps.getD 35 undef = .int .i64 (en : Nat) := hin 35 (by decide) (by decide)
      clear hout hin
      exact op_eqI (.tmp 34) (.tmp 35) _ rfl h34 h35 (wanted_none rfl) rfl
    · intro w2 hb2 fr hout hin
      have h36 : fr.tmps.getD 36 undef = .bool true := hin 36 (by decide) (by decide)
      clear hout hin
      exact relStep_move (.tmp 36) rfl (wanted_none rfl) (by show fr.tmps.getD 36 undef = _; rw [h36])
    · intro w2 hb2 fr hout hin
      have h6 : fr.tmps.getD 6 undef = .pointer (some ⟨w3.heap.size, 0, none⟩) := hout 6 (by decide)
      have h37 : fr.tmps.getD 37 undef = .bool true := hin 37 (by decide) (by decide)
      clear hout hin
      exact op_loadRow (.tmp 6) rfl h6 (run_loadVar_row w2 _ 52 _ _ _ _ (CS.out.below hb2).c6 Try.underlying52 rfl infoWord) (wanted_some (g := 3) (t := 37) (b := true) rfl rfl h37) rfl
    · intro w2 hb2 fr hout hin
      have h8 : fr.tmps.getD 8 undef = .pointer (some ⟨w4.heap.size, 0, none⟩) := hout 8 (by decide)
      have h37 : fr.tmps.getD 37 undef = .bool true := hin 37 (by decide) (by decide)
      clear hout hin
      exact op_loadRow (.tmp 8) rfl h8 (run_loadVar_row w2 _ 52 _ _ _ _ (CS.out.below hb2).c8 Try.underlying52 rfl infoWord) (wanted_some (g := 3) (t := 37) (b := true) rfl rfl h37) rfl
    · intro w2 hb2 fr hout hin
      have h38 : fr.tmps.getD 38 undef = W n := hin 38 (by decide) (by decide)
      have h39 : fr.tmps.getD 39 undef = W n := hin 39 (by decide) (by decide)
      have h37 : fr.tmps.getD 37 undef = .bool true := hin 37 (by decide) (by decide)
      clear hout hin
      exact op_eqW (n := n) (.tmp 38) (.tmp 39) _ rfl h38 h39 (wanted_some (g := 3) (t := 37) (b := true) rfl rfl h37) rfl
    · intro w2 hb2 fr hout hin
      have h37 : fr.tmps.getD 37 undef = .bool true := hin 37 (by decide) (by decide)
      have h40 : fr.tmps.getD 40 undef = .bool true := hin 40 (by decide) (by decide)
      clear hout hin
      exact relStep_pick (.tmp 37) (.tmp 40) (.const (.bool false)) rfl h37 (wanted_none rfl) (by show fr.tmps.getD 40 undef = _; rw [h40])
    · intro w2 hb2 fr hout hin
      have h41 : fr.tmps.getD 41 undef = .bool true := hin 41 (by decide) (by decide)
      clear hout hin
      exact relStep_move (.tmp 41) rfl (wanted_none rfl) (by show fr.tmps.getD 41 undef = _; rw [h41])
    · intro w2 hb2 fr hout hin
      have h10 : fr.tmps.getD 10 undef = .pointer (some ⟨w5.heap.size, 0, none⟩) := hout 10 (by decide)
      have h42 : fr.tmps.getD 42 undef = .bool true := hin 42 (by decide) (by decide)
      clear hout hin
      exact op_loadRow (.tmp 10) rfl h10 (run_loadVar_row w2 _ 25 _ _ _ _ (CS.out.below hb2).c10 Try.underlying25 rfl infoItem) (wanted_some (g := 8) (t := 42) (b := true) rfl rfl h42) (IAt.ofByt (CS.out.below hb2).by_)
    · intro w2 hb2 fr hout hin
      have h3 : fr.tmps.getD 3 undef = .pointer (some ⟨w.heap.size, 0, none⟩) := hout 3 (by decide)
      have h42 : fr.tmps.getD 42 undef = .bool true := hin 42 (by decide) (by decide)
      clear hout hin
      exact op_loadRow (.tmp 3) rfl h3 (run_loadVar_row w2 _ 52 _ _ _ _ (CS.out.below hb2).c3 Try.underlying52 rfl infoWord) (wanted_some (g := 8) (t := 42) (b := true) rfl rfl h42) rfl
    · intro w2 hb2 fr hout hin
      have h44 : fr.tmps.getD 44 undef = W a := hin 44 (by decide) (by decide)
      have h42 : fr.tmps.getD 42 undef = .bool true := hin 42 (by decide) (by decide)
      clear hout hin
      exact op_call1 (.tmp 44) rfl en_rof (wanted_some (g := 8) (t := 42) (b := true) rfl rfl h42) (by have k := K7.out w2; rw [show fr.eval (.tmp 44) = _ from h44]; exact k.mono fun e w' hk => hk.ret) (fun _ _ h => h)
    · intro w2 hb2 fr hout hin
      have h43 : IAt (fun _ => True) w2 (fr.tmps.getD 43 undef) (.text (shortv a)) := hin 43 (by decide) (by decide)
      have h45 : IAt (fun _ => True) w2 (fr.tmps.getD 45 undef) (.text (shortv a)) := hin 45 (by decide) (by decide)
      have h42 : fr.tmps.getD 42 undef = .bool true := hin 42 (by decide) (by decide)
      clear hout hin
      exact op_callB (.tmp 43) (.tmp 45) rfl en_same (wanted_some (g := 8) (t := 42) (b := true) rfl rfl h42) ((same_c (.text (shortv a)) _ _ _ _ _ HIS.out h43 h45).mono fun e w' hk => hk.ret) (fun _ _ h => h)
    · intro w2 hb2 fr hout hin
      have h42 : fr.tmps.getD 42 undef = .bool true := hin 42 (by decide) (by decide)
      have h46 : fr.tmps.getD 46 undef = .bool true := hin 46 (by decide) (by decide)
      clear hout hin
      exact relStep_pick (.tmp 42) (.tmp 46) (.const (.bool false)) rfl h42 (wanted_none rfl) (by show fr.tmps.getD 46 undef = _; rw [h46])
    · intro w2 hb2 fr hout hin
      have h47 : fr.tmps.getD 47 undef = .bool true := hin 47 (by decide) (by decide)
      clear hout hin
      exact relStep_move (.tmp 47) rfl (wanted_none rfl) (by show fr.tmps.getD 47 undef = _; rw [h47])
    · intro w2 hb2 fr hout hin
      have h12 : fr.tmps.getD 12 undef = .int .i64 0 := hout 12 (by decide)
      have h48 : fr.tmps.getD 48 undef = .bool true := hin 48 (by decide) (by decide)
      clear hout hin
      exact relStep_move (.tmp 12) rfl (wanted_some (g := 14) (t := 48) (b := true) rfl rfl h48) (by show fr.tmps.getD 12 undef = _; rw [h12])
    · intro w2 hb2 fr hout hin
      have h49 : fr.tmps.getD 49 undef = .int .i64 0 := hin 49 (by decide) (by decide)
      have h48 : fr.tmps.getD 48 undef = .bool true := hin 48 (by decide) (by decide)
      clear hout hin
      exact op_eqE (.tmp 49) (.const (.int .i64 0)) _ rfl h49 rfl (wanted_some (g := 14) (t := 48) (b := true) rfl rfl h48) rfl
    · intro w2 hb2 fr hout hin
      have h48 : fr.tmps.getD 48 undef = .bool true := hin 48 (by decide) (by decide)
      have h50 : fr.tmps.getD 50 undef = .bool true := hin 50 (by decide) (by decide)
      clear hout hin
      exact relStep_pick (.tmp 48) (.tmp 50) (.const (.bool false)) rfl h48 (wanted_none rfl) (by show fr.tmps.getD 50 undef = _; rw [h50])
    · intro w2 hb2 fr hout hin
      have h51 : fr.tmps.getD 51 undef = .bool true := hin 51 (by decide) (by decide)
      clear hout hin
      exact relStep_move (.tmp 51) rfl (wanted_none rfl) (by show fr.tmps.getD 51 undef = _; rw [h51])
    · intro w2 hb2 fr hout hin
      have h11 : fr.tmps.getD 11 undef = .pointer (some ⟨w6.heap.size, 0, none⟩) := hout 11 (by decide)
      have h52 : fr.tmps.getD 52 undef = .bool true := hin 52 (by decide) (by decide)
      clear hout hin
      exact op_loadRow (.tmp 11) rfl h11 (run_loadVar_row w2 _ 52 _ _ _ _ (CS.out.below hb2).c11 Try.underlying52 rfl infoWord) (wanted_some (g := 18) (t := 52) (b := true) rfl rfl h52) rfl
    · intro w2 hb2 fr hout hin
      have h3 : fr.tmps.getD 3 undef = .pointer (some ⟨w.heap.size, 0, none⟩) := hout 3 (by decide)
      have h52 : fr.tmps.getD 52 undef = .bool true := hin 52 (by decide) (by decide)
      clear hout hin
      exact op_loadRow (.tmp 3) rfl h3 (run_loadVar_row w2 _ 52 _ _ _ _ (CS.out.below hb2).c3 Try.underlying52 rfl infoWord) (wanted_some (g := 18) (t := 52) (b := true) rfl rfl h52) rfl
    · intro w2 hb2 fr hout hin
      have h53 : fr.tmps.getD 53 undef = W a := hin 53 (by decide) (by decide)
      have h54 : fr.tmps.getD 54 undef = W a := hin 54 (by decide) (by decide)
      have h52 : fr.tmps.getD 52 undef = .bool true := hin 52 (by decide) (by decide)
      clear hout hin
      exact op_eqW (n := a) (.tmp 53) (.tmp 54) _ rfl h53 h54 (wanted_some (g := 18) (t := 52) (b := true) rfl rfl h52) rfl
    · intro w2 hb2 fr hout hin
      have h52 : fr.tmps.getD 52 undef = .bool true := hin 52 (by decide) (by decide)
      have h55 : fr.tmps.getD 55 undef = .bool true := hin 55 (by decide) (by decide)
      clear hout hin
      exact relStep_pick (.tmp 52) (.tmp 55) (.const (.bool false)) rfl h52 (wanted_none rfl) (by show fr.tmps.getD 55 undef = _; rw [h55])
    · intro w2 hb2 fr hout hin
      have h56 : fr.tmps.getD 56 undef = .bool true := hin 56 (by decide) (by decide)
      clear hout hin
      exact relStep_move (.tmp 56) rfl (wanted_none rfl) (by show fr.tmps.getD 56 undef = _; rw [h56])
    · intro w2 hb2 fr hout hin
      have h57 : fr.tmps.getD 57 undef = .bool true := hin 57 (by decide) (by decide)
      clear hout hin
      exact op_call0 rfl en_wakes5 (wanted_some (g := 23) (t := 57) (b := true) rfl rfl h57) ((rwakes_c w2).mono fun e w' hk => hk.ret) (fun _ _ h => h)
    · intro w2 hb2 fr hout hin
      have h57 : fr.tmps.getD 57 undef = .bool true := hin 57 (by decide) (by decide)
      have h58 : fr.tmps.getD 58 undef = .bool true := hin 58 (by decide) (by decide)
      clear hout hin
      exact relStep_pick (.tmp 57) (.tmp 58) (.const (.bool false)) rfl h57 (wanted_none rfl) (by show fr.tmps.getD 58 undef = _; rw [h58])
    · intro w2 hb2 fr hout hin
      have h59 : fr.tmps.getD 59 undef = .bool true := hin 59 (by decide) (by decide)
      clear hout hin
      exact relStep_assign (.tmp 59) rfl (wanted_none rfl) (by show fr.tmps.getD 59 undef = _; rw [h59])
  intro w9 hb9
  have HB9 := Lib.hid (HB6.out.trans (hb9.mono HB6.out.size))
  refine relAsk_in (by rfl) ?_
  intro v34 h34
  obtain rfl : v34 = .int .i64 (en : Nat) := h34
  refine relAsk_in (by rfl) ?_
  intro v35 h35
  obtain rfl : v35 = .int .i64 (en : Nat) := h35
  refine relAsk_in (by rfl) ?_
  intro v36 h36
  obtain rfl : v36 = .bool true := h36
  refine relAsk_in (by rfl) ?_
  intro v37 h37
  obtain rfl : v37 = .bool true := h37
  refine relAsk_in (by rfl) ?_
  intro v38 h38
  obtain rfl : v38 = W n := h38
  refine relAsk_in (by rfl) ?_
  intro v39 h39
  obtain rfl : v39 = W n := h39
  refine relAsk_in (by rfl) ?_
  intro v40 h40
  obtain rfl : v40 = .bool true := h40
  refine relAsk_in (by rfl) ?_
  intro v41 h41
  obtain rfl : v41 = .bool true := h41
  refine relAsk_in (by rfl) ?_
  intro v42 h42
  obtain rfl : v42 = .bool true := h42
  refine relAsk_in (by rfl) ?_
  intro v43 h43
  refine relAsk_in (by rfl) ?_
  intro v44 h44
  obtain rfl : v44 = W a := h44
  refine relAsk_in (by rfl) ?_
  intro v45 h45
  refine relAsk_in (by rfl) ?_
  intro v46 h46
  obtain rfl : v46 = .bool true := h46
  refine relAsk_in (by rfl) ?_
  intro v47 h47
  obtain rfl : v47 = .bool true := h47
  refine relAsk_in (by rfl) ?_
  intro v48 h48
  obtain rfl : v48 = .bool true := h48
  refine relAsk_in (by rfl) ?_
  intro v49 h49
  obtain rfl : v49 = .int .i64 0 := h49
  refine relAsk_in (by rfl) ?_
  intro v50 h50
  obtain rfl : v50 = .bool true := h50
  refine relAsk_in (by rfl) ?_
  intro v51 h51
  obtain rfl : v51 = .bool true := h51
  refine relAsk_in (by rfl) ?_
  intro v52 h52
  obtain rfl : v52 = .bool true := h52
  refine relAsk_in (by rfl) ?_
  intro v53 h53
  obtain rfl : v53 = W a := h53
  refine relAsk_in (by rfl) ?_
  intro v54 h54
  obtain rfl : v54 = W a := h54
  refine relAsk_in (by rfl) ?_
  intro v55 h55
  obtain rfl : v55 = .bool true := h55
  refine relAsk_in (by rfl) ?_
  intro v56 h56
  obtain rfl : v56 = .bool true := h56
  refine relAsk_in (by rfl) ?_
  intro v57 h57
  obtain rfl : v57 = .bool true := h57
  refine relAsk_in (by rfl) ?_
  intro v58 h58
  obtain rfl : v58 = .bool true := h58
  refine relAsk_in (by rfl) ?_
  intro v59 h59
  obtain rfl : v59 = .bool true := h59
  refine relAsk_in (by rfl) ?_
  intro v4 h4
  obtain rfl : v4 = .bool true := h4
  refine relAsk_nil ?_
  refine wpList_nil ?_
  go_simp
  go_wp2_with fail
  go_ret
  exact ⟨rfl, HB9.out⟩
end Go.Proofs.Ytchhnalalplggaa
