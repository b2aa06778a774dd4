/- Operations and contracts for the laws over package nat. -/
import Derived.Test.YtakojlgoelbjmaaRCmp
import Derived.Test.YtakojlgoelbjmaaRelSeq
import Derived.Test.YtakojlgoelbjmaaNWakes
import Derived.Test.YtakojlgoelbjmaaOpsS
import Derived.Test.YtakojlgoelbjmaaRExp
import Derived.Test.YtakojlgoelbjmaaRSub
import Derived.Test.YtakojlgoelbjmaaTwin
namespace Go.Proofs.Ytakojlgoelbjmaa
open Go.RowKit

/-- A pair of bytes and a bool; a triple of bytes, bytes and a bool. -/
def OkB (w : World) (v : Value) (bs : List Nat) : Prop := ∃ x, v = .tuple #[x, .bool true] ∧ Byt w x bs
def Fact.okB (bs : List Nat) : Fact := ⟨fun v w => OkB w v bs, fun _ _ _ hb ⟨x, e, h⟩ => ⟨x, e, h.below hb⟩⟩
def DmB (w : World) (v : Value) (bs cs : List Nat) : Prop := ∃ x y, v = .tuple #[x, y, .bool true] ∧ Byt w x bs ∧ Byt w y cs
def Fact.dmB (bs cs : List Nat) : Fact := ⟨fun v w => DmB w v bs cs, fun _ _ _ hb ⟨x, y, e, h, k⟩ => ⟨x, y, e, h.below hb, k.below hb⟩⟩
def Fact.any : Fact := ⟨fun _ _ => True, fun _ _ _ _ h => h⟩

section
variable {ops : Array Oper} {T : Facts} {o : Oper} {a : Act} {w : World}
theorem wanted_not {g t : Nat} {b c : Bool} (h : o.guard = some (g, b)) (hg : (ops[g]?).bind (·.dst) = some t) (hv : a.tmps.getD t undef = .bool c) (hne : (c == b) = false) : Region.wanted o (yielded ops a.tmps) = false := by
  unfold Region.wanted
  rw [h]
  have : a.tmps[t]? = some (.bool c) := by
    rw [Array.getD_eq_getD_getElem?] at hv
    cases hx : a.tmps[t]? with
    | none => rw [hx] at hv; simp [undef] at hv
    | some v => rw [hx] at hv; simp at hv; rw [hv]
  cases b <;> cases c <;> simp_all [yielded]
theorem op_call0 {f : FuncId} {tys : Array TypeId} {R : World → Value → Prop} (ho : o.op = .call { callee := .value (.func f), args := #[], argTypes := tys }) (he : ∀ args w, (callFunc f args).run Try.prog w = .ok (.enter f args) w) (hw : Region.wanted o (yielded ops a.tmps) = true)
    (h : Calls Try.prog f #[] w (RetR R w)) (k : ∀ v w', R w' v → factTo T o.dst v w') : relStep Try.prog ops T o a w :=
  relStep_call f #[] hw h k (by
    have hp : a.eval (.func f) = .func (.func f) #[] #[] := rfl
    have e := he #[] w
    clear h hw k
    generalize a.eval = p at *
    unfold execOp
    rw [ho]
    go_simp)
theorem op_call1 {f : FuncId} {tys : Array TypeId} {R : World → Value → Prop} (x : Operand) (ho : o.op = .call { callee := .value (.func f), args := #[x], argTypes := tys }) (he : ∀ args w, (callFunc f args).run Try.prog w = .ok (.enter f args) w) (hw : Region.wanted o (yielded ops a.tmps) = true)
    (h : Calls Try.prog f #[a.eval x] w (RetR R w)) (k : ∀ v w', R w' v → factTo T o.dst v w') : relStep Try.prog ops T o a w :=
  relStep_call f #[a.eval x] hw h k (by
    have hp : a.eval (.func f) = .func (.func f) #[] #[] := rfl
    have e := he #[a.eval x] w
    clear h hw k
    generalize a.eval = p at *
    unfold execOp
    rw [ho]
    go_simp)
theorem op_call2 {f : FuncId} {tys : Array TypeId} {R : World → Value → Prop} (x y : Operand) (ho : o.op = .call { callee := .value (.func f), args := #[x, y], argTypes := tys }) (he : ∀ args w, (callFunc f args).run Try.prog w = .ok (.enter f args) w) (hw : Region.wanted o (yielded ops a.tmps) = true)
    (h : Calls Try.prog f #[a.eval x, a.eval y] w (RetR R w)) (k : ∀ v w', R w' v → factTo T o.dst v w') : relStep Try.prog ops T o a w :=
  relStep_call f #[a.eval x, a.eval y] hw h k (by
    have hp : a.eval (.func f) = .func (.func f) #[] #[] := rfl
    have e := he #[a.eval x, a.eval y] w
    clear h hw k
    generalize a.eval = p at *
    unfold execOp
    rw [ho]
    go_simp)
theorem op_call3 {f : FuncId} {tys : Array TypeId} {R : World → Value → Prop} (x y z : Operand) (ho : o.op = .call { callee := .value (.func f), args := #[x, y, z], argTypes := tys }) (he : ∀ args w, (callFunc f args).run Try.prog w = .ok (.enter f args) w) (hw : Region.wanted o (yielded ops a.tmps) = true)
    (h : Calls Try.prog f #[a.eval x, a.eval y, a.eval z] w (RetR R w)) (k : ∀ v w', R w' v → factTo T o.dst v w') : relStep Try.prog ops T o a w :=
  relStep_call f #[a.eval x, a.eval y, a.eval z] hw h k (by
    have hp : a.eval (.func f) = .func (.func f) #[] #[] := rfl
    have e := he #[a.eval x, a.eval y, a.eval z] w
    clear h hw k
    generalize a.eval = p at *
    unfold execOp
    rw [ho]
    go_simp)
theorem op_ext {vs : Array Value} {v : Value} (x : Operand) (i : Nat) (ho : o.op = .extract x i) (hx : a.eval x = .tuple vs) (hv : vs[i]? = some v) (hw : Region.wanted o (yielded ops a.tmps) = true) (hf : factTo T o.dst v w) : relStep Try.prog ops T o a w :=
  relStep_val v hw hf (by
    unfold execOp
    rw [ho]
    simp only [hx]
    go_simp)
theorem op_not {b : Bool} (x : Operand) (t : TypeId) (ho : o.op = .unOp .not t x) (hx : a.eval x = .bool b) (hw : Region.wanted o (yielded ops a.tmps) = true) (hf : factTo T o.dst (.bool (!b)) w) : relStep Try.prog ops T o a w :=
  relStep_val (.bool (!b)) hw hf (by
    unfold execOp
    rw [ho]
    simp only [hx]
    cases b <;> go_simp)
theorem op_neS {s : ByteArray} (x y : Operand) (t : TypeId) (ho : o.op = .binOp .neq 9 x y t) (hx : a.eval x = .string s) (hy : a.eval y = .string s) (hw : Region.wanted o (yielded ops a.tmps) = true) (hf : factTo T o.dst (.bool false) w) : relStep Try.prog ops T o a w :=
  relStep_val (.bool false) hw hf (by
    unfold execOp
    rw [ho]
    simp only [hx, hy]
    go_simp)
theorem op_len {bs : List Nat} (x : Operand) (ho : o.op = .call { callee := .builtin .len, args := #[x], argTypes := #[22] }) (hx : Byt w (a.eval x) bs) (hw : Region.wanted o (yielded ops a.tmps) = true) (hf : factTo T o.dst (.int .i64 (bs.length : Nat)) w) : relStep Try.prog ops T o a w :=
  relStep_val (.int .i64 (bs.length : Nat)) hw hf (by
    obtain ⟨A, c, e, _, _⟩ := hx
    clear hw hf
    generalize a.eval = p at *
    unfold execOp
    rw [ho]
    go_simp)
/-- A positive int. -/
def PosI (v : Value) : Prop := ∃ k : Nat, v = .int .i64 (k : Nat) ∧ 0 < k
def Fact.posI : Fact := ⟨fun v _ => PosI v, fun _ _ _ _ h => h⟩
theorem op_posZ (x : Operand) (t : TypeId) (ho : o.op = .binOp .eql 3 x (.const (.int .i64 0)) t) (hx : PosI (a.eval x)) (hw : Region.wanted o (yielded ops a.tmps) = true) (hf : factTo T o.dst (.bool false) w) : relStep Try.prog ops T o a w := by
  obtain ⟨k, e, hk⟩ := hx
  refine relStep_val (.bool false) hw hf ?_
  have hb : ((k : Int) == 0) = false := by simp; omega
  have hc : a.eval (.const (.int .i64 0)) = .int .i64 0 := rfl
  clear hw hf
  generalize a.eval = p at *
  unfold execOp
  rw [ho]
  go_simp
theorem op_cmp {z c : Int} {b : Bool} (p : BinOp) (x y : Operand) (t : TypeId) (ho : o.op = .binOp p 3 x y t) (hx : a.eval x = .int .i64 z) (hy : a.eval y = .int .i64 c) (hr : ∀ w, (binOp p 3 (.int .i64 z) (.int .i64 c)).run Try.prog w = .ok (.bool b) w)
    (hw : Region.wanted o (yielded ops a.tmps) = true) (hf : factTo T o.dst (.bool b) w) : relStep Try.prog ops T o a w :=
  relStep_val (.bool b) hw hf (by
    unfold execOp
    rw [ho]
    simp only [hx, hy]
    have := hr w
    go_simp)
end
theorem en_few (args : Array Value) (w : World) : (callFunc 6 args).run Try.prog w = .ok (.enter 6 args) w := by go_simp
theorem en_twin (args : Array Value) (w : World) : (callFunc 7 args).run Try.prog w = .ok (.enter 7 args) w := by go_simp
theorem en_add (args : Array Value) (w : World) : (callFunc 11 args).run Try.prog w = .ok (.enter 11 args) w := by go_simp
theorem en_sub (args : Array Value) (w : World) : (callFunc 12 args).run Try.prog w = .ok (.enter 12 args) w := by go_simp
theorem en_mul (args : Array Value) (w : World) : (callFunc 13 args).run Try.prog w = .ok (.enter 13 args) w := by go_simp
theorem en_dm (args : Array Value) (w : World) : (callFunc 14 args).run Try.prog w = .ok (.enter 14 args) w := by go_simp
theorem en_exp (args : Array Value) (w : World) : (callFunc 15 args).run Try.prog w = .ok (.enter 15 args) w := by go_simp
theorem en_trim (args : Array Value) (w : World) : (callFunc 9 args).run Try.prog w = .ok (.enter 9 args) w := by go_simp
theorem en_cmp (args : Array Value) (w : World) : (callFunc 17 args).run Try.prog w = .ok (.enter 17 args) w := by go_simp
theorem en_bits (args : Array Value) (w : World) : (callFunc 18 args).run Try.prog w = .ok (.enter 18 args) w := by go_simp
theorem en_bit (args : Array Value) (w : World) : (callFunc 19 args).run Try.prog w = .ok (.enter 19 args) w := by go_simp
theorem en_fill (args : Array Value) (w : World) : (callFunc 16 args).run Try.prog w = .ok (.enter 16 args) w := by go_simp
theorem en_wakes (args : Array Value) (w : World) : (callFunc 22 args).run Try.prog w = .ok (.enter 22 args) w := by go_simp

set_option maxRecDepth 100000 in
/-- The contracts by the bytes of their answers. -/
theorem few_v {u : Value} {xs : List Nat} (w : World) (h : Byt w u xs) : Calls Try.prog 6 #[u] w (RetR (fun w' v => Byt w' v (xs.take 600)) w) := by
  obtain ⟨A, c, rfl, h1, h2⟩ := h
  have q : Calls Try.prog 7 #[.slice A xs.length c, .int .i64 600] w (RetR (fun w' v => Byt w' v (xs.take 600)) w) := twin_c w h1 h2 600 (by omega) (by omega)
  have C := Lib.hid q
  clear q
  generalize xs.length = L at *
  clear h1 h2
  go_enter Try.func6, Try.ntmps6
  go_wp2_with fail
  (with_reducible refine C.out.mono ?_)
  rintro e w1 ⟨v, rfl, hv, hb⟩
  go_wp2_with fail
  go_ret
  exact ⟨v, rfl, hv, hb⟩
theorem twin_v {u : Value} {xs : List Nat} (w : World) (h : Byt w u xs) (n : Nat) (hn : n ≤ 65536) (hn0 : 0 < n) : Calls Try.prog 7 #[u, .int .i64 (n : Nat)] w (RetR (fun w' v => Byt w' v (xs.take n)) w) := by
  obtain ⟨A, c, rfl, h1, h2⟩ := h
  exact twin_c w h1 h2 n hn hn0
theorem nb_mono {w w' : World} {e : Ending} {n : Nat} (h : RetR (fun w' v => ∃ zs, Byt w' v zs ∧ Can 256 zs.reverse n) w e w') : RetR (fun w' v => Byt w' v (nb n)) w e w' := by
  obtain ⟨v, he, ⟨zs, h1, h2⟩, hb⟩ := h
  exact ⟨v, he, by rw [← nb_eq h2]; exact h1, hb⟩
theorem trim_v {u : Value} {xs : List Nat} (w : World) (h : Byt w u xs) (hl : xs.length ≤ 2097152) : Calls Try.prog 9 #[u] w (RetR (fun w' v => Byt w' v (nb (nv xs))) w) := by
  obtain ⟨A, c, rfl, h1, h2⟩ := h
  exact (trim_n w h1 h2 (by omega)).mono fun _ _ k => nb_mono k
theorem add_v {u v : Value} {xs ys : List Nat} (w : World) (h : Byt w u xs) (k : Byt w v ys) (hl : xs.length ≤ 2097152) (hl' : ys.length ≤ 2097152) : Calls Try.prog 11 #[u, v] w (RetR (fun w' v => Byt w' v (nb (nv xs + nv ys))) w) := by
  obtain ⟨A, c, rfl, h1, h2⟩ := h
  obtain ⟨B, d, rfl, k1, k2⟩ := k
  exact (add_n w h1 k1 h2 k2 (by omega) (by omega)).mono fun _ _ k => nb_mono k
theorem mul_v {u v : Value} {xs ys : List Nat} (w : World) (h : Byt w u xs) (k : Byt w v ys) (hl : xs.length ≤ 2097152) (hl' : ys.length ≤ 2097152) : Calls Try.prog 13 #[u, v] w (RetR (fun w' v => Byt w' v (nb (nv xs * nv ys))) w) := by
  obtain ⟨A, c, rfl, h1, h2⟩ := h
  obtain ⟨B, d, rfl, k1, k2⟩ := k
  exact (mul_n w h1 k1 h2 k2 (by omega) (by omega)).mono fun _ _ k => nb_mono k
theorem sub_v {u v : Value} {xs ys : List Nat} (w : World) (h : Byt w u xs) (k : Byt w v ys) (hl : xs.length ≤ 2097152) (hl' : ys.length ≤ 2097152) (hle : nv ys ≤ nv xs) : Calls Try.prog 12 #[u, v] w (RetR (fun w' v => OkB w' v (nb (nv xs - nv ys))) w) := by
  obtain ⟨A, c, rfl, h1, h2⟩ := h
  obtain ⟨B, d, rfl, k1, k2⟩ := k
  exact (sub_n w h1 k1 h2 k2 (by omega) (by omega) hle).mono fun _ _ ⟨v, he, ⟨zs, q1, q2⟩, hb⟩ => ⟨_, he, ⟨v, rfl, by rw [show nv xs - nv ys = dv 256 xs.reverse - dv 256 ys.reverse from rfl, ← nb_eq q2]; exact q1⟩, hb⟩
theorem subno_v {u v : Value} {xs ys : List Nat} (w : World) (h : Byt w u xs) (k : Byt w v ys) (hl : xs.length ≤ 2097152) (hl' : ys.length ≤ 2097152) (hlt : nv xs < nv ys) : Calls Try.prog 12 #[u, v] w (RetR (fun _ v => v = .tuple #[.slice none 0 0, .bool false]) w) := by
  obtain ⟨A, c, rfl, h1, h2⟩ := h
  obtain ⟨B, d, rfl, k1, k2⟩ := k
  exact (sub_no w h1 k1 h2 k2 (by omega) (by omega) hlt).mono fun _ _ ⟨he, hw⟩ => ⟨_, he, rfl, by rw [hw]; exact Below.refl _ _⟩
theorem dm_v {u v : Value} {xs ys : List Nat} (w : World) (h : Byt w u xs) (k : Byt w v ys) (hl : xs.length ≤ 2097152) (hl' : ys.length ≤ 2097152) (h0 : 0 < nv ys) : Calls Try.prog 14 #[u, v] w (RetR (fun w' v => DmB w' v (nb (nv xs / nv ys)) (nb (nv xs % nv ys))) w) := by
  obtain ⟨A, c, rfl, h1, h2⟩ := h
  obtain ⟨B, d, rfl, k1, k2⟩ := k
  exact (divmod_n w h1 k1 h2 k2 hl hl' h0).mono fun _ _ ⟨x, y, he, q1, q2, hb⟩ => ⟨_, he, ⟨x, y, rfl, q1.byt, q2.byt⟩, hb⟩
theorem dmno_v {u v : Value} {xs ys : List Nat} (w : World) (h : Byt w u xs) (k : Byt w v ys) (hl' : ys.length ≤ 2097152) (h0 : nv ys = 0) : Calls Try.prog 14 #[u, v] w (RetR (fun _ v => v = .tuple #[.slice none 0 0, .slice none 0 0, .bool false]) w) := by
  obtain ⟨A, c, rfl, h1, h2⟩ := h
  obtain ⟨B, d, rfl, k1, k2⟩ := k
  exact (divmod_no w k1 k2 hl' h0).mono fun _ _ ⟨he, hb⟩ => ⟨_, he, rfl, hb⟩
theorem exp_v {u v t : Value} {xs es ys : List Nat} (w : World) (h : Byt w u xs) (k : Byt w v es) (m : Byt w t ys) (hl : xs.length ≤ 2097152) (hle : es.length ≤ 2097152) (hl' : ys.length ≤ 2097152) (h0 : 0 < nv ys) : Calls Try.prog 15 #[u, v, t] w (RetR (fun w' v => Byt w' v (nb (nv xs ^ nv es % nv ys))) w) := by
  obtain ⟨A, c, rfl, h1, h2⟩ := h
  obtain ⟨B, d, rfl, k1, k2⟩ := k
  obtain ⟨C, f, rfl, m1, m2⟩ := m
  exact (modexp_n w h1 k1 m1 h2 k2 m2 hl hle hl' h0).mono fun _ _ ⟨x, he, q1, hb⟩ => ⟨_, he, q1.byt, hb⟩
theorem expno_v {u v t : Value} {xs es ys : List Nat} (w : World) (h : Byt w u xs) (k : Byt w v es) (m : Byt w t ys) (hl' : ys.length ≤ 2097152) (h0 : nv ys = 0) : Calls Try.prog 15 #[u, v, t] w (RetR (fun _ v => v = .slice none 0 0) w) := by
  obtain ⟨A, c, rfl, h1, h2⟩ := h
  obtain ⟨B, d, rfl, k1, k2⟩ := k
  obtain ⟨C, f, rfl, m1, m2⟩ := m
  exact (modexp_no w m1 m2 hl' h0).mono fun _ _ ⟨he, hb⟩ => ⟨_, he, rfl, hb⟩
theorem cmp_v {u v : Value} {xs ys : List Nat} (w : World) (h : Byt w u xs) (k : Byt w v ys) (hl : xs.length ≤ 2097152) (hl' : ys.length ≤ 2097152) : Calls Try.prog 17 #[u, v] w (RetR (fun _ v => v = .int .i64 (ordI (nv xs) (nv ys))) w) := by
  obtain ⟨A, c, rfl, h1, h2⟩ := h
  obtain ⟨B, d, rfl, k1, k2⟩ := k
  exact (cmp_n w h1 k1 h2 k2 (by omega) (by omega)).mono fun _ _ ⟨he, hw⟩ => ⟨_, he, rfl, by rw [hw]; exact Below.refl _ _⟩
theorem bits_v {u : Value} {xs : List Nat} (w : World) (h : Byt w u xs) (hl : xs.length ≤ 2097152) : Calls Try.prog 18 #[u] w (RetR (fun _ v => v = .int .i64 (blen (nv xs) : Nat)) w) := by
  obtain ⟨A, c, rfl, h1, h2⟩ := h
  exact (bits_n w h1 h2 (by omega)).mono fun _ _ ⟨he, hw⟩ => ⟨_, he, rfl, by rw [hw]; exact Below.refl _ _⟩
theorem nwakes_v (w : World) : Calls Try.prog 22 #[] w (RetR (fun _ v => v = .bool true) w) := (nwakes_c w).mono fun _ _ ⟨he, hb⟩ => ⟨_, he, rfl, hb⟩
theorem nv_take {xs : List Nat} (h : Ds 256 xs) (n : Nat) : nv (xs.take n) < 256 ^ n := by
  have := dv_lt (xs.take n).reverse (h.take n).reverse
  rw [List.length_reverse, List.length_take] at this
  exact Nat.lt_of_lt_of_le this (Nat.pow_le_pow_right (by omega) (by omega))
end Go.Proofs.Ytakojlgoelbjmaa
