/- The law GasRounds. (Written by wip/gengsroundslaw.py.) -/
import Derived.Test.YtiflfcdegpmhnaaGsStore
import Derived.Test.YtiflfcdegpmhnaaLawGasStore
import Derived.Test.YtiflfcdegpmhnaaLawGasPart
namespace Go.Proofs.Ytiflfcdegpmhnaa
open Go.RowKit

/-- What a write costs, adds and takes, in plain numbers: a of a read, d of a change, s of a place made empty. -/
def stepN (a d s o c n : Nat) : Nat × Nat × Nat :=
  if c = n then (a, 0, 0) else
  if o = c then (if o = 0 then (20000, 0, 0) else if n = 0 then (d, s, 0) else (d, 0, 0)) else
  (a, (if o ≠ 0 ∧ c ≠ 0 ∧ n = 0 then s else 0) + (if o = n then (if o = 0 then 20000 - a else d - a) else 0), if o ≠ 0 ∧ c = 0 then s else 0)
/-- What is owed where c stands and o stood. -/
def potN (a d s o c : Nat) : Int := if c = o then 0 else if o = 0 then 20000 - a else if c = 0 then (d : Int) - a - s else (d : Int) - a
/-- What a row of i writes keeps; m: what bounds both sums. -/
def RoundInv (a d s o c cost back i m : Nat) : Prop :=
  (cost : Int) = back + i * a + potN a d s o c ∧ (o ≠ 0 → c = 0 → s ≤ back) ∧ cost ≤ m ∧ back ≤ m
theorem round_start (a d s o : Nat) : RoundInv a d s o o 0 0 0 0 := by
  unfold RoundInv potN
  rw [if_pos rfl]
  exact ⟨by simp, fun h h' => absurd h' h, by omega, by omega⟩
/-- One write, told by its four answers. -/
theorem round_one {a d s o n cost back i m x y z : Nat} {p q ia : Int} (h1 : (cost : Int) = back + ia + p) (h3 : cost ≤ m) (h4 : back ≤ m) (hx : x ≤ 20000) (hy : y ≤ 20000) (hz : z ≤ back + y)
    (e1 : ((i + 1 : Nat) : Int) * (a : Int) = ia + a) (hp : p + x - y + z = a + q) (hq : potN a d s o n = q) (h2 : o ≠ 0 → n = 0 → s ≤ back + y - z) :
    z ≤ back + y ∧ RoundInv a d s o n (cost + x) (back + y - z) (i + 1) (m + 20000) := by
  refine ⟨hz, ?_, h2, by omega, by omega⟩
  rw [hq, e1]
  omega
theorem round_step {a d s o c n cost back i m : Nat} (ha : a ≤ 800) (had : a ≤ d) (hd : d ≤ 5000) (hs : s ≤ 15000) (h : RoundInv a d s o c cost back i m) :
    (stepN a d s o c n).2.2 ≤ back + (stepN a d s o c n).2.1 ∧ RoundInv a d s o n (cost + (stepN a d s o c n).1) (back + (stepN a d s o c n).2.1 - (stepN a d s o c n).2.2) (i + 1) (m + 20000) := by
  obtain ⟨h1, h2, h3, h4⟩ := h
  have e1 : ((i + 1 : Nat) : Int) * (a : Int) = (i : Int) * a + a := by rw [Int.natCast_add]; simp [Int.add_mul]
  generalize (i : Int) * (a : Int) = ia at h1 e1
  have hpot : ∀ x, potN a d s o x = if x = o then 0 else if o = 0 then 20000 - (a : Int) else if x = 0 then (d : Int) - a - s else (d : Int) - a := fun _ => rfl
  unfold stepN
  by_cases k1 : c = n
  · subst k1
    rw [if_pos rfl]
    exact round_one h1 h3 h4 (by simp only; omega) (by simp only; omega) (by simp only; omega) e1 (by simp only; omega) rfl h2
  · rw [if_neg k1]
    by_cases k2 : o = c
    · subst k2
      rw [if_pos rfl]
      rw [hpot, if_pos rfl] at h1
      by_cases k3 : o = 0
      · rw [if_pos k3]
        exact round_one (q := 20000 - (a : Int)) h1 h3 h4 (by simp only; omega) (by simp only; omega) (by simp only; omega) e1 (by simp only; omega) (by rw [hpot, if_neg (fun e => k1 e.symm), if_pos k3]) (fun h => absurd k3 h)
      · rw [if_neg k3]
        by_cases k4 : n = 0
        · rw [if_pos k4]
          exact round_one (q := (d : Int) - a - s) h1 h3 h4 (by simp only; omega) (by simp only; omega) (by simp only; omega) e1 (by simp only; omega) (by rw [hpot, if_neg (fun e => k1 e.symm), if_neg k3, if_pos k4]) (fun _ _ => by simp only; omega)
        · rw [if_neg k4]
          exact round_one (q := (d : Int) - a) h1 h3 h4 (by simp only; omega) (by simp only; omega) (by simp only; omega) e1 (by simp only; omega) (by rw [hpot, if_neg (fun e => k1 e.symm), if_neg k3, if_neg k4]) (fun _ e => absurd e k4)
    · rw [if_neg k2]
      rw [hpot, if_neg (fun e => k2 e.symm)] at h1
      by_cases k3 : o = 0
      · rw [if_pos k3] at h1
        have q1 : (if o ≠ 0 ∧ c ≠ 0 ∧ n = 0 then s else 0) = 0 := if_neg (fun e => e.1 k3)
        have q2 : (if o ≠ 0 ∧ c = 0 then s else 0) = 0 := if_neg (fun e => e.1 k3)
        rw [q1, q2, if_pos k3]
        by_cases k5 : o = n
        · rw [if_pos k5]
          exact round_one (q := 0) h1 h3 h4 (by simp only; omega) (by simp only; omega) (by simp only; omega) e1 (by simp only; omega) (by rw [hpot, if_pos k5.symm]) (fun h => absurd k3 h)
        · rw [if_neg k5]
          exact round_one (q := 20000 - (a : Int)) h1 h3 h4 (by simp only; omega) (by simp only; omega) (by simp only; omega) e1 (by simp only; omega) (by rw [hpot, if_neg (fun e => k5 e.symm), if_pos k3]) (fun h => absurd k3 h)
      · rw [if_neg k3] at h1
        rw [if_neg k3]
        by_cases k6 : c = 0
        · rw [if_pos k6] at h1
          have h2 := h2 k3 k6
          have q1 : (if o ≠ 0 ∧ c ≠ 0 ∧ n = 0 then s else 0) = 0 := if_neg (fun e => e.2.1 k6)
          have q2 : (if o ≠ 0 ∧ c = 0 then s else 0) = s := if_pos ⟨k3, k6⟩
          rw [q1, q2]
          by_cases k5 : o = n
          · rw [if_pos k5]
            exact round_one (q := 0) h1 h3 h4 (by simp only; omega) (by simp only; omega) (by simp only; omega) e1 (by simp only; omega) (by rw [hpot, if_pos k5.symm]) (fun _ e => absurd (k5.trans e) k3)
          · rw [if_neg k5]
            exact round_one (q := (d : Int) - a) h1 h3 h4 (by simp only; omega) (by simp only; omega) (by simp only; omega) e1 (by simp only; omega) (by rw [hpot, if_neg (fun e => k5 e.symm), if_neg k3, if_neg (fun e => k1 (k6.trans e.symm))]) (fun _ e => absurd (k6.trans e.symm) k1)
        · rw [if_neg k6] at h1
          have q2 : (if o ≠ 0 ∧ c = 0 then s else 0) = 0 := if_neg (fun e => k6 e.2)
          rw [q2]
          by_cases k5 : o = n
          · have q1 : (if o ≠ 0 ∧ c ≠ 0 ∧ n = 0 then s else 0) = 0 := if_neg (fun e => k3 (k5.trans e.2.2))
            rw [q1, if_pos k5]
            exact round_one (q := 0) h1 h3 h4 (by simp only; omega) (by simp only; omega) (by simp only; omega) e1 (by simp only; omega) (by rw [hpot, if_pos k5.symm]) (fun _ e => absurd (k5.trans e) k3)
          · rw [if_neg k5]
            by_cases k4 : n = 0
            · have q1 : (if o ≠ 0 ∧ c ≠ 0 ∧ n = 0 then s else 0) = s := if_pos ⟨k3, k6, k4⟩
              rw [q1]
              exact round_one (q := (d : Int) - a - s) h1 h3 h4 (by simp only; omega) (by simp only; omega) (by simp only; omega) e1 (by simp only; omega) (by rw [hpot, if_neg (fun e => k5 e.symm), if_neg k3, if_pos k4]) (fun _ _ => by simp only; omega)
            · have q1 : (if o ≠ 0 ∧ c ≠ 0 ∧ n = 0 then s else 0) = 0 := if_neg (fun e => k4 e.2.2)
              rw [q1]
              exact round_one (q := (d : Int) - a) h1 h3 h4 (by simp only; omega) (by simp only; omega) (by simp only; omega) e1 (by simp only; omega) (by rw [hpot, if_neg (fun e => k5 e.symm), if_neg k3, if_neg k4]) (fun _ e => absurd e k4)
/-- The numbers of the forks from Istanbul on. -/
def numA (f : Int) : Nat := if 9 ≤ f then 100 else 800
def numD (f : Int) : Nat := if 9 ≤ f then 2900 else 5000
def numS (f : Int) : Nat := if 10 ≤ f then 4800 else 15000
theorem kfS (f : Int) : kf f 22 = (numS f : Nat) := by
  show fromZ f 15000 [(10, 4800)] = _
  simp only [fromZ, numS]; split <;> rfl
theorem nums (f : Int) : numA f ≤ 800 ∧ numA f ≤ numD f ∧ numD f ≤ 5000 ∧ numS f ≤ 15000 := by
  unfold numA numD numS
  refine ⟨?_, ?_, ?_, ?_⟩ <;> (repeat' split) <;> omega
theorem storeN_step {f : Int} (hf : 7 ≤ f) (o c n : Nat) : storeN f (kf f 22) o c n true 1099511627776 =
    .tuple #[.int .u64 ((stepN (numA f) (numD f) (numS f) o c n).1 : Nat), .int .u64 ((stepN (numA f) (numD f) (numS f) o c n).2.1 : Nat), .int .u64 ((stepN (numA f) (numD f) (numS f) o c n).2.2 : Nat), .bool true] := by
  rw [kfS]
  have ea : (if 9 ≤ f then (100 : Int) else if 7 ≤ f then 800 else 200) = (numA f : Nat) := by unfold numA; rw [if_pos hf]; split <;> rfl
  have ed : (if 9 ≤ f then (2900 : Int) else 5000) = (numD f : Nat) := by unfold numD; split <;> rfl
  obtain ⟨h1, h2, h3, h4⟩ := nums f
  unfold storeN storeV
  rw [if_neg (by omega), if_neg (by omega), ea, ed, if_neg (fun e => by cases e.2)]
  generalize numA f = a at *
  generalize numD f = d at *
  generalize numS f = s at *
  clear ea ed
  unfold storeT stepN stT
  have e1 : (20000 : Int) - (a : Int) = ((20000 - a : Nat) : Int) := by omega
  have e2 : (d : Int) - (a : Int) = ((d - a : Nat) : Int) := by omega
  by_cases k1 : c = n
  · simp [k1]
  · by_cases k2 : o = c
    · subst k2
      by_cases k3 : o = 0
      · have k4 : ¬ 0 = n := fun e => k1 (by omega)
        simp [k3, k4]
      · by_cases k4 : n = 0
        · simp [k3, k4]
        · simp [k1, k3, k4]
    · by_cases k3 : o = 0
      · subst k3
        by_cases k5 : 0 = n
        · subst k5
          simp [k1, k2, e1]
        · simp [k1, k2, k5]
      · by_cases k6 : c = 0
        · subst k6
          by_cases k5 : o = n
          · subst k5
            simp [k3, k1, e2]
          · simp [k3, k1, k5]
        · by_cases k5 : o = n
          · subst k5
            simp [k1, k2, k3, k6, e2]
          · by_cases k4 : n = 0
            · subst k4
              simp [k2, k3, k6]
            · simp [k1, k2, k3, k6, k5, k4]
end Go.Proofs.Ytiflfcdegpmhnaa
namespace Go.Proofs.Ytiflfcdegpmhnaa
open Go.RowKit

/-- Words lie one behind the other. -/
def WsAt (w : World) (A : Option Addr) (ws : List Nat) : Prop := ws = [] ∨ ∃ b o, A = some ⟨b, o, none⟩ ∧ b < w.heap.size ∧ ∀ i x, ws[i]? = some x →
  w.cell? ⟨b, o + i * 4, none⟩ = some (.int .u64 (lim 0 x : Nat)) ∧ w.cell? ⟨b, o + i * 4 + 1, none⟩ = some (.int .u64 (lim 1 x : Nat)) ∧ w.cell? ⟨b, o + i * 4 + 2, none⟩ = some (.int .u64 (lim 2 x : Nat)) ∧ w.cell? ⟨b, o + i * 4 + 3, none⟩ = some (.int .u64 (lim 3 x : Nat))
theorem WsAt.below {w w' : World} {A : Option Addr} {ws : List Nat} (h : WsAt w A ws) (hb : Below w.heap.size w w') : WsAt w' A ws := by
  rcases h with h | ⟨b, o, e, hl, h⟩
  · exact .inl h
  · exact .inr ⟨b, o, e, Nat.lt_of_lt_of_le hl hb.size, fun i x hx => by
      obtain ⟨h0, h1, h2, h3⟩ := h i x hx
      exact ⟨(hb.cell (p := ⟨b, _, none⟩) hl).trans h0, (hb.cell (p := ⟨b, _, none⟩) hl).trans h1, (hb.cell (p := ⟨b, _, none⟩) hl).trans h2, (hb.cell (p := ⟨b, _, none⟩) hl).trans h3⟩⟩
theorem mod9 (f : Int) (hf0 : -9223372036854775808 ≤ f) (hf1 : f < 9223372036854775808) : ∃ m s g : Int, f.tmod 9 = m ∧ IntKind.i64.wrap m = m ∧ IntKind.i64.wrap (m + 9) = s ∧ s.tmod 9 = g ∧ s % 9 = g ∧ IntKind.i64.wrap g = g ∧ IntKind.i64.wrap (7 + g) = 7 + g ∧ 0 ≤ g ∧ g ≤ 8 := by
  have t0 : (f.tmod 9 = f % 9 ∧ 0 ≤ f) ∨ (f.tmod 9 = f % 9 - 9 ∧ f.tmod 9 < 0) ∨ (f.tmod 9 = 0 ∧ f % 9 = 0) := by
    have := Int.tmod_eq_emod (a := f) (b := 9)
    split at this
    · rename_i h; rcases h with h | h
      · exact .inl ⟨by omega, h⟩
      · exact .inr (.inr ⟨by omega, by omega⟩)
    · right; left; constructor <;> omega
  refine ⟨f.tmod 9, f.tmod 9 + 9, f % 9, rfl, IntWalk.i64_in _ (by omega), IntWalk.i64_in _ (by omega), ?_, by omega, IntWalk.i64_in _ (by omega), IntWalk.i64_in _ (by omega), by omega, by omega⟩
  rw [Int.tmod_eq_emod_of_nonneg (by omega)]; omega

section
variable {ops : Array Oper} {T : Facts} {o : Oper} {a : Act} {w : World}
theorem gs_eqW {n : Nat} (x y : Operand) (t : TypeId) (ho : o.op = .binOp .eql 24 x y t) (hx : a.eval x = W n) (hy : a.eval y = W n) (hw : Region.wanted o (yielded ops a.tmps) = true) (hf : factTo T o.dst (.bool true) w) : relStep Try.prog ops T o a w :=
  relStep_val (.bool true) hw hf (by
    have q := eqIn_same (lim 0 n) (lim 1 n) (lim 2 n) (lim 3 n)
    unfold execOp
    rw [ho]
    simp only [hx, hy]
    go_simp)
theorem gs_buildSt {p q r : Nat} (x y z : Operand) (ho : o.op = .build 41 #[(0, x), (1, y), (2, z), (3, .const (.bool true)), (4, .const (.int .u64 1099511627776))]) (hx : a.eval x = W p) (hy : a.eval y = W q) (hz : a.eval z = W r) (hw : Region.wanted o (yielded ops a.tmps) = true) (hf : factTo T o.dst (.agg (StC p q r true 1099511627776)) w) : relStep Try.prog ops T o a w :=
  relStep_val _ hw hf (by
    clear hw hf
    have hc : a.eval (.const (.bool true)) = .bool true := rfl
    have hd : a.eval (.const (.int .u64 1099511627776)) = .int .u64 1099511627776 := rfl
    generalize a.eval = e at *
    unfold execOp
    rw [ho]
    go_simp
    rfl)
end
theorem RulesAt.far {w : World} {g : Nat} {f : Int} {k : Nat → Int} (h : RulesAt w g f k) {p : Addr} (hp : g ≠ p.block) (v : Value) : RulesAt (w.setCell p v) g f k := (Below.heap_setCell w p v g hp).trans h
theorem step_small (a d s o c n : Nat) (ha : a ≤ 800) (had : a ≤ d) (hd : d ≤ 5000) (hs : s ≤ 15000) : (stepN a d s o c n).1 ≤ 20000 ∧ (stepN a d s o c n).2.1 ≤ 40000 ∧ (stepN a d s o c n).2.2 ≤ 15000 := by
  unfold stepN
  (repeat' split) <;> (simp only; omega)

set_option maxRecDepth 100000 in
set_option maxHeartbeats 12800000 in
theorem gasRounds_c (w : World) (f : Int) (hf0 : -9223372036854775808 ≤ f) (hf1 : f < 9223372036854775808) (O : Nat) (hO : Big O) (A : Option Addr) (c : Nat) (ws : List Nat) (hw : WsAt w A ws) (hws : ∀ x ∈ ws, Big x) (hc : ws.length ≤ c) (hA : A = none → c = 0) (hcm : c ≤ 9223372036854775807) :
    Calls Try.prog 7 #[.int .i64 f, W O, .slice A ws.length c] w (RetV (.bool true) w) := by
  obtain ⟨m9, s9, g9, t1, t2, t3, t4, t5, t6, t7, hg0, hg1⟩ := mod9 f hf0 hf1
  obtain ⟨g, hg⟩ : ∃ g, g = 7 + g9 := ⟨_, rfl⟩
  rw [← hg] at t7
  have hg' := hg.symm
  have HG : Hid (7 ≤ g ∧ g ≤ 15 ∧ g % 16 = g) := ⟨by omega, by omega, by omega⟩
  have hX1 := Arr.new4 w 24 (lim 0 O) (lim 1 O) (lim 2 O) (lim 3 O)
  have hXB := (Below.refl w.heap.size w).alloc (Nat.le_refl _) (.cells #[.int .u64 (lim 0 O : Nat), .int .u64 (lim 1 O : Nat), .int .u64 (lim 2 O : Nat), .int .u64 (lim 3 O : Nat)] 24)
  have HWW := Lib.hid hw
  obtain ⟨L, hL⟩ : ∃ L, L = ws.length := ⟨_, rfl⟩
  rw [← hL] at hc ⊢
  have HC : Hid (L = ws.length ∧ L ≤ c ∧ (A = none → c = 0) ∧ c ≤ 9223372036854775807 ∧ Big O ∧ ∀ x ∈ ws, Big x) := ⟨hL, hc, hA, hcm, hO, hws⟩
  clear hf0 hf1 hg hg0 hg1 hw hL hc hA hcm hO hws
  go_enter Try.func7, Try.ntmps7
  go_upto_region 1 with (fail)
  generalize w.alloc (.cells #[.int .u64 (lim 0 O : Nat), .int .u64 (lim 1 O : Nat), .int .u64 (lim 2 O : Nat), .int .u64 (lim 3 O : Nat)] 24) = X at *
  have HO0 := Lib.hid hX1
  have HB0 := Lib.hid hXB
  clear hX1 hXB
  go_wp2_with fail
  rename_i KK hKK
  (with_reducible refine (rules_c g _).mono ?_)
  rintro e1 w1 ⟨rfl, hb1⟩
  have HB1 := Lib.hid (HB0.out.trans (hb1.mono HB0.out.size))
  have HO1 := Lib.hid (HO0.out.below hb1 HO0.out.lt)
  clear hb1
  show KK _ _
  refine hKK _ _ ?_
  clear hKK KK
  refine wpList_plain rfl fun K hK => ?_; go_simp; refine hK _ _ ?_; clear hK K
  have hg : (w1.alloc (.cells RulesZ 26)).heap[w1.heap.size]? = some (.cells RulesZ 26 (0, 0)) := heap_alloc_new w1 _
  have hb2 := HB1.out.alloc HB1.out.size (.cells RulesZ 26)
  refine wpList_store_row rfl 26 (.tmp 7) (.tmp 24) rfl w1.heap.size (RulesK (g % 16) (kf (g % 16))) rfl rfl 26 RulesZ hg infoRules rfl (rulesK_one _ _) ?_
  have hR : RulesAt ((w1.alloc (.cells RulesZ 26)).setRow w1.heap.size (RulesK (g % 16) (kf (g % 16)))) w1.heap.size (g % 16) (kf (g % 16)) := setRow_heap _ _ _ _ _ _ hg
  have hb3 := below_setRow hb2 HB1.out.size (RulesK (g % 16) (kf (g % 16)))
  have hk1 : Below w1.heap.size w1 ((w1.alloc (.cells RulesZ 26)).setRow w1.heap.size (RulesK (g % 16) (kf (g % 16)))) := below_setRow ((Below.refl _ _).alloc (Nat.le_refl _) _) (Nat.le_refl _) _
  show wpList _ _ _ _ _ ((w1.alloc (.cells RulesZ 26)).setRow w1.heap.size (RulesK (g % 16) (kf (g % 16))))
  generalize (w1.alloc (.cells RulesZ 26)).setRow w1.heap.size (RulesK (g % 16) (kf (g % 16))) = Y at *
  have HR := Lib.hid hR
  have HB2 := Lib.hid hb3
  have HLT1 := Lib.hid HO1.out.lt
  have HO := Lib.hid (HO1.out.below hk1 HO1.out.lt)
  clear hg hb2 hR hb3 hk1
  refine wpList_nil ?_
  go_simp
  clear HO0 HO1 HB0 HB1 t1 t2 t3 t4 t5 t6 t7 hg'
  have HB := HB2
  clear HB2
  rw [HG.out.2.2] at HR
  go_upto_region 2 with (fail)
  obtain ⟨x0, x1, x2, x3⟩ := HO.out.cells4
  go_upto_region 3 with (fail)
  have HO2 := Lib.hid (HO.out.alloc (.cells #[.int .u64 (lim 0 O : Nat), .int .u64 (lim 1 O : Nat), .int .u64 (lim 2 O : Nat), .int .u64 (lim 3 O : Nat)] 24))
  have HR2 := Lib.hid (HR.out.alloc (.cells #[.int .u64 (lim 0 O : Nat), .int .u64 (lim 1 O : Nat), .int .u64 (lim 2 O : Nat), .int .u64 (lim 3 O : Nat)] 24))
  have HCU2 := Lib.hid (Arr.new4 Y 24 (lim 0 O) (lim 1 O) (lim 2 O) (lim 3 O))
  have HB2 := Lib.hid (HB.out.alloc HB.out.size (.cells #[.int .u64 (lim 0 O : Nat), .int .u64 (lim 1 O : Nat), .int .u64 (lim 2 O : Nat), .int .u64 (lim 3 O : Nat)] 24))
  have HGG : Hid (w.heap.size < w1.heap.size ∧ w1.heap.size < Y.heap.size) := ⟨HLT1.out, HR.out.lt⟩
  clear HO HR HB x0 x1 x2 x3
  generalize Y.alloc (.cells #[.int .u64 (lim 0 O : Nat), .int .u64 (lim 1 O : Nat), .int .u64 (lim 2 O : Nat), .int .u64 (lim 3 O : Nat)] 24) = Z at *
  obtain ⟨G, hG⟩ : ∃ G, G = Y.heap.size := ⟨_, rfl⟩
  obtain ⟨G1, hG1⟩ : ∃ G1, G1 = w1.heap.size := ⟨_, rfl⟩
  rw [← hG] at HCU2 HGG ⊢
  rw [← hG1] at HR2 HGG ⊢
  clear hG hG1
  obtain ⟨E, hE⟩ : ∃ E, E = if L ≤ 30 then L else 30 := ⟨_, rfl⟩
  have HE : Hid (E = if L ≤ 30 then L else 30) := hE
  clear hE
  go_upto_region 5 with (fail)
  go_wp2_with fail
  go_loopw [9, 10, 11, 12] (fun co ba nn ii wr => ∃ (i cs bk C m : Nat), ii = .int .i64 (i : Nat) ∧ co = .int .u64 (cs : Nat) ∧ ba = .int .u64 (bk : Nat) ∧ nn = .int .u64 (i : Nat) ∧ i ≤ E + 1 ∧
      Hid ((i = E + 1 → C = O) ∧ Big C ∧ m = 20000 * i ∧ RoundInv (numA g) (numD g) (numS g) O C cs bk i m ∧ Arr wr G 24 [lim 0 C, lim 1 C, lim 2 C, lim 3 C] ∧ Arr wr w.heap.size 24 [lim 0 O, lim 1 O, lim 2 O, lim 3 O] ∧ RulesAt wr G1 g (kf g) ∧ Below w.heap.size w wr))
    (fun _ _ _ ii _ => E + 2 - (intOf ii).toNat)
  case atStart => exact ⟨0, 0, 0, O, 0, rfl, rfl, rfl, rfl, by omega, fun h => rfl, HC.out.2.2.2.2.1, rfl, round_start _ _ _ _, HCU2.out, HO2.out, HR2.out, HB2.out⟩
  case round =>
    clear HO2 HR2 HCU2 HB2
    obtain ⟨i, cs, bk, C, m, rfl, rfl, rfl, rfl, hi, hh⟩ := hrel
    have HO := Lib.hid hh.out.2.2.2.2.2.1
    have HR := Lib.hid hh.out.2.2.2.2.2.2.1
    have HCU := Lib.hid hh.out.2.2.2.2.1
    have HB := Lib.hid hh.out.2.2.2.2.2.2.2
    have HI : Hid (RoundInv (numA g) (numD g) (numS g) O C cs bk i m ∧ Big C ∧ m = 20000 * i) := ⟨hh.out.2.2.2.1, hh.out.2.1, hh.out.2.2.1⟩
    have HEND : Hid (i = E + 1 → C = O) := hh.out.1
    clear hh
    by_cases h0 : i ≤ E
    · have hE := HE.out
      have j1 : (i : Int) ≤ (L : Int) := by split at hE <;> omega
      have j2 : (i : Int) ≤ 30 := by split at hE <;> omega
      have HIE : Hid (i ≤ 30 ∧ E ≤ 30) := by refine ⟨by omega, ?_⟩; rw [hE]; split <;> omega
      have HI0 : Hid (i ≤ E) := h0
      clear hE hi h0
      obtain ⟨o0, o1, o2, o3⟩ := HO.out.cells4
      go_upto_region 9 with (fail)
      have HBN0 : Hid (Below wr.heap.size wr (wr.alloc (.cells #[.int .u64 (lim 0 O : Nat), .int .u64 (lim 1 O : Nat), .int .u64 (lim 2 O : Nat), .int .u64 (lim 3 O : Nat)] 24))) := (Below.refl _ _).alloc (Nat.le_refl _) _
      have HNX0 := Lib.hid (Arr.new4 wr 24 (lim 0 O) (lim 1 O) (lim 2 O) (lim 3 O))
      have HNE : Hid (w.heap.size < G ∧ G1 < G ∧ G < wr.heap.size ∧ G1 < wr.heap.size ∧ w.heap.size < wr.heap.size) := ⟨Nat.lt_trans HGG.out.1 HGG.out.2, HGG.out.2, HCU.out.lt, HR.out.lt, HO.out.lt⟩
      clear o0 o1 o2 o3
      by_cases h1 : (i : Int) < (L : Int)
      · by_cases h2 : (i : Int) < 30
        · have hLw := HC.out.1
          obtain ⟨N, hN⟩ : ∃ N, ws[i]? = some N := ⟨_, List.getElem?_eq_getElem (by omega)⟩
          have HBN : Hid (Big N) := HC.out.2.2.2.2.2 N (List.mem_of_getElem? hN)
          have HEQ : Hid (i + 1 = E + 1 → N = O) := fun e => by
            exfalso
            have hE := HE.out
            have : i < E := by rw [hE]; split <;> omega
            omega
          rcases HWW.out with hnil | ⟨bb, oo, rfl, hbl, hcw⟩
          · rw [hnil] at hN; simp at hN
          obtain ⟨k0, k1, k2, k3⟩ := hcw i N hN
          have hbX := HB.out.trans (HBN0.out.mono HB.out.size)
          replace k0 := (hbX.cell (p := ⟨bb, _, none⟩) hbl).trans k0
          replace k1 := (hbX.cell (p := ⟨bb, _, none⟩) hbl).trans k1
          replace k2 := (hbX.cell (p := ⟨bb, _, none⟩) hbl).trans k2
          replace k3 := (hbX.cell (p := ⟨bb, _, none⟩) hbl).trans k3
          clear hbl hLw hN hcw hbX
          generalize wr.alloc (.cells #[.int .u64 (lim 0 O : Nat), .int .u64 (lim 1 O : Nat), .int .u64 (lim 2 O : Nat), .int .u64 (lim 3 O : Nat)] 24) = X1 at *
          obtain ⟨f0, f1, f2, f3⟩ := HNX0.out.free4
          obtain ⟨m0, m1, m2, m3⟩ := HNX0.out.cells4
          go_upto_region 11 with (fail)
          have hNX := HNX0.out.put4 (lim 0 N) (lim 1 N) (lim 2 N) (lim 3 N)
          have hbN := below_put4 HBN0.out (f := wr.heap.size) (Nat.le_refl _) (.int .u64 (lim 0 N : Nat)) (.int .u64 (lim 1 N : Nat)) (.int .u64 (lim 2 N : Nat)) (.int .u64 (lim 3 N : Nat))
          clear f0 f1 f2 f3 m0 m1 m2 m3 k0 k1 k2 k3 h1 h2 HNX0 HBN0
          generalize (((X1.setCell ⟨wr.heap.size, 0, none⟩ (.int .u64 (lim 0 N : Nat))).setCell ⟨wr.heap.size, 1, none⟩ (.int .u64 (lim 1 N : Nat))).setCell ⟨wr.heap.size, 2, none⟩ (.int .u64 (lim 2 N : Nat))).setCell ⟨wr.heap.size, 3, none⟩ (.int .u64 (lim 3 N : Nat)) = XS at *
          have HNX := Lib.hid hNX
          replace HO := Lib.hid (HO.out.below hbN HNE.out.2.2.2.2)
          replace HR := Lib.hid (HR.out.below hbN HNE.out.2.2.2.1)
          replace HCU := Lib.hid (HCU.out.below hbN HNE.out.2.2.1)
          have HBS := Lib.hid (HB.out.trans (hbN.mono HB.out.size))
          replace HB := HBS
          clear hNX hbN
          obtain ⟨hz, hri⟩ := round_step (n := N) (nums g).1 (nums g).2.1 (nums g).2.2.1 (nums g).2.2.2 HI.out.1
          have hst := storeN_step HG.out.1 O C N
          have hsm := step_small (numA g) (numD g) (numS g) O C N (nums g).1 (nums g).2.1 (nums g).2.2.1 (nums g).2.2.2
          obtain ⟨x, hx⟩ : ∃ x, x = (stepN (numA g) (numD g) (numS g) O C N).1 := ⟨_, rfl⟩
          obtain ⟨y, hy⟩ : ∃ y, y = (stepN (numA g) (numD g) (numS g) O C N).2.1 := ⟨_, rfl⟩
          obtain ⟨z, hz0⟩ : ∃ z, z = (stepN (numA g) (numD g) (numS g) O C N).2.2 := ⟨_, rfl⟩
          rw [← hx, ← hy, ← hz0] at hri hst hsm
          rw [← hy, ← hz0] at hz
          have KST : Hid (∀ v, Calls Try.prog 23 #[.agg (RulesK g (kf g)), .agg (StC O C N true 1099511627776)] v (RetV (.tuple #[.int .u64 (x : Nat), .int .u64 (y : Nat), .int .u64 (z : Nat), .bool true]) v)) := fun v => by
            have h := gStore g (by have := HG.out.1; omega) HG.out.2.1 (warm := true) (left := 1099511627776) HC.out.2.2.2.2.1 HI.out.2.1 HBN.out (by omega) v
            rw [hst] at h; exact h
          clear hx hy hz0 hst
          have hcs := HI.out.1.2.2.1
          have hbk := HI.out.1.2.2.2
          have him := HI.out.2.2
          have hie := HIE.out
          obtain ⟨tb, htb⟩ : ∃ tb, tb = bk + y := ⟨_, rfl⟩
          obtain ⟨cs2, hcs2⟩ : ∃ cs2, cs2 = cs + x := ⟨_, rfl⟩
          obtain ⟨bk2, hbk2⟩ : ∃ bk2, bk2 = bk + y - z := ⟨_, rfl⟩
          rw [← hcs2, ← hbk2] at hri
          have v1 : IntKind.u64.wrap ((bk : Int) + (y : Int)) = (tb : Int) := by rw [IntKind.wrap_u64]; omega
          have v2 : ¬ (tb : Int) < (z : Int) := by omega
          have v3 : IntKind.u64.wrap ((cs : Int) + (x : Int)) = (cs2 : Int) := by rw [IntKind.wrap_u64]; omega
          have v4 : IntKind.u64.wrap ((tb : Int) - (z : Int)) = (bk2 : Int) := by rw [IntKind.wrap_u64]; omega
          have v5 : IntKind.u64.wrap ((i : Int) + 1) = ((i + 1 : Nat) : Int) := by rw [IntKind.wrap_u64]; omega
          have v6 : IntKind.i64.wrap ((i : Int) + 1) = ((i + 1 : Nat) : Int) := IntWalk.i64_in _ (by omega)
          have HRI : Hid (RoundInv (numA g) (numD g) (numS g) O N cs2 bk2 (i + 1) (m + 20000)) := hri
          have HIM : Hid (m = 20000 * i) := him
          clear hri hz hsm hcs hbk him htb hcs2 hbk2 hie
          go_upto_region 11 with (fail)
          refine wp_region_seq 15 [50, 51, 52, 53, 54, 55, 49, 56, 57, 58, 59, 14, 15, 16, 17] [(50, .is (.agg (RulesK g (kf g)))), (51, .is (W O)), (52, .is (W C)), (53, .is (W N)), (54, .is (.agg (StC O C N true 1099511627776))), (55, .is (.tuple #[.int .u64 (x : Nat), .int .u64 (y : Nat), .int .u64 (z : Nat), .bool true])), (49, .is (.tuple #[.int .u64 (x : Nat), .int .u64 (y : Nat), .int .u64 (z : Nat), .bool true])), (56, .is (.int .u64 (x : Nat))), (57, .is (.int .u64 (y : Nat))), (58, .is (.int .u64 (z : Nat))), (59, .is (.bool true)), (14, .is (.int .u64 (x : Nat))), (15, .is (.int .u64 (y : Nat))), (16, .is (.int .u64 (z : Nat))), (17, .is (.bool true))] (by kernel_rfl) (by rfl) ?_ ?_
          · refine seeOps_cons ?_ (seeOps_cons ?_ (seeOps_cons ?_ (seeOps_cons ?_ (seeOps_cons ?_ (seeOps_cons ?_ (seeOps_cons ?_ (seeOps_cons ?_ (seeOps_cons ?_ (seeOps_cons ?_ (seeOps_cons ?_ (seeOps_cons ?_ (seeOps_cons ?_ (seeOps_cons ?_ (seeOps_cons ?_ seeOps_nil))))))))))))))
            · intro w9 hb9 fr hout hin
              have h7 : fr.tmps.getD 7 undef = .pointer (some ⟨G1, 0, none⟩) := hout 7 (by decide)
              clear hout hin
              exact gs_loadAt (.tmp 7) rfl h7 (HR.out.below hb9 HR.out.lt).load (wanted_none rfl) rfl
            · intro w9 hb9 fr hout hin
              have h4 : fr.tmps.getD 4 undef = .pointer (some ⟨w.heap.size, 0, none⟩) := hout 4 (by decide)
              clear hout hin
              exact gs_loadW (n := O) (.tmp 4) rfl h4 (HO.out.below hb9 HO.out.lt).cells4 (wanted_none rfl) rfl
            · intro w9 hb9 fr hout hin
              have h8 : fr.tmps.getD 8 undef = .pointer (some ⟨G, 0, none⟩) := hout 8 (by decide)
              clear hout hin
              exact gs_loadW (n := C) (.tmp 8) rfl h8 (HCU.out.below hb9 HCU.out.lt).cells4 (wanted_none rfl) rfl
            · intro w9 hb9 fr hout hin
              have h13 : fr.tmps.getD 13 undef = .pointer (some ⟨wr.heap.size, 0, none⟩) := hout 13 (by decide)
              clear hout hin
              exact gs_loadW (n := N) (.tmp 13) rfl h13 (HNX.out.below hb9 HNX.out.lt).cells4 (wanted_none rfl) rfl
            · intro w9 hb9 fr hout hin
              have h51 : fr.tmps.getD 51 undef = W O := hin 51 (by decide) (by decide)
              have h52 : fr.tmps.getD 52 undef = W C := hin 52 (by decide) (by decide)
              have h53 : fr.tmps.getD 53 undef = W N := hin 53 (by decide) (by decide)
              clear hout hin
              exact gs_buildSt (.tmp 51) (.tmp 52) (.tmp 53) rfl h51 h52 h53 (wanted_none rfl) rfl
            · intro w9 hb9 fr hout hin
              have h50 : fr.tmps.getD 50 undef = .agg (RulesK g (kf g)) := hin 50 (by decide) (by decide)
              have h54 : fr.tmps.getD 54 undef = .agg (StC O C N true 1099511627776) := hin 54 (by decide) (by decide)
              clear hout hin
              exact gs_call2 (.tmp 50) (.tmp 54) rfl en_gsStore (wanted_none rfl) (by rw [show fr.eval (.tmp 50) = _ from h50, show fr.eval (.tmp 54) = _ from h54]; exact (KST.out w9).mono fun _ _ h => RetV.gs h) (fun _ _ h => h)
            · intro w9 hb9 fr hout hin
              have h55 : fr.tmps.getD 55 undef = .tuple #[.int .u64 (x : Nat), .int .u64 (y : Nat), .int .u64 (z : Nat), .bool true] := hin 55 (by decide) (by decide)
              clear hout hin
              exact relStep_move (.tmp 55) rfl (wanted_none rfl) (by show fr.tmps.getD 55 undef = _; rw [h55])
            · intro w9 hb9 fr hout hin
              have h49 : fr.tmps.getD 49 undef = .tuple #[.int .u64 (x : Nat), .int .u64 (y : Nat), .int .u64 (z : Nat), .bool true] := hin 49 (by decide) (by decide)
              clear hout hin
              exact gs_ext (.tmp 49) 0 rfl h49 rfl (wanted_none rfl) rfl
            · intro w9 hb9 fr hout hin
              have h49 : fr.tmps.getD 49 undef = .tuple #[.int .u64 (x : Nat), .int .u64 (y : Nat), .int .u64 (z : Nat), .bool true] := hin 49 (by decide) (by decide)
              clear hout hin
              exact gs_ext (.tmp 49) 1 rfl h49 rfl (wanted_none rfl) rfl
            · intro w9 hb9 fr hout hin
              have h49 : fr.tmps.getD 49 undef = .tuple #[.int .u64 (x : Nat), .int .u64 (y : Nat), .int .u64 (z : Nat), .bool true] := hin 49 (by decide) (by decide)
              clear hout hin
              exact gs_ext (.tmp 49) 2 rfl h49 rfl (wanted_none rfl) rfl
            · intro w9 hb9 fr hout hin
              have h49 : fr.tmps.getD 49 undef = .tuple #[.int .u64 (x : Nat), .int .u64 (y : Nat), .int .u64 (z : Nat), .bool true] := hin 49 (by decide) (by decide)
              clear hout hin
              exact gs_ext (.tmp 49) 3 rfl h49 rfl (wanted_none rfl) rfl
            · intro w9 hb9 fr hout hin
              have h56 : fr.tmps.getD 56 undef = .int .u64 (x : Nat) := hin 56 (by decide) (by decide)
              clear hout hin
              exact relStep_assign (.tmp 56) rfl (wanted_none rfl) (by show fr.tmps.getD 56 undef = _; rw [h56])
            · intro w9 hb9 fr hout hin
              have h57 : fr.tmps.getD 57 undef = .int .u64 (y : Nat) := hin 57 (by decide) (by decide)
              clear hout hin
              exact relStep_assign (.tmp 57) rfl (wanted_none rfl) (by show fr.tmps.getD 57 undef = _; rw [h57])
            · intro w9 hb9 fr hout hin
              have h58 : fr.tmps.getD 58 undef = .int .u64 (z : Nat) := hin 58 (by decide) (by decide)
              clear hout hin
              exact relStep_assign (.tmp 58) rfl (wanted_none rfl) (by show fr.tmps.getD 58 undef = _; rw [h58])
            · intro w9 hb9 fr hout hin
              have h59 : fr.tmps.getD 59 undef = .bool true := hin 59 (by decide) (by decide)
              clear hout hin
              exact relStep_assign (.tmp 59) rfl (wanted_none rfl) (by show fr.tmps.getD 59 undef = _; rw [h59])
          intro X11 hbn
          refine relAsk_in (by rfl) ?_
          intro v50 h50
          obtain rfl : v50 = .agg (RulesK g (kf g)) := h50
          refine relAsk_in (by rfl) ?_
          intro v51 h51
          obtain rfl : v51 = W O := h51
          refine relAsk_in (by rfl) ?_
          intro v52 h52
          obtain rfl : v52 = W C := h52
          refine relAsk_in (by rfl) ?_
          intro v53 h53
          obtain rfl : v53 = W N := h53
          refine relAsk_in (by rfl) ?_
          intro v54 h54
          obtain rfl : v54 = .agg (StC O C N true 1099511627776) := h54
          refine relAsk_in (by rfl) ?_
          intro v55 h55
          obtain rfl : v55 = .tuple #[.int .u64 (x : Nat), .int .u64 (y : Nat), .int .u64 (z : Nat), .bool true] := h55
          refine relAsk_in (by rfl) ?_
          intro v49 h49
          obtain rfl : v49 = .tuple #[.int .u64 (x : Nat), .int .u64 (y : Nat), .int .u64 (z : Nat), .bool true] := h49
          refine relAsk_in (by rfl) ?_
          intro v56 h56
          obtain rfl : v56 = .int .u64 (x : Nat) := h56
          refine relAsk_in (by rfl) ?_
          intro v57 h57
          obtain rfl : v57 = .int .u64 (y : Nat) := h57
          refine relAsk_in (by rfl) ?_
          intro v58 h58
          obtain rfl : v58 = .int .u64 (z : Nat) := h58
          refine relAsk_in (by rfl) ?_
          intro v59 h59
          obtain rfl : v59 = .bool true := h59
          refine relAsk_in (by rfl) ?_
          intro v14 h14
          obtain rfl : v14 = .int .u64 (x : Nat) := h14
          refine relAsk_in (by rfl) ?_
          intro v15 h15
          obtain rfl : v15 = .int .u64 (y : Nat) := h15
          refine relAsk_in (by rfl) ?_
          intro v16 h16
          obtain rfl : v16 = .int .u64 (z : Nat) := h16
          refine relAsk_in (by rfl) ?_
          intro v17 h17
          obtain rfl : v17 = .bool true := h17
          refine relAsk_nil ?_
          refine wpList_nil ?_
          replace HR := Lib.hid (HR.out.below hbn HR.out.lt)
          replace HO := Lib.hid (HO.out.below hbn HO.out.lt)
          replace HCU := Lib.hid (HCU.out.below hbn HCU.out.lt)
          replace HNX := Lib.hid (HNX.out.below hbn HNX.out.lt)
          have HBX := Lib.hid (HB.out.trans (hbn.mono HB.out.size))
          have HNE2 := HNE.out
          clear hbn
          go_simp
          obtain ⟨n0, n1, n2, n3⟩ := HNX.out.cells4
          obtain ⟨q0, q1, q2, q3⟩ := HCU.out.free4
          obtain ⟨p0, p1, p2, p3⟩ := HCU.out.cells4
          go_wp2_with fail
          have hCU := HCU.out.put4 (lim 0 N) (lim 1 N) (lim 2 N) (lim 3 N)
          have hO := (((HO.out.far (p := ⟨G, 0, none⟩) (Nat.ne_of_lt HNE2.1) (.int .u64 (lim 0 N : Nat))).far (p := ⟨G, 1, none⟩) (Nat.ne_of_lt HNE2.1) (.int .u64 (lim 1 N : Nat))).far (p := ⟨G, 2, none⟩) (Nat.ne_of_lt HNE2.1) (.int .u64 (lim 2 N : Nat))).far (p := ⟨G, 3, none⟩) (Nat.ne_of_lt HNE2.1) (.int .u64 (lim 3 N : Nat))
          have hR := (((HR.out.far (p := ⟨G, 0, none⟩) (Nat.ne_of_lt HNE2.2.1) (.int .u64 (lim 0 N : Nat))).far (p := ⟨G, 1, none⟩) (Nat.ne_of_lt HNE2.2.1) (.int .u64 (lim 1 N : Nat))).far (p := ⟨G, 2, none⟩) (Nat.ne_of_lt HNE2.2.1) (.int .u64 (lim 2 N : Nat))).far (p := ⟨G, 3, none⟩) (Nat.ne_of_lt HNE2.2.1) (.int .u64 (lim 3 N : Nat))
          have hbF := below_put4 HBX.out (f := G) (Nat.le_of_lt HNE2.1) (.int .u64 (lim 0 N : Nat)) (.int .u64 (lim 1 N : Nat)) (.int .u64 (lim 2 N : Nat)) (.int .u64 (lim 3 N : Nat))
          clear n0 n1 n2 n3 p0 p1 p2 p3 q0 q1 q2 q3 v1 v2 v3 v4
          generalize (((X11.setCell ⟨G, 0, none⟩ (.int .u64 (lim 0 N : Nat))).setCell ⟨G, 1, none⟩ (.int .u64 (lim 1 N : Nat))).setCell ⟨G, 2, none⟩ (.int .u64 (lim 2 N : Nat))).setCell ⟨G, 3, none⟩ (.int .u64 (lim 3 N : Nat)) = X12 at *
          go_roundw
          case rel => exact ⟨i + 1, cs2, bk2, N, m + 20000, by go_num, rfl, rfl, by go_num, by have := HI0.out; omega, HEQ.out, HBN.out, by have := HIM.out; omega, HRI.out, hCU, hO, hR, hbF⟩
          case measure => have := HI0.out; simp [intOf]; omega
        · have HBN : Hid (Big O) := HC.out.2.2.2.2.1
          have HEQ : Hid (i + 1 = E + 1 → O = O) := fun _ => rfl
          go_upto_region 11 with (fail)
          have hNX := HNX0.out
          have hbN := HBN0.out
          clear h1 h2 HNX0 HBN0
          generalize wr.alloc (.cells #[.int .u64 (lim 0 O : Nat), .int .u64 (lim 1 O : Nat), .int .u64 (lim 2 O : Nat), .int .u64 (lim 3 O : Nat)] 24) = XS at *
          have HNX := Lib.hid hNX
          replace HO := Lib.hid (HO.out.below hbN HNE.out.2.2.2.2)
          replace HR := Lib.hid (HR.out.below hbN HNE.out.2.2.2.1)
          replace HCU := Lib.hid (HCU.out.below hbN HNE.out.2.2.1)
          have HBS := Lib.hid (HB.out.trans (hbN.mono HB.out.size))
          replace HB := HBS
          clear hNX hbN
          obtain ⟨hz, hri⟩ := round_step (n := O) (nums g).1 (nums g).2.1 (nums g).2.2.1 (nums g).2.2.2 HI.out.1
          have hst := storeN_step HG.out.1 O C O
          have hsm := step_small (numA g) (numD g) (numS g) O C O (nums g).1 (nums g).2.1 (nums g).2.2.1 (nums g).2.2.2
          obtain ⟨x, hx⟩ : ∃ x, x = (stepN (numA g) (numD g) (numS g) O C O).1 := ⟨_, rfl⟩
          obtain ⟨y, hy⟩ : ∃ y, y = (stepN (numA g) (numD g) (numS g) O C O).2.1 := ⟨_, rfl⟩
          obtain ⟨z, hz0⟩ : ∃ z, z = (stepN (numA g) (numD g) (numS g) O C O).2.2 := ⟨_, rfl⟩
          rw [← hx, ← hy, ← hz0] at hri hst hsm
          rw [← hy, ← hz0] at hz
          have KST : Hid (∀ v, Calls Try.prog 23 #[.agg (RulesK g (kf g)), .agg (StC O C O true 1099511627776)] v (RetV (.tuple #[.int .u64 (x : Nat), .int .u64 (y : Nat), .int .u64 (z : Nat), .bool true]) v)) := fun v => by
            have h := gStore g (by have := HG.out.1; omega) HG.out.2.1 (warm := true) (left := 1099511627776) HC.out.2.2.2.2.1 HI.out.2.1 HBN.out (by omega) v
            rw [hst] at h; exact h
          clear hx hy hz0 hst
          have hcs := HI.out.1.2.2.1
          have hbk := HI.out.1.2.2.2
          have him := HI.out.2.2
          have hie := HIE.out
          obtain ⟨tb, htb⟩ : ∃ tb, tb = bk + y := ⟨_, rfl⟩
          obtain ⟨cs2, hcs2⟩ : ∃ cs2, cs2 = cs + x := ⟨_, rfl⟩
          obtain ⟨bk2, hbk2⟩ : ∃ bk2, bk2 = bk + y - z := ⟨_, rfl⟩
          rw [← hcs2, ← hbk2] at hri
          have v1 : IntKind.u64.wrap ((bk : Int) + (y : Int)) = (tb : Int) := by rw [IntKind.wrap_u64]; omega
          have v2 : ¬ (tb : Int) < (z : Int) := by omega
          have v3 : IntKind.u64.wrap ((cs : Int) + (x : Int)) = (cs2 : Int) := by rw [IntKind.wrap_u64]; omega
          have v4 : IntKind.u64.wrap ((tb : Int) - (z : Int)) = (bk2 : Int) := by rw [IntKind.wrap_u64]; omega
          have v5 : IntKind.u64.wrap ((i : Int) + 1) = ((i + 1 : Nat) : Int) := by rw [IntKind.wrap_u64]; omega
          have v6 : IntKind.i64.wrap ((i : Int) + 1) = ((i + 1 : Nat) : Int) := IntWalk.i64_in _ (by omega)
          have HRI : Hid (RoundInv (numA g) (numD g) (numS g) O O cs2 bk2 (i + 1) (m + 20000)) := hri
          have HIM : Hid (m = 20000 * i) := him
          clear hri hz hsm hcs hbk him htb hcs2 hbk2 hie
          go_upto_region 11 with (fail)
          refine wp_region_seq 15 [50, 51, 52, 53, 54, 55, 49, 56, 57, 58, 59, 14, 15, 16, 17] [(50, .is (.agg (RulesK g (kf g)))), (51, .is (W O)), (52, .is (W C)), (53, .is (W O)), (54, .is (.agg (StC O C O true 1099511627776))), (55, .is (.tuple #[.int .u64 (x : Nat), .int .u64 (y : Nat), .int .u64 (z : Nat), .bool true])), (49, .is (.tuple #[.int .u64 (x : Nat), .int .u64 (y : Nat), .int .u64 (z : Nat), .bool true])), (56, .is (.int .u64 (x : Nat))), (57, .is (.int .u64 (y : Nat))), (58, .is (.int .u64 (z : Nat))), (59, .is (.bool true)), (14, .is (.int .u64 (x : Nat))), (15, .is (.int .u64 (y : Nat))), (16, .is (.int .u64 (z : Nat))), (17, .is (.bool true))] (by kernel_rfl) (by rfl) ?_ ?_
          · refine seeOps_cons ?_ (seeOps_cons ?_ (seeOps_cons ?_ (seeOps_cons ?_ (seeOps_cons ?_ (seeOps_cons ?_ (seeOps_cons ?_ (seeOps_cons ?_ (seeOps_cons ?_ (seeOps_cons ?_ (seeOps_cons ?_ (seeOps_cons ?_ (seeOps_cons ?_ (seeOps_cons ?_ (seeOps_cons ?_ seeOps_nil))))))))))))))
            · intro w9 hb9 fr hout hin
              have h7 : fr.tmps.getD 7 undef = .pointer (some ⟨G1, 0, none⟩) := hout 7 (by decide)
              clear hout hin
              exact gs_loadAt (.tmp 7) rfl h7 (HR.out.below hb9 HR.out.lt).load (wanted_none rfl) rfl
            · intro w9 hb9 fr hout hin
              have h4 : fr.tmps.getD 4 undef = .pointer (some ⟨w.heap.size, 0, none⟩) := hout 4 (by decide)
              clear hout hin
              exact gs_loadW (n := O) (.tmp 4) rfl h4 (HO.out.below hb9 HO.out.lt).cells4 (wanted_none rfl) rfl
            · intro w9 hb9 fr hout hin
              have h8 : fr.tmps.getD 8 undef = .pointer (some ⟨G, 0, none⟩) := hout 8 (by decide)
              clear hout hin
              exact gs_loadW (n := C) (.tmp 8) rfl h8 (HCU.out.below hb9 HCU.out.lt).cells4 (wanted_none rfl) rfl
            · intro w9 hb9 fr hout hin
              have h13 : fr.tmps.getD 13 undef = .pointer (some ⟨wr.heap.size, 0, none⟩) := hout 13 (by decide)
              clear hout hin
              exact gs_loadW (n := O) (.tmp 13) rfl h13 (HNX.out.below hb9 HNX.out.lt).cells4 (wanted_none rfl) rfl
            · intro w9 hb9 fr hout hin
              have h51 : fr.tmps.getD 51 undef = W O := hin 51 (by decide) (by decide)
              have h52 : fr.tmps.getD 52 undef = W C := hin 52 (by decide) (by decide)
              have h53 : fr.tmps.getD 53 undef = W O := hin 53 (by decide) (by decide)
              clear hout hin
              exact gs_buildSt (.tmp 51) (.tmp 52) (.tmp 53) rfl h51 h52 h53 (wanted_none rfl) rfl
            · intro w9 hb9 fr hout hin
              have h50 : fr.tmps.getD 50 undef = .agg (RulesK g (kf g)) := hin 50 (by decide) (by decide)
              have h54 : fr.tmps.getD 54 undef = .agg (StC O C O true 1099511627776) := hin 54 (by decide) (by decide)
              clear hout hin
              exact gs_call2 (.tmp 50) (.tmp 54) rfl en_gsStore (wanted_none rfl) (by rw [show fr.eval (.tmp 50) = _ from h50, show fr.eval (.tmp 54) = _ from h54]; exact (KST.out w9).mono fun _ _ h => RetV.gs h) (fun _ _ h => h)
            · intro w9 hb9 fr hout hin
              have h55 : fr.tmps.getD 55 undef = .tuple #[.int .u64 (x : Nat), .int .u64 (y : Nat), .int .u64 (z : Nat), .bool true] := hin 55 (by decide) (by decide)
              clear hout hin
              exact relStep_move (.tmp 55) rfl (wanted_none rfl) (by show fr.tmps.getD 55 undef = _; rw [h55])
            · intro w9 hb9 fr hout hin
              have h49 : fr.tmps.getD 49 undef = .tuple #[.int .u64 (x : Nat), .int .u64 (y : Nat), .int .u64 (z : Nat), .bool true] := hin 49 (by decide) (by decide)
              clear hout hin
              exact gs_ext (.tmp 49) 0 rfl h49 rfl (wanted_none rfl) rfl
            · intro w9 hb9 fr hout hin
              have h49 : fr.tmps.getD 49 undef = .tuple #[.int .u64 (x : Nat), .int .u64 (y : Nat), .int .u64 (z : Nat), .bool true] := hin 49 (by decide) (by decide)
              clear hout hin
              exact gs_ext (.tmp 49) 1 rfl h49 rfl (wanted_none rfl) rfl
            · intro w9 hb9 fr hout hin
              have h49 : fr.tmps.getD 49 undef = .tuple #[.int .u64 (x : Nat), .int .u64 (y : Nat), .int .u64 (z : Nat), .bool true] := hin 49 (by decide) (by decide)
              clear hout hin
              exact gs_ext (.tmp 49) 2 rfl h49 rfl (wanted_none rfl) rfl
            · intro w9 hb9 fr hout hin
              have h49 : fr.tmps.getD 49 undef = .tuple #[.int .u64 (x : Nat), .int .u64 (y : Nat), .int .u64 (z : Nat), .bool true] := hin 49 (by decide) (by decide)
              clear hout hin
              exact gs_ext (.tmp 49) 3 rfl h49 rfl (wanted_none rfl) rfl
            · intro w9 hb9 fr hout hin
              have h56 : fr.tmps.getD 56 undef = .int .u64 (x : Nat) := hin 56 (by decide) (by decide)
              clear hout hin
              exact relStep_assign (.tmp 56) rfl (wanted_none rfl) (by show fr.tmps.getD 56 undef = _; rw [h56])
            · intro w9 hb9 fr hout hin
              have h57 : fr.tmps.getD 57 undef = .int .u64 (y : Nat) := hin 57 (by decide) (by decide)
              clear hout hin
              exact relStep_assign (.tmp 57) rfl (wanted_none rfl) (by show fr.tmps.getD 57 undef = _; rw [h57])
            · intro w9 hb9 fr hout hin
              have h58 : fr.tmps.getD 58 undef = .int .u64 (z : Nat) := hin 58 (by decide) (by decide)
              clear hout hin
              exact relStep_assign (.tmp 58) rfl (wanted_none rfl) (by show fr.tmps.getD 58 undef = _; rw [h58])
            · intro w9 hb9 fr hout hin
              have h59 : fr.tmps.getD 59 undef = .bool true := hin 59 (by decide) (by decide)
              clear hout hin
              exact relStep_assign (.tmp 59) rfl (wanted_none rfl) (by show fr.tmps.getD 59 undef = _; rw [h59])
          intro X11 hbn
          refine relAsk_in (by rfl) ?_
          intro v50 h50
          obtain rfl : v50 = .agg (RulesK g (kf g)) := h50
          refine relAsk_in (by rfl) ?_
          intro v51 h51
          obtain rfl : v51 = W O := h51
          refine relAsk_in (by rfl) ?_
          intro v52 h52
          obtain rfl : v52 = W C := h52
          refine relAsk_in (by rfl) ?_
          intro v53 h53
          obtain rfl : v53 = W O := h53
          refine relAsk_in (by rfl) ?_
          intro v54 h54
          obtain rfl : v54 = .agg (StC O C O true 1099511627776) := h54
          refine relAsk_in (by rfl) ?_
          intro v55 h55
          obtain rfl : v55 = .tuple #[.int .u64 (x : Nat), .int .u64 (y : Nat), .int .u64 (z : Nat), .bool true] := h55
          refine relAsk_in (by rfl) ?_
          intro v49 h49
          obtain rfl : v49 = .tuple #[.int .u64 (x : Nat), .int .u64 (y : Nat), .int .u64 (z : Nat), .bool true] := h49
          refine relAsk_in (by rfl) ?_
          intro v56 h56
          obtain rfl : v56 = .int .u64 (x : Nat) := h56
          refine relAsk_in (by rfl) ?_
          intro v57 h57
          obtain rfl : v57 = .int .u64 (y : Nat) := h57
          refine relAsk_in (by rfl) ?_
          intro v58 h58
          obtain rfl : v58 = .int .u64 (z : Nat) := h58
          refine relAsk_in (by rfl) ?_
          intro v59 h59
          obtain rfl : v59 = .bool true := h59
          refine relAsk_in (by rfl) ?_
          intro v14 h14
          obtain rfl : v14 = .int .u64 (x : Nat) := h14
          refine relAsk_in (by rfl) ?_
          intro v15 h15
          obtain rfl : v15 = .int .u64 (y : Nat) := h15
          refine relAsk_in (by rfl) ?_
          intro v16 h16
          obtain rfl : v16 = .int .u64 (z : Nat) := h16
          refine relAsk_in (by rfl) ?_
          intro v17 h17
          obtain rfl : v17 = .bool true := h17
          refine relAsk_nil ?_
          refine wpList_nil ?_
          replace HR := Lib.hid (HR.out.below hbn HR.out.lt)
          replace HO := Lib.hid (HO.out.below hbn HO.out.lt)
          replace HCU := Lib.hid (HCU.out.below hbn HCU.out.lt)
          replace HNX := Lib.hid (HNX.out.below hbn HNX.out.lt)
          have HBX := Lib.hid (HB.out.trans (hbn.mono HB.out.size))
          have HNE2 := HNE.out
          clear hbn
          go_simp
          obtain ⟨n0, n1, n2, n3⟩ := HNX.out.cells4
          obtain ⟨q0, q1, q2, q3⟩ := HCU.out.free4
          obtain ⟨p0, p1, p2, p3⟩ := HCU.out.cells4
          go_wp2_with fail
          have hCU := HCU.out.put4 (lim 0 O) (lim 1 O) (lim 2 O) (lim 3 O)
          have hO := (((HO.out.far (p := ⟨G, 0, none⟩) (Nat.ne_of_lt HNE2.1) (.int .u64 (lim 0 O : Nat))).far (p := ⟨G, 1, none⟩) (Nat.ne_of_lt HNE2.1) (.int .u64 (lim 1 O : Nat))).far (p := ⟨G, 2, none⟩) (Nat.ne_of_lt HNE2.1) (.int .u64 (lim 2 O : Nat))).far (p := ⟨G, 3, none⟩) (Nat.ne_of_lt HNE2.1) (.int .u64 (lim 3 O : Nat))
          have hR := (((HR.out.far (p := ⟨G, 0, none⟩) (Nat.ne_of_lt HNE2.2.1) (.int .u64 (lim 0 O : Nat))).far (p := ⟨G, 1, none⟩) (Nat.ne_of_lt HNE2.2.1) (.int .u64 (lim 1 O : Nat))).far (p := ⟨G, 2, none⟩) (Nat.ne_of_lt HNE2.2.1) (.int .u64 (lim 2 O : Nat))).far (p := ⟨G, 3, none⟩) (Nat.ne_of_lt HNE2.2.1) (.int .u64 (lim 3 O : Nat))
          have hbF := below_put4 HBX.out (f := G) (Nat.le_of_lt HNE2.1) (.int .u64 (lim 0 O : Nat)) (.int .u64 (lim 1 O : Nat)) (.int .u64 (lim 2 O : Nat)) (.int .u64 (lim 3 O : Nat))
          clear n0 n1 n2 n3 p0 p1 p2 p3 q0 q1 q2 q3 v1 v2 v3 v4
          generalize (((X11.setCell ⟨G, 0, none⟩ (.int .u64 (lim 0 O : Nat))).setCell ⟨G, 1, none⟩ (.int .u64 (lim 1 O : Nat))).setCell ⟨G, 2, none⟩ (.int .u64 (lim 2 O : Nat))).setCell ⟨G, 3, none⟩ (.int .u64 (lim 3 O : Nat)) = X12 at *
          go_roundw
          case rel => exact ⟨i + 1, cs2, bk2, O, m + 20000, by go_num, rfl, rfl, by go_num, by have := HI0.out; omega, HEQ.out, HBN.out, by have := HIM.out; omega, HRI.out, hCU, hO, hR, hbF⟩
          case measure => have := HI0.out; simp [intOf]; omega
      · have HBN : Hid (Big O) := HC.out.2.2.2.2.1
        have HEQ : Hid (i + 1 = E + 1 → O = O) := fun _ => rfl
        go_upto_region 11 with (fail)
        have hNX := HNX0.out
        have hbN := HBN0.out
        clear h1 HNX0 HBN0
        generalize wr.alloc (.cells #[.int .u64 (lim 0 O : Nat), .int .u64 (lim 1 O : Nat), .int .u64 (lim 2 O : Nat), .int .u64 (lim 3 O : Nat)] 24) = XS at *
        have HNX := Lib.hid hNX
        replace HO := Lib.hid (HO.out.below hbN HNE.out.2.2.2.2)
        replace HR := Lib.hid (HR.out.below hbN HNE.out.2.2.2.1)
        replace HCU := Lib.hid (HCU.out.below hbN HNE.out.2.2.1)
        have HBS := Lib.hid (HB.out.trans (hbN.mono HB.out.size))
        replace HB := HBS
        clear hNX hbN
        obtain ⟨hz, hri⟩ := round_step (n := O) (nums g).1 (nums g).2.1 (nums g).2.2.1 (nums g).2.2.2 HI.out.1
        have hst := storeN_step HG.out.1 O C O
        have hsm := step_small (numA g) (numD g) (numS g) O C O (nums g).1 (nums g).2.1 (nums g).2.2.1 (nums g).2.2.2
        obtain ⟨x, hx⟩ : ∃ x, x = (stepN (numA g) (numD g) (numS g) O C O).1 := ⟨_, rfl⟩
        obtain ⟨y, hy⟩ : ∃ y, y = (stepN (numA g) (numD g) (numS g) O C O).2.1 := ⟨_, rfl⟩
        obtain ⟨z, hz0⟩ : ∃ z, z = (stepN (numA g) (numD g) (numS g) O C O).2.2 := ⟨_, rfl⟩
        rw [← hx, ← hy, ← hz0] at hri hst hsm
        rw [← hy, ← hz0] at hz
        have KST : Hid (∀ v, Calls Try.prog 23 #[.agg (RulesK g (kf g)), .agg (StC O C O true 1099511627776)] v (RetV (.tuple #[.int .u64 (x : Nat), .int .u64 (y : Nat), .int .u64 (z : Nat), .bool true]) v)) := fun v => by
          have h := gStore g (by have := HG.out.1; omega) HG.out.2.1 (warm := true) (left := 1099511627776) HC.out.2.2.2.2.1 HI.out.2.1 HBN.out (by omega) v
          rw [hst] at h; exact h
        clear hx hy hz0 hst
        have hcs := HI.out.1.2.2.1
        have hbk := HI.out.1.2.2.2
        have him := HI.out.2.2
        have hie := HIE.out
        obtain ⟨tb, htb⟩ : ∃ tb, tb = bk + y := ⟨_, rfl⟩
        obtain ⟨cs2, hcs2⟩ : ∃ cs2, cs2 = cs + x := ⟨_, rfl⟩
        obtain ⟨bk2, hbk2⟩ : ∃ bk2, bk2 = bk + y - z := ⟨_, rfl⟩
        rw [← hcs2, ← hbk2] at hri
        have v1 : IntKind.u64.wrap ((bk : Int) + (y : Int)) = (tb : Int) := by rw [IntKind.wrap_u64]; omega
        have v2 : ¬ (tb : Int) < (z : Int) := by omega
        have v3 : IntKind.u64.wrap ((cs : Int) + (x : Int)) = (cs2 : Int) := by rw [IntKind.wrap_u64]; omega
        have v4 : IntKind.u64.wrap ((tb : Int) - (z : Int)) = (bk2 : Int) := by rw [IntKind.wrap_u64]; omega
        have v5 : IntKind.u64.wrap ((i : Int) + 1) = ((i + 1 : Nat) : Int) := by rw [IntKind.wrap_u64]; omega
        have v6 : IntKind.i64.wrap ((i : Int) + 1) = ((i + 1 : Nat) : Int) := IntWalk.i64_in _ (by omega)
        have HRI : Hid (RoundInv (numA g) (numD g) (numS g) O O cs2 bk2 (i + 1) (m + 20000)) := hri
        have HIM : Hid (m = 20000 * i) := him
        clear hri hz hsm hcs hbk him htb hcs2 hbk2 hie
        go_upto_region 11 with (fail)
        refine wp_region_seq 15 [50, 51, 52, 53, 54, 55, 49, 56, 57, 58, 59, 14, 15, 16, 17] [(50, .is (.agg (RulesK g (kf g)))), (51, .is (W O)), (52, .is (W C)), (53, .is (W O)), (54, .is (.agg (StC O C O true 1099511627776))), (55, .is (.tuple #[.int .u64 (x : Nat), .int .u64 (y : Nat), .int .u64 (z : Nat), .bool true])), (49, .is (.tuple #[.int .u64 (x : Nat), .int .u64 (y : Nat), .int .u64 (z : Nat), .bool true])), (56, .is (.int .u64 (x : Nat))), (57, .is (.int .u64 (y : Nat))), (58, .is (.int .u64 (z : Nat))), (59, .is (.bool true)), (14, .is (.int .u64 (x : Nat))), (15, .is (.int .u64 (y : Nat))), (16, .is (.int .u64 (z : Nat))), (17, .is (.bool true))] (by kernel_rfl) (by rfl) ?_ ?_
        · refine seeOps_cons ?_ (seeOps_cons ?_ (seeOps_cons ?_ (seeOps_cons ?_ (seeOps_cons ?_ (seeOps_cons ?_ (seeOps_cons ?_ (seeOps_cons ?_ (seeOps_cons ?_ (seeOps_cons ?_ (seeOps_cons ?_ (seeOps_cons ?_ (seeOps_cons ?_ (seeOps_cons ?_ (seeOps_cons ?_ seeOps_nil))))))))))))))
          · intro w9 hb9 fr hout hin
            have h7 : fr.tmps.getD 7 undef = .pointer (some ⟨G1, 0, none⟩) := hout 7 (by decide)
            clear hout hin
            exact gs_loadAt (.tmp 7) rfl h7 (HR.out.below hb9 HR.out.lt).load (wanted_none rfl) rfl
          · intro w9 hb9 fr hout hin
            have h4 : fr.tmps.getD 4 undef = .pointer (some ⟨w.heap.size, 0, none⟩) := hout 4 (by decide)
            clear hout hin
            exact gs_loadW (n := O) (.tmp 4) rfl h4 (HO.out.below hb9 HO.out.lt).cells4 (wanted_none rfl) rfl
          · intro w9 hb9 fr hout hin
            have h8 : fr.tmps.getD 8 undef = .pointer (some ⟨G, 0, none⟩) := hout 8 (by decide)
            clear hout hin
            exact gs_loadW (n := C) (.tmp 8) rfl h8 (HCU.out.below hb9 HCU.out.lt).cells4 (wanted_none rfl) rfl
          · intro w9 hb9 fr hout hin
            have h13 : fr.tmps.getD 13 undef = .pointer (some ⟨wr.heap.size, 0, none⟩) := hout 13 (by decide)
            clear hout hin
            exact gs_loadW (n := O) (.tmp 13) rfl h13 (HNX.out.below hb9 HNX.out.lt).cells4 (wanted_none rfl) rfl
          · intro w9 hb9 fr hout hin
            have h51 : fr.tmps.getD 51 undef = W O := hin 51 (by decide) (by decide)
            have h52 : fr.tmps.getD 52 undef = W C := hin 52 (by decide) (by decide)
            have h53 : fr.tmps.getD 53 undef = W O := hin 53 (by decide) (by decide)
            clear hout hin
            exact gs_buildSt (.tmp 51) (.tmp 52) (.tmp 53) rfl h51 h52 h53 (wanted_none rfl) rfl
          · intro w9 hb9 fr hout hin
            have h50 : fr.tmps.getD 50 undef = .agg (RulesK g (kf g)) := hin 50 (by decide) (by decide)
            have h54 : fr.tmps.getD 54 undef = .agg (StC O C O true 1099511627776) := hin 54 (by decide) (by decide)
            clear hout hin
            exact gs_call2 (.tmp 50) (.tmp 54) rfl en_gsStore (wanted_none rfl) (by rw [show fr.eval (.tmp 50) = _ from h50, show fr.eval (.tmp 54) = _ from h54]; exact (KST.out w9).mono fun _ _ h => RetV.gs h) (fun _ _ h => h)
          · intro w9 hb9 fr hout hin
            have h55 : fr.tmps.getD 55 undef = .tuple #[.int .u64 (x : Nat), .int .u64 (y : Nat), .int .u64 (z : Nat), .bool true] := hin 55 (by decide) (by decide)
            clear hout hin
            exact relStep_move (.tmp 55) rfl (wanted_none rfl) (by show fr.tmps.getD 55 undef = _; rw [h55])
          · intro w9 hb9 fr hout hin
            have h49 : fr.tmps.getD 49 undef = .tuple #[.int .u64 (x : Nat), .int .u64 (y : Nat), .int .u64 (z : Nat), .bool true] := hin 49 (by decide) (by decide)
            clear hout hin
            exact gs_ext (.tmp 49) 0 rfl h49 rfl (wanted_none rfl) rfl
          · intro w9 hb9 fr hout hin
            have h49 : fr.tmps.getD 49 undef = .tuple #[.int .u64 (x : Nat), .int .u64 (y : Nat), .int .u64 (z : Nat), .bool true] := hin 49 (by decide) (by decide)
            clear hout hin
            exact gs_ext (.tmp 49) 1 rfl h49 rfl (wanted_none rfl) rfl
          · intro w9 hb9 fr hout hin
            have h49 : fr.tmps.getD 49 undef = .tuple #[.int .u64 (x : Nat), .int .u64 (y : Nat), .int .u64 (z : Nat), .bool true] := hin 49 (by decide) (by decide)
            clear hout hin
            exact gs_ext (.tmp 49) 2 rfl h49 rfl (wanted_none rfl) rfl
          · intro w9 hb9 fr hout hin
            have h49 : fr.tmps.getD 49 undef = .tuple #[.int .u64 (x : Nat), .int .u64 (y : Nat), .int .u64 (z : Nat), .bool true] := hin 49 (by decide) (by decide)
            clear hout hin
            exact gs_ext (.tmp 49) 3 rfl h49 rfl (wanted_none rfl) rfl
          · intro w9 hb9 fr hout hin
            have h56 : fr.tmps.getD 56 undef = .int .u64 (x : Nat) := hin 56 (by decide) (by decide)
            clear hout hin
            exact relStep_assign (.tmp 56) rfl (wanted_none rfl) (by show fr.tmps.getD 56 undef = _; rw [h56])
          · intro w9 hb9 fr hout hin
            have h57 : fr.tmps.getD 57 undef = .int .u64 (y : Nat) := hin 57 (by decide) (by decide)
            clear hout hin
            exact relStep_assign (.tmp 57) rfl (wanted_none rfl) (by show fr.tmps.getD 57 undef = _; rw [h57])
          · intro w9 hb9 fr hout hin
            have h58 : fr.tmps.getD 58 undef = .int .u64 (z : Nat) := hin 58 (by decide) (by decide)
            clear hout hin
            exact relStep_assign (.tmp 58) rfl (wanted_none rfl) (by show fr.tmps.getD 58 undef = _; rw [h58])
          · intro w9 hb9 fr hout hin
            have h59 : fr.tmps.getD 59 undef = .bool true := hin 59 (by decide) (by decide)
            clear hout hin
            exact relStep_assign (.tmp 59) rfl (wanted_none rfl) (by show fr.tmps.getD 59 undef = _; rw [h59])
        intro X11 hbn
        refine relAsk_in (by rfl) ?_
        intro v50 h50
        obtain rfl : v50 = .agg (RulesK g (kf g)) := h50
        refine relAsk_in (by rfl) ?_
        intro v51 h51
        obtain rfl : v51 = W O := h51
        refine relAsk_in (by rfl) ?_
        intro v52 h52
        obtain rfl : v52 = W C := h52
        refine relAsk_in (by rfl) ?_
        intro v53 h53
        obtain rfl : v53 = W O := h53
        refine relAsk_in (by rfl) ?_
        intro v54 h54
        obtain rfl : v54 = .agg (StC O C O true 1099511627776) := h54
        refine relAsk_in (by rfl) ?_
        intro v55 h55
        obtain rfl : v55 = .tuple #[.int .u64 (x : Nat), .int .u64 (y : Nat), .int .u64 (z : Nat), .bool true] := h55
        refine relAsk_in (by rfl) ?_
        intro v49 h49
        obtain rfl : v49 = .tuple #[.int .u64 (x : Nat), .int .u64 (y : Nat), .int .u64 (z : Nat), .bool true] := h49
        refine relAsk_in (by rfl) ?_
        intro v56 h56
        obtain rfl : v56 = .int .u64 (x : Nat) := h56
        refine relAsk_in (by rfl) ?_
        intro v57 h57
        obtain rfl : v57 = .int .u64 (y : Nat) := h57
        refine relAsk_in (by rfl) ?_
        intro v58 h58
        obtain rfl : v58 = .int .u64 (z : Nat) := h58
        refine relAsk_in (by rfl) ?_
        intro v59 h59
        obtain rfl : v59 = .bool true := h59
        refine relAsk_in (by rfl) ?_
        intro v14 h14
        obtain rfl : v14 = .int .u64 (x : Nat) := h14
        refine relAsk_in (by rfl) ?_
        intro v15 h15
        obtain rfl : v15 = .int .u64 (y : Nat) := h15
        refine relAsk_in (by rfl) ?_
        intro v16 h16
        obtain rfl : v16 = .int .u64 (z : Nat) := h16
        refine relAsk_in (by rfl) ?_
        intro v17 h17
        obtain rfl : v17 = .bool true := h17
        refine relAsk_nil ?_
        refine wpList_nil ?_
        replace HR := Lib.hid (HR.out.below hbn HR.out.lt)
        replace HO := Lib.hid (HO.out.below hbn HO.out.lt)
        replace HCU := Lib.hid (HCU.out.below hbn HCU.out.lt)
        replace HNX := Lib.hid (HNX.out.below hbn HNX.out.lt)
        have HBX := Lib.hid (HB.out.trans (hbn.mono HB.out.size))
        have HNE2 := HNE.out
        clear hbn
        go_simp
        obtain ⟨n0, n1, n2, n3⟩ := HNX.out.cells4
        obtain ⟨q0, q1, q2, q3⟩ := HCU.out.free4
        obtain ⟨p0, p1, p2, p3⟩ := HCU.out.cells4
        go_wp2_with fail
        have hCU := HCU.out.put4 (lim 0 O) (lim 1 O) (lim 2 O) (lim 3 O)
        have hO := (((HO.out.far (p := ⟨G, 0, none⟩) (Nat.ne_of_lt HNE2.1) (.int .u64 (lim 0 O : Nat))).far (p := ⟨G, 1, none⟩) (Nat.ne_of_lt HNE2.1) (.int .u64 (lim 1 O : Nat))).far (p := ⟨G, 2, none⟩) (Nat.ne_of_lt HNE2.1) (.int .u64 (lim 2 O : Nat))).far (p := ⟨G, 3, none⟩) (Nat.ne_of_lt HNE2.1) (.int .u64 (lim 3 O : Nat))
        have hR := (((HR.out.far (p := ⟨G, 0, none⟩) (Nat.ne_of_lt HNE2.2.1) (.int .u64 (lim 0 O : Nat))).far (p := ⟨G, 1, none⟩) (Nat.ne_of_lt HNE2.2.1) (.int .u64 (lim 1 O : Nat))).far (p := ⟨G, 2, none⟩) (Nat.ne_of_lt HNE2.2.1) (.int .u64 (lim 2 O : Nat))).far (p := ⟨G, 3, none⟩) (Nat.ne_of_lt HNE2.2.1) (.int .u64 (lim 3 O : Nat))
        have hbF := below_put4 HBX.out (f := G) (Nat.le_of_lt HNE2.1) (.int .u64 (lim 0 O : Nat)) (.int .u64 (lim 1 O : Nat)) (.int .u64 (lim 2 O : Nat)) (.int .u64 (lim 3 O : Nat))
        clear n0 n1 n2 n3 p0 p1 p2 p3 q0 q1 q2 q3 v1 v2 v3 v4
        generalize (((X11.setCell ⟨G, 0, none⟩ (.int .u64 (lim 0 O : Nat))).setCell ⟨G, 1, none⟩ (.int .u64 (lim 1 O : Nat))).setCell ⟨G, 2, none⟩ (.int .u64 (lim 2 O : Nat))).setCell ⟨G, 3, none⟩ (.int .u64 (lim 3 O : Nat)) = X12 at *
        go_roundw
        case rel => exact ⟨i + 1, cs2, bk2, O, m + 20000, by go_num, rfl, rfl, by go_num, by have := HI0.out; omega, HEQ.out, HBN.out, by have := HIM.out; omega, HRI.out, hCU, hO, hR, hbF⟩
        case measure => have := HI0.out; simp [intOf]; omega
    · have hie : i = E + 1 := by omega
      have hCO := HEND.out hie
      have hE := HE.out
      have hi31 : i ≤ 31 := by rw [hie, hE]; split <;> omega
      have hjj : ¬ ((i : Int) ≤ (L : Int)) ∨ ((i : Int) ≤ (L : Int) ∧ ¬ ((i : Int) ≤ 30)) := by
        rw [hE] at hie
        by_cases h : (i : Int) ≤ (L : Int)
        · exact .inr ⟨h, by split at hie <;> omega⟩
        · exact .inl h
      rw [hCO] at HCU HI
      have hinv := HI.out.1.1
      have hcm := HI.out.1.2.2.1
      have hm20 := HI.out.2.2
      unfold potN at hinv
      rw [if_pos rfl, Int.add_zero] at hinv
      obtain ⟨D, hD⟩ : ∃ D, D = cs - bk := ⟨_, rfl⟩
      have hge : (bk : Int) ≤ (cs : Int) := by
        have : 0 ≤ (i : Int) * (numA g : Int) := Int.mul_nonneg (by omega) (by omega)
        omega
      have hDD : (D : Int) = cs - bk := by omega
      have HGE : Hid ((bk : Int) ≤ (cs : Int)) := hge
      have hcs2 : cs < 18446744073709551616 := by omega
      have HS1 : Hid (IntKind.u64.wrap ((cs : Int) - (bk : Int)) = (D : Int)) := by show IntKind.u64.wrap _ = _; rw [IntKind.wrap_u64]; omega
      have c0 := HR.out.fork
      clear hD hge hcs2 hm20 hE hie hCO hi h0 HI HEND
      rcases hjj with j1 | ⟨j1, j2⟩
      · by_cases h9 : 9 ≤ g
        · skip
          have ha : numA g = 100 := by unfold numA; rw [if_pos h9]
          rw [ha] at hinv
          have HS2 : Hid (IntKind.u64.wrap ((i : Int) * 100) = (D : Int)) := by show IntKind.u64.wrap _ = _; rw [IntKind.wrap_u64]; omega
          clear ha hinv hi31 hcm hDD
          go_upto_region 21 with (fail)
          refine wp_region_seq 21 [83, 84, 85, 86, 87, 88, 89, 90, 91, 92, 93, 94, 95, 96, 97, 98, 99, 100, 101, 102, 6] [(83, .is (W O)), (84, .is (W O)), (85, .is (.bool true)), (86, .is (.bool true)), (87, .is (.int .u64 (cs : Nat))), (88, .is (.int .u64 (bk : Nat))), (89, .is (.bool true)), (90, .is (.bool true)), (91, .is (.bool true)), (92, .is (.int .u64 (cs : Nat))), (93, .is (.int .u64 (bk : Nat))), (94, .is (.int .u64 (D : Nat))), (95, .is (.int .u64 (i : Nat))), (96, .is (.int .u64 100)), (97, .is (.int .u64 (D : Nat))), (98, .is (.bool true)), (99, .is (.bool true)), (100, .is (.bool true)), (101, .is (.bool true)), (102, .is (.bool true)), (6, .is (.bool true))] (by kernel_rfl) (by rfl) ?_ ?_
          · refine seeOps_cons ?_ (seeOps_cons ?_ (seeOps_cons ?_ (seeOps_cons ?_ (seeOps_cons ?_ (seeOps_cons ?_ (seeOps_cons ?_ (seeOps_cons ?_ (seeOps_cons ?_ (seeOps_cons ?_ (seeOps_cons ?_ (seeOps_cons ?_ (seeOps_cons ?_ (seeOps_cons ?_ (seeOps_cons ?_ (seeOps_cons ?_ (seeOps_cons ?_ (seeOps_cons ?_ (seeOps_cons ?_ (seeOps_cons ?_ (seeOps_cons ?_ seeOps_nil))))))))))))))))))))
            · intro w9 hb9 fr hout hin
              have h8 : fr.tmps.getD 8 undef = .pointer (some ⟨G, 0, none⟩) := hout 8 (by decide)
              clear hout hin
              exact gs_loadW (n := O) (.tmp 8) rfl h8 (HCU.out.below hb9 HCU.out.lt).cells4 (wanted_none rfl) rfl
            · intro w9 hb9 fr hout hin
              have h4 : fr.tmps.getD 4 undef = .pointer (some ⟨w.heap.size, 0, none⟩) := hout 4 (by decide)
              clear hout hin
              exact gs_loadW (n := O) (.tmp 4) rfl h4 (HO.out.below hb9 HO.out.lt).cells4 (wanted_none rfl) rfl
            · intro w9 hb9 fr hout hin
              have h83 : fr.tmps.getD 83 undef = W O := hin 83 (by decide) (by decide)
              have h84 : fr.tmps.getD 84 undef = W O := hin 84 (by decide) (by decide)
              clear hout hin
              exact gs_eqW (.tmp 83) (.tmp 84) _ rfl h83 h84 (wanted_none rfl) rfl
            · intro w9 hb9 fr hout hin
              have h85 : fr.tmps.getD 85 undef = .bool true := hin 85 (by decide) (by decide)
              clear hout hin
              exact relStep_move (.tmp 85) rfl (wanted_none rfl) (by show fr.tmps.getD 85 undef = _; rw [h85])
            · intro w9 hb9 fr hout hin
              have h9 : fr.tmps.getD 9 undef = .int .u64 (cs : Nat) := hout 9 (by decide)
              have h86 : fr.tmps.getD 86 undef = .bool true := hin 86 (by decide) (by decide)
              clear hout hin
              exact relStep_move (.tmp 9) rfl (wanted_some (g := 3) (t := 86) (b := true) rfl rfl h86) (by show fr.tmps.getD 9 undef = _; rw [h9])
            · intro w9 hb9 fr hout hin
              have h10 : fr.tmps.getD 10 undef = .int .u64 (bk : Nat) := hout 10 (by decide)
              have h86 : fr.tmps.getD 86 undef = .bool true := hin 86 (by decide) (by decide)
              clear hout hin
              exact relStep_move (.tmp 10) rfl (wanted_some (g := 3) (t := 86) (b := true) rfl rfl h86) (by show fr.tmps.getD 10 undef = _; rw [h10])
            · intro w9 hb9 fr hout hin
              have h87 : fr.tmps.getD 87 undef = .int .u64 (cs : Nat) := hin 87 (by decide) (by decide)
              have h88 : fr.tmps.getD 88 undef = .int .u64 (bk : Nat) := hin 88 (by decide) (by decide)
              have h86 : fr.tmps.getD 86 undef = .bool true := hin 86 (by decide) (by decide)
              clear hout hin
              exact gs_bin .geq 22 (.tmp 87) (.tmp 88) _ rfl h87 h88 (fun w => by go_simp) (fun w => by have := HGE.out; go_simp) (wanted_some (g := 3) (t := 86) (b := true) rfl rfl h86) rfl
            · intro w9 hb9 fr hout hin
              have h86 : fr.tmps.getD 86 undef = .bool true := hin 86 (by decide) (by decide)
              have h89 : fr.tmps.getD 89 undef = .bool true := hin 89 (by decide) (by decide)
              clear hout hin
              exact relStep_pick (.tmp 86) (.tmp 89) (.const (.bool false)) rfl h86 (wanted_none rfl) (by show fr.tmps.getD 89 undef = _; rw [h89])
            · intro w9 hb9 fr hout hin
              have h90 : fr.tmps.getD 90 undef = .bool true := hin 90 (by decide) (by decide)
              clear hout hin
              exact relStep_move (.tmp 90) rfl (wanted_none rfl) (by show fr.tmps.getD 90 undef = _; rw [h90])
            · intro w9 hb9 fr hout hin
              have h9 : fr.tmps.getD 9 undef = .int .u64 (cs : Nat) := hout 9 (by decide)
              have h91 : fr.tmps.getD 91 undef = .bool true := hin 91 (by decide) (by decide)
              clear hout hin
              exact relStep_move (.tmp 9) rfl (wanted_some (g := 8) (t := 91) (b := true) rfl rfl h91) (by show fr.tmps.getD 9 undef = _; rw [h9])
            · intro w9 hb9 fr hout hin
              have h10 : fr.tmps.getD 10 undef = .int .u64 (bk : Nat) := hout 10 (by decide)
              have h91 : fr.tmps.getD 91 undef = .bool true := hin 91 (by decide) (by decide)
              clear hout hin
              exact relStep_move (.tmp 10) rfl (wanted_some (g := 8) (t := 91) (b := true) rfl rfl h91) (by show fr.tmps.getD 10 undef = _; rw [h10])
            · intro w9 hb9 fr hout hin
              have h92 : fr.tmps.getD 92 undef = .int .u64 (cs : Nat) := hin 92 (by decide) (by decide)
              have h93 : fr.tmps.getD 93 undef = .int .u64 (bk : Nat) := hin 93 (by decide) (by decide)
              have h91 : fr.tmps.getD 91 undef = .bool true := hin 91 (by decide) (by decide)
              clear hout hin
              exact gs_bin .sub 22 (.tmp 92) (.tmp 93) _ rfl h92 h93 (fun w => by go_simp) (fun w => by have := HS1.out; go_simp) (wanted_some (g := 8) (t := 91) (b := true) rfl rfl h91) rfl
            · intro w9 hb9 fr hout hin
              have h11 : fr.tmps.getD 11 undef = .int .u64 (i : Nat) := hout 11 (by decide)
              have h91 : fr.tmps.getD 91 undef = .bool true := hin 91 (by decide) (by decide)
              clear hout hin
              exact relStep_move (.tmp 11) rfl (wanted_some (g := 8) (t := 91) (b := true) rfl rfl h91) (by show fr.tmps.getD 11 undef = _; rw [h11])
            · intro w9 hb9 fr hout hin
              have h18 : fr.tmps.getD 18 undef = .int .u64 100 := hout 18 (by decide)
              have h91 : fr.tmps.getD 91 undef = .bool true := hin 91 (by decide) (by decide)
              clear hout hin
              exact relStep_move (.tmp 18) rfl (wanted_some (g := 8) (t := 91) (b := true) rfl rfl h91) (by show fr.tmps.getD 18 undef = _; rw [h18])
            · intro w9 hb9 fr hout hin
              have h95 : fr.tmps.getD 95 undef = .int .u64 (i : Nat) := hin 95 (by decide) (by decide)
              have h96 : fr.tmps.getD 96 undef = .int .u64 100 := hin 96 (by decide) (by decide)
              have h91 : fr.tmps.getD 91 undef = .bool true := hin 91 (by decide) (by decide)
              clear hout hin
              exact gs_bin .mul 22 (.tmp 95) (.tmp 96) _ rfl h95 h96 (fun w => by go_simp) (fun w => by have := HS2.out; go_simp) (wanted_some (g := 8) (t := 91) (b := true) rfl rfl h91) rfl
            · intro w9 hb9 fr hout hin
              have h94 : fr.tmps.getD 94 undef = .int .u64 (D : Nat) := hin 94 (by decide) (by decide)
              have h97 : fr.tmps.getD 97 undef = .int .u64 (D : Nat) := hin 97 (by decide) (by decide)
              have h91 : fr.tmps.getD 91 undef = .bool true := hin 91 (by decide) (by decide)
              clear hout hin
              exact op_eqU (.tmp 94) (.tmp 97) _ rfl h94 h97 (wanted_some (g := 8) (t := 91) (b := true) rfl rfl h91) rfl
            · intro w9 hb9 fr hout hin
              have h91 : fr.tmps.getD 91 undef = .bool true := hin 91 (by decide) (by decide)
              have h98 : fr.tmps.getD 98 undef = .bool true := hin 98 (by decide) (by decide)
              clear hout hin
              exact relStep_pick (.tmp 91) (.tmp 98) (.const (.bool false)) rfl h91 (wanted_none rfl) (by show fr.tmps.getD 98 undef = _; rw [h98])
            · intro w9 hb9 fr hout hin
              have h99 : fr.tmps.getD 99 undef = .bool true := hin 99 (by decide) (by decide)
              clear hout hin
              exact relStep_move (.tmp 99) rfl (wanted_none rfl) (by show fr.tmps.getD 99 undef = _; rw [h99])
            · intro w9 hb9 fr hout hin
              have h100 : fr.tmps.getD 100 undef = .bool true := hin 100 (by decide) (by decide)
              clear hout hin
              exact gs_call0 rfl en_gsWakes (wanted_some (g := 17) (t := 100) (b := true) rfl rfl h100) (by exact (gswakes_c w9).mono fun _ _ h => RetV.gs h) (fun _ _ h => h)
            · intro w9 hb9 fr hout hin
              have h100 : fr.tmps.getD 100 undef = .bool true := hin 100 (by decide) (by decide)
              have h101 : fr.tmps.getD 101 undef = .bool true := hin 101 (by decide) (by decide)
              clear hout hin
              exact relStep_pick (.tmp 100) (.tmp 101) (.const (.bool false)) rfl h100 (wanted_none rfl) (by show fr.tmps.getD 101 undef = _; rw [h101])
            · intro w9 hb9 fr hout hin
              have h102 : fr.tmps.getD 102 undef = .bool true := hin 102 (by decide) (by decide)
              clear hout hin
              exact relStep_assign (.tmp 102) rfl (wanted_none rfl) (by show fr.tmps.getD 102 undef = _; rw [h102])
          intro X21 hb9
          refine relAsk_in (by rfl) ?_
          intro v83 h83
          obtain rfl : v83 = W O := h83
          refine relAsk_in (by rfl) ?_
          intro v84 h84
          obtain rfl : v84 = W O := h84
          refine relAsk_in (by rfl) ?_
          intro v85 h85
          obtain rfl : v85 = .bool true := h85
          refine relAsk_in (by rfl) ?_
          intro v86 h86
          obtain rfl : v86 = .bool true := h86
          refine relAsk_in (by rfl) ?_
          intro v87 h87
          obtain rfl : v87 = .int .u64 (cs : Nat) := h87
          refine relAsk_in (by rfl) ?_
          intro v88 h88
          obtain rfl : v88 = .int .u64 (bk : Nat) := h88
          refine relAsk_in (by rfl) ?_
          intro v89 h89
          obtain rfl : v89 = .bool true := h89
          refine relAsk_in (by rfl) ?_
          intro v90 h90
          obtain rfl : v90 = .bool true := h90
          refine relAsk_in (by rfl) ?_
          intro v91 h91
          obtain rfl : v91 = .bool true := h91
          refine relAsk_in (by rfl) ?_
          intro v92 h92
          obtain rfl : v92 = .int .u64 (cs : Nat) := h92
          refine relAsk_in (by rfl) ?_
          intro v93 h93
          obtain rfl : v93 = .int .u64 (bk : Nat) := h93
          refine relAsk_in (by rfl) ?_
          intro v94 h94
          obtain rfl : v94 = .int .u64 (D : Nat) := h94
          refine relAsk_in (by rfl) ?_
          intro v95 h95
          obtain rfl : v95 = .int .u64 (i : Nat) := h95
          refine relAsk_in (by rfl) ?_
          intro v96 h96
          obtain rfl : v96 = .int .u64 100 := h96
          refine relAsk_in (by rfl) ?_
          intro v97 h97
          obtain rfl : v97 = .int .u64 (D : Nat) := h97
          refine relAsk_in (by rfl) ?_
          intro v98 h98
          obtain rfl : v98 = .bool true := h98
          refine relAsk_in (by rfl) ?_
          intro v99 h99
          obtain rfl : v99 = .bool true := h99
          refine relAsk_in (by rfl) ?_
          intro v100 h100
          obtain rfl : v100 = .bool true := h100
          refine relAsk_in (by rfl) ?_
          intro v101 h101
          obtain rfl : v101 = .bool true := h101
          refine relAsk_in (by rfl) ?_
          intro v102 h102
          obtain rfl : v102 = .bool true := h102
          refine relAsk_in (by rfl) ?_
          intro v6 h6
          obtain rfl : v6 = .bool true := h6
          refine relAsk_nil ?_
          refine wpList_nil ?_
          go_simp
          have HB9 := Lib.hid (HB.out.trans (hb9.mono HB.out.size))
          go_wp2_with fail
          go_ret
          exact ⟨rfl, HB9.out⟩

        · skip
          have ha : numA g = 800 := by unfold numA; rw [if_neg h9]
          rw [ha] at hinv
          have HS2 : Hid (IntKind.u64.wrap ((i : Int) * 800) = (D : Int)) := by show IntKind.u64.wrap _ = _; rw [IntKind.wrap_u64]; omega
          clear ha hinv hi31 hcm hDD
          go_upto_region 21 with (fail)
          refine wp_region_seq 21 [83, 84, 85, 86, 87, 88, 89, 90, 91, 92, 93, 94, 95, 96, 97, 98, 99, 100, 101, 102, 6] [(83, .is (W O)), (84, .is (W O)), (85, .is (.bool true)), (86, .is (.bool true)), (87, .is (.int .u64 (cs : Nat))), (88, .is (.int .u64 (bk : Nat))), (89, .is (.bool true)), (90, .is (.bool true)), (91, .is (.bool true)), (92, .is (.int .u64 (cs : Nat))), (93, .is (.int .u64 (bk : Nat))), (94, .is (.int .u64 (D : Nat))), (95, .is (.int .u64 (i : Nat))), (96, .is (.int .u64 800)), (97, .is (.int .u64 (D : Nat))), (98, .is (.bool true)), (99, .is (.bool true)), (100, .is (.bool true)), (101, .is (.bool true)), (102, .is (.bool true)), (6, .is (.bool true))] (by kernel_rfl) (by rfl) ?_ ?_
          · refine seeOps_cons ?_ (seeOps_cons ?_ (seeOps_cons ?_ (seeOps_cons ?_ (seeOps_cons ?_ (seeOps_cons ?_ (seeOps_cons ?_ (seeOps_cons ?_ (seeOps_cons ?_ (seeOps_cons ?_ (seeOps_cons ?_ (seeOps_cons ?_ (seeOps_cons ?_ (seeOps_cons ?_ (seeOps_cons ?_ (seeOps_cons ?_ (seeOps_cons ?_ (seeOps_cons ?_ (seeOps_cons ?_ (seeOps_cons ?_ (seeOps_cons ?_ seeOps_nil))))))))))))))))))))
            · intro w9 hb9 fr hout hin
              have h8 : fr.tmps.getD 8 undef = .pointer (some ⟨G, 0, none⟩) := hout 8 (by decide)
              clear hout hin
              exact gs_loadW (n := O) (.tmp 8) rfl h8 (HCU.out.below hb9 HCU.out.lt).cells4 (wanted_none rfl) rfl
            · intro w9 hb9 fr hout hin
              have h4 : fr.tmps.getD 4 undef = .pointer (some ⟨w.heap.size, 0, none⟩) := hout 4 (by decide)
              clear hout hin
              exact gs_loadW (n := O) (.tmp 4) rfl h4 (HO.out.below hb9 HO.out.lt).cells4 (wanted_none rfl) rfl
            · intro w9 hb9 fr hout hin
              have h83 : fr.tmps.getD 83 undef = W O := hin 83 (by decide) (by decide)
              have h84 : fr.tmps.getD 84 undef = W O := hin 84 (by decide) (by decide)
              clear hout hin
              exact gs_eqW (.tmp 83) (.tmp 84) _ rfl h83 h84 (wanted_none rfl) rfl
            · intro w9 hb9 fr hout hin
              have h85 : fr.tmps.getD 85 undef = .bool true := hin 85 (by decide) (by decide)
              clear hout hin
              exact relStep_move (.tmp 85) rfl (wanted_none rfl) (by show fr.tmps.getD 85 undef = _; rw [h85])
            · intro w9 hb9 fr hout hin
              have h9 : fr.tmps.getD 9 undef = .int .u64 (cs : Nat) := hout 9 (by decide)
              have h86 : fr.tmps.getD 86 undef = .bool true := hin 86 (by decide) (by decide)
              clear hout hin
              exact relStep_move (.tmp 9) rfl (wanted_some (g := 3) (t := 86) (b := true) rfl rfl h86) (by show fr.tmps.getD 9 undef = _; rw [h9])
            · intro w9 hb9 fr hout hin
              have h10 : fr.tmps.getD 10 undef = .int .u64 (bk : Nat) := hout 10 (by decide)
              have h86 : fr.tmps.getD 86 undef = .bool true := hin 86 (by decide) (by decide)
              clear hout hin
              exact relStep_move (.tmp 10) rfl (wanted_some (g := 3) (t := 86) (b := true) rfl rfl h86) (by show fr.tmps.getD 10 undef = _; rw [h10])
            · intro w9 hb9 fr hout hin
              have h87 : fr.tmps.getD 87 undef = .int .u64 (cs : Nat) := hin 87 (by decide) (by decide)
              have h88 : fr.tmps.getD 88 undef = .int .u64 (bk : Nat) := hin 88 (by decide) (by decide)
              have h86 : fr.tmps.getD 86 undef = .bool true := hin 86 (by decide) (by decide)
              clear hout hin
              exact gs_bin .geq 22 (.tmp 87) (.tmp 88) _ rfl h87 h88 (fun w => by go_simp) (fun w => by have := HGE.out; go_simp) (wanted_some (g := 3) (t := 86) (b := true) rfl rfl h86) rfl
            · intro w9 hb9 fr hout hin
              have h86 : fr.tmps.getD 86 undef = .bool true := hin 86 (by decide) (by decide)
              have h89 : fr.tmps.getD 89 undef = .bool true := hin 89 (by decide) (by decide)
              clear hout hin
              exact relStep_pick (.tmp 86) (.tmp 89) (.const (.bool false)) rfl h86 (wanted_none rfl) (by show fr.tmps.getD 89 undef = _; rw [h89])
            · intro w9 hb9 fr hout hin
              have h90 : fr.tmps.getD 90 undef = .bool true := hin 90 (by decide) (by decide)
              clear hout hin
              exact relStep_move (.tmp 90) rfl (wanted_none rfl) (by show fr.tmps.getD 90 undef = _; rw [h90])
            · intro w9 hb9 fr hout hin
              have h9 : fr.tmps.getD 9 undef = .int .u64 (cs : Nat) := hout 9 (by decide)
              have h91 : fr.tmps.getD 91 undef = .bool true := hin 91 (by decide) (by decide)
              clear hout hin
              exact relStep_move (.tmp 9) rfl (wanted_some (g := 8) (t := 91) (b := true) rfl rfl h91) (by show fr.tmps.getD 9 undef = _; rw [h9])
            · intro w9 hb9 fr hout hin
              have h10 : fr.tmps.getD 10 undef = .int .u64 (bk : Nat) := hout 10 (by decide)
              have h91 : fr.tmps.getD 91 undef = .bool true := hin 91 (by decide) (by decide)
              clear hout hin
              exact relStep_move (.tmp 10) rfl (wanted_some (g := 8) (t := 91) (b := true) rfl rfl h91) (by show fr.tmps.getD 10 undef = _; rw [h10])
            · intro w9 hb9 fr hout hin
              have h92 : fr.tmps.getD 92 undef = .int .u64 (cs : Nat) := hin 92 (by decide) (by decide)
              have h93 : fr.tmps.getD 93 undef = .int .u64 (bk : Nat) := hin 93 (by decide) (by decide)
              have h91 : fr.tmps.getD 91 undef = .bool true := hin 91 (by decide) (by decide)
              clear hout hin
              exact gs_bin .sub 22 (.tmp 92) (.tmp 93) _ rfl h92 h93 (fun w => by go_simp) (fun w => by have := HS1.out; go_simp) (wanted_some (g := 8) (t := 91) (b := true) rfl rfl h91) rfl
            · intro w9 hb9 fr hout hin
              have h11 : fr.tmps.getD 11 undef = .int .u64 (i : Nat) := hout 11 (by decide)
              have h91 : fr.tmps.getD 91 undef = .bool true := hin 91 (by decide) (by decide)
              clear hout hin
              exact relStep_move (.tmp 11) rfl (wanted_some (g := 8) (t := 91) (b := true) rfl rfl h91) (by show fr.tmps.getD 11 undef = _; rw [h11])
            · intro w9 hb9 fr hout hin
              have h18 : fr.tmps.getD 18 undef = .int .u64 800 := hout 18 (by decide)
              have h91 : fr.tmps.getD 91 undef = .bool true := hin 91 (by decide) (by decide)
              clear hout hin
              exact relStep_move (.tmp 18) rfl (wanted_some (g := 8) (t := 91) (b := true) rfl rfl h91) (by show fr.tmps.getD 18 undef = _; rw [h18])
            · intro w9 hb9 fr hout hin
              have h95 : fr.tmps.getD 95 undef = .int .u64 (i : Nat) := hin 95 (by decide) (by decide)
              have h96 : fr.tmps.getD 96 undef = .int .u64 800 := hin 96 (by decide) (by decide)
              have h91 : fr.tmps.getD 91 undef = .bool true := hin 91 (by decide) (by decide)
              clear hout hin
              exact gs_bin .mul 22 (.tmp 95) (.tmp 96) _ rfl h95 h96 (fun w => by go_simp) (fun w => by have := HS2.out; go_simp) (wanted_some (g := 8) (t := 91) (b := true) rfl rfl h91) rfl
            · intro w9 hb9 fr hout hin
              have h94 : fr.tmps.getD 94 undef = .int .u64 (D : Nat) := hin 94 (by decide) (by decide)
              have h97 : fr.tmps.getD 97 undef = .int .u64 (D : Nat) := hin 97 (by decide) (by decide)
              have h91 : fr.tmps.getD 91 undef = .bool true := hin 91 (by decide) (by decide)
              clear hout hin
              exact op_eqU (.tmp 94) (.tmp 97) _ rfl h94 h97 (wanted_some (g := 8) (t := 91) (b := true) rfl rfl h91) rfl
            · intro w9 hb9 fr hout hin
              have h91 : fr.tmps.getD 91 undef = .bool true := hin 91 (by decide) (by decide)
              have h98 : fr.tmps.getD 98 undef = .bool true := hin 98 (by decide) (by decide)
              clear hout hin
              exact relStep_pick (.tmp 91) (.tmp 98) (.const (.bool false)) rfl h91 (wanted_none rfl) (by show fr.tmps.getD 98 undef = _; rw [h98])
            · intro w9 hb9 fr hout hin
              have h99 : fr.tmps.getD 99 undef = .bool true := hin 99 (by decide) (by decide)
              clear hout hin
              exact relStep_move (.tmp 99) rfl (wanted_none rfl) (by show fr.tmps.getD 99 undef = _; rw [h99])
            · intro w9 hb9 fr hout hin
              have h100 : fr.tmps.getD 100 undef = .bool true := hin 100 (by decide) (by decide)
              clear hout hin
              exact gs_call0 rfl en_gsWakes (wanted_some (g := 17) (t := 100) (b := true) rfl rfl h100) (by exact (gswakes_c w9).mono fun _ _ h => RetV.gs h) (fun _ _ h => h)
            · intro w9 hb9 fr hout hin
              have h100 : fr.tmps.getD 100 undef = .bool true := hin 100 (by decide) (by decide)
              have h101 : fr.tmps.getD 101 undef = .bool true := hin 101 (by decide) (by decide)
              clear hout hin
              exact relStep_pick (.tmp 100) (.tmp 101) (.const (.bool false)) rfl h100 (wanted_none rfl) (by show fr.tmps.getD 101 undef = _; rw [h101])
            · intro w9 hb9 fr hout hin
              have h102 : fr.tmps.getD 102 undef = .bool true := hin 102 (by decide) (by decide)
              clear hout hin
              exact relStep_assign (.tmp 102) rfl (wanted_none rfl) (by show fr.tmps.getD 102 undef = _; rw [h102])
          intro X21 hb9
          refine relAsk_in (by rfl) ?_
          intro v83 h83
          obtain rfl : v83 = W O := h83
          refine relAsk_in (by rfl) ?_
          intro v84 h84
          obtain rfl : v84 = W O := h84
          refine relAsk_in (by rfl) ?_
          intro v85 h85
          obtain rfl : v85 = .bool true := h85
          refine relAsk_in (by rfl) ?_
          intro v86 h86
          obtain rfl : v86 = .bool true := h86
          refine relAsk_in (by rfl) ?_
          intro v87 h87
          obtain rfl : v87 = .int .u64 (cs : Nat) := h87
          refine relAsk_in (by rfl) ?_
          intro v88 h88
          obtain rfl : v88 = .int .u64 (bk : Nat) := h88
          refine relAsk_in (by rfl) ?_
          intro v89 h89
          obtain rfl : v89 = .bool true := h89
          refine relAsk_in (by rfl) ?_
          intro v90 h90
          obtain rfl : v90 = .bool true := h90
          refine relAsk_in (by rfl) ?_
          intro v91 h91
          obtain rfl : v91 = .bool true := h91
          refine relAsk_in (by rfl) ?_
          intro v92 h92
          obtain rfl : v92 = .int .u64 (cs : Nat) := h92
          refine relAsk_in (by rfl) ?_
          intro v93 h93
          obtain rfl : v93 = .int .u64 (bk : Nat) := h93
          refine relAsk_in (by rfl) ?_
          intro v94 h94
          obtain rfl : v94 = .int .u64 (D : Nat) := h94
          refine relAsk_in (by rfl) ?_
          intro v95 h95
          obtain rfl : v95 = .int .u64 (i : Nat) := h95
          refine relAsk_in (by rfl) ?_
          intro v96 h96
          obtain rfl : v96 = .int .u64 800 := h96
          refine relAsk_in (by rfl) ?_
          intro v97 h97
          obtain rfl : v97 = .int .u64 (D : Nat) := h97
          refine relAsk_in (by rfl) ?_
          intro v98 h98
          obtain rfl : v98 = .bool true := h98
          refine relAsk_in (by rfl) ?_
          intro v99 h99
          obtain rfl : v99 = .bool true := h99
          refine relAsk_in (by rfl) ?_
          intro v100 h100
          obtain rfl : v100 = .bool true := h100
          refine relAsk_in (by rfl) ?_
          intro v101 h101
          obtain rfl : v101 = .bool true := h101
          refine relAsk_in (by rfl) ?_
          intro v102 h102
          obtain rfl : v102 = .bool true := h102
          refine relAsk_in (by rfl) ?_
          intro v6 h6
          obtain rfl : v6 = .bool true := h6
          refine relAsk_nil ?_
          refine wpList_nil ?_
          go_simp
          have HB9 := Lib.hid (HB.out.trans (hb9.mono HB.out.size))
          go_wp2_with fail
          go_ret
          exact ⟨rfl, HB9.out⟩

      · by_cases h9 : 9 ≤ g
        · skip
          have ha : numA g = 100 := by unfold numA; rw [if_pos h9]
          rw [ha] at hinv
          have HS2 : Hid (IntKind.u64.wrap ((i : Int) * 100) = (D : Int)) := by show IntKind.u64.wrap _ = _; rw [IntKind.wrap_u64]; omega
          clear ha hinv hi31 hcm hDD
          go_upto_region 21 with (fail)
          refine wp_region_seq 21 [83, 84, 85, 86, 87, 88, 89, 90, 91, 92, 93, 94, 95, 96, 97, 98, 99, 100, 101, 102, 6] [(83, .is (W O)), (84, .is (W O)), (85, .is (.bool true)), (86, .is (.bool true)), (87, .is (.int .u64 (cs : Nat))), (88, .is (.int .u64 (bk : Nat))), (89, .is (.bool true)), (90, .is (.bool true)), (91, .is (.bool true)), (92, .is (.int .u64 (cs : Nat))), (93, .is (.int .u64 (bk : Nat))), (94, .is (.int .u64 (D : Nat))), (95, .is (.int .u64 (i : Nat))), (96, .is (.int .u64 100)), (97, .is (.int .u64 (D : Nat))), (98, .is (.bool true)), (99, .is (.bool true)), (100, .is (.bool true)), (101, .is (.bool true)), (102, .is (.bool true)), (6, .is (.bool true))] (by kernel_rfl) (by rfl) ?_ ?_
          · refine seeOps_cons ?_ (seeOps_cons ?_ (seeOps_cons ?_ (seeOps_cons ?_ (seeOps_cons ?_ (seeOps_cons ?_ (seeOps_cons ?_ (seeOps_cons ?_ (seeOps_cons ?_ (seeOps_cons ?_ (seeOps_cons ?_ (seeOps_cons ?_ (seeOps_cons ?_ (seeOps_cons ?_ (seeOps_cons ?_ (seeOps_cons ?_ (seeOps_cons ?_ (seeOps_cons ?_ (seeOps_cons ?_ (seeOps_cons ?_ (seeOps_cons ?_ seeOps_nil))))))))))))))))))))
            · intro w9 hb9 fr hout hin
              have h8 : fr.tmps.getD 8 undef = .pointer (some ⟨G, 0, none⟩) := hout 8 (by decide)
              clear hout hin
              exact gs_loadW (n := O) (.tmp 8) rfl h8 (HCU.out.below hb9 HCU.out.lt).cells4 (wanted_none rfl) rfl
            · intro w9 hb9 fr hout hin
              have h4 : fr.tmps.getD 4 undef = .pointer (some ⟨w.heap.size, 0, none⟩) := hout 4 (by decide)
              clear hout hin
              exact gs_loadW (n := O) (.tmp 4) rfl h4 (HO.out.below hb9 HO.out.lt).cells4 (wanted_none rfl) rfl
            · intro w9 hb9 fr hout hin
              have h83 : fr.tmps.getD 83 undef = W O := hin 83 (by decide) (by decide)
              have h84 : fr.tmps.getD 84 undef = W O := hin 84 (by decide) (by decide)
              clear hout hin
              exact gs_eqW (.tmp 83) (.tmp 84) _ rfl h83 h84 (wanted_none rfl) rfl
            · intro w9 hb9 fr hout hin
              have h85 : fr.tmps.getD 85 undef = .bool true := hin 85 (by decide) (by decide)
              clear hout hin
              exact relStep_move (.tmp 85) rfl (wanted_none rfl) (by show fr.tmps.getD 85 undef = _; rw [h85])
            · intro w9 hb9 fr hout hin
              have h9 : fr.tmps.getD 9 undef = .int .u64 (cs : Nat) := hout 9 (by decide)
              have h86 : fr.tmps.getD 86 undef = .bool true := hin 86 (by decide) (by decide)
              clear hout hin
              exact relStep_move (.tmp 9) rfl (wanted_some (g := 3) (t := 86) (b := true) rfl rfl h86) (by show fr.tmps.getD 9 undef = _; rw [h9])
            · intro w9 hb9 fr hout hin
              have h10 : fr.tmps.getD 10 undef = .int .u64 (bk : Nat) := hout 10 (by decide)
              have h86 : fr.tmps.getD 86 undef = .bool true := hin 86 (by decide) (by decide)
              clear hout hin
              exact relStep_move (.tmp 10) rfl (wanted_some (g := 3) (t := 86) (b := true) rfl rfl h86) (by show fr.tmps.getD 10 undef = _; rw [h10])
            · intro w9 hb9 fr hout hin
              have h87 : fr.tmps.getD 87 undef = .int .u64 (cs : Nat) := hin 87 (by decide) (by decide)
              have h88 : fr.tmps.getD 88 undef = .int .u64 (bk : Nat) := hin 88 (by decide) (by decide)
              have h86 : fr.tmps.getD 86 undef = .bool true := hin 86 (by decide) (by decide)
              clear hout hin
              exact gs_bin .geq 22 (.tmp 87) (.tmp 88) _ rfl h87 h88 (fun w => by go_simp) (fun w => by have := HGE.out; go_simp) (wanted_some (g := 3) (t := 86) (b := true) rfl rfl h86) rfl
            · intro w9 hb9 fr hout hin
              have h86 : fr.tmps.getD 86 undef = .bool true := hin 86 (by decide) (by decide)
              have h89 : fr.tmps.getD 89 undef = .bool true := hin 89 (by decide) (by decide)
              clear hout hin
              exact relStep_pick (.tmp 86) (.tmp 89) (.const (.bool false)) rfl h86 (wanted_none rfl) (by show fr.tmps.getD 89 undef = _; rw [h89])
            · intro w9 hb9 fr hout hin
              have h90 : fr.tmps.getD 90 undef = .bool true := hin 90 (by decide) (by decide)
              clear hout hin
              exact relStep_move (.tmp 90) rfl (wanted_none rfl) (by show fr.tmps.getD 90 undef = _; rw [h90])
            · intro w9 hb9 fr hout hin
              have h9 : fr.tmps.getD 9 undef = .int .u64 (cs : Nat) := hout 9 (by decide)
              have h91 : fr.tmps.getD 91 undef = .bool true := hin 91 (by decide) (by decide)
              clear hout hin
              exact relStep_move (.tmp 9) rfl (wanted_some (g := 8) (t := 91) (b := true) rfl rfl h91) (by show fr.tmps.getD 9 undef = _; rw [h9])
            · intro w9 hb9 fr hout hin
              have h10 : fr.tmps.getD 10 undef = .int .u64 (bk : Nat) := hout 10 (by decide)
              have h91 : fr.tmps.getD 91 undef = .bool true := hin 91 (by decide) (by decide)
              clear hout hin
              exact relStep_move (.tmp 10) rfl (wanted_some (g := 8) (t := 91) (b := true) rfl rfl h91) (by show fr.tmps.getD 10 undef = _; rw [h10])
            · intro w9 hb9 fr hout hin
              have h92 : fr.tmps.getD 92 undef = .int .u64 (cs : Nat) := hin 92 (by decide) (by decide)
              have h93 : fr.tmps.getD 93 undef = .int .u64 (bk : Nat) := hin 93 (by decide) (by decide)
              have h91 : fr.tmps.getD 91 undef = .bool true := hin 91 (by decide) (by decide)
              clear hout hin
              exact gs_bin .sub 22 (.tmp 92) (.tmp 93) _ rfl h92 h93 (fun w => by go_simp) (fun w => by have := HS1.out; go_simp) (wanted_some (g := 8) (t := 91) (b := true) rfl rfl h91) rfl
            · intro w9 hb9 fr hout hin
              have h11 : fr.tmps.getD 11 undef = .int .u64 (i : Nat) := hout 11 (by decide)
              have h91 : fr.tmps.getD 91 undef = .bool true := hin 91 (by decide) (by decide)
              clear hout hin
              exact relStep_move (.tmp 11) rfl (wanted_some (g := 8) (t := 91) (b := true) rfl rfl h91) (by show fr.tmps.getD 11 undef = _; rw [h11])
            · intro w9 hb9 fr hout hin
              have h18 : fr.tmps.getD 18 undef = .int .u64 100 := hout 18 (by decide)
              have h91 : fr.tmps.getD 91 undef = .bool true := hin 91 (by decide) (by decide)
              clear hout hin
              exact relStep_move (.tmp 18) rfl (wanted_some (g := 8) (t := 91) (b := true) rfl rfl h91) (by show fr.tmps.getD 18 undef = _; rw [h18])
            · intro w9 hb9 fr hout hin
              have h95 : fr.tmps.getD 95 undef = .int .u64 (i : Nat) := hin 95 (by decide) (by decide)
              have h96 : fr.tmps.getD 96 undef = .int .u64 100 := hin 96 (by decide) (by decide)
              have h91 : fr.tmps.getD 91 undef = .bool true := hin 91 (by decide) (by decide)
              clear hout hin
              exact gs_bin .mul 22 (.tmp 95) (.tmp 96) _ rfl h95 h96 (fun w => by go_simp) (fun w => by have := HS2.out; go_simp) (wanted_some (g := 8) (t := 91) (b := true) rfl rfl h91) rfl
            · intro w9 hb9 fr hout hin
              have h94 : fr.tmps.getD 94 undef = .int .u64 (D : Nat) := hin 94 (by decide) (by decide)
              have h97 : fr.tmps.getD 97 undef = .int .u64 (D : Nat) := hin 97 (by decide) (by decide)
              have h91 : fr.tmps.getD 91 undef = .bool true := hin 91 (by decide) (by decide)
              clear hout hin
              exact op_eqU (.tmp 94) (.tmp 97) _ rfl h94 h97 (wanted_some (g := 8) (t := 91) (b := true) rfl rfl h91) rfl
            · intro w9 hb9 fr hout hin
              have h91 : fr.tmps.getD 91 undef = .bool true := hin 91 (by decide) (by decide)
              have h98 : fr.tmps.getD 98 undef = .bool true := hin 98 (by decide) (by decide)
              clear hout hin
              exact relStep_pick (.tmp 91) (.tmp 98) (.const (.bool false)) rfl h91 (wanted_none rfl) (by show fr.tmps.getD 98 undef = _; rw [h98])
            · intro w9 hb9 fr hout hin
              have h99 : fr.tmps.getD 99 undef = .bool true := hin 99 (by decide) (by decide)
              clear hout hin
              exact relStep_move (.tmp 99) rfl (wanted_none rfl) (by show fr.tmps.getD 99 undef = _; rw [h99])
            · intro w9 hb9 fr hout hin
              have h100 : fr.tmps.getD 100 undef = .bool true := hin 100 (by decide) (by decide)
              clear hout hin
              exact gs_call0 rfl en_gsWakes (wanted_some (g := 17) (t := 100) (b := true) rfl rfl h100) (by exact (gswakes_c w9).mono fun _ _ h => RetV.gs h) (fun _ _ h => h)
            · intro w9 hb9 fr hout hin
              have h100 : fr.tmps.getD 100 undef = .bool true := hin 100 (by decide) (by decide)
              have h101 : fr.tmps.getD 101 undef = .bool true := hin 101 (by decide) (by decide)
              clear hout hin
              exact relStep_pick (.tmp 100) (.tmp 101) (.const (.bool false)) rfl h100 (wanted_none rfl) (by show fr.tmps.getD 101 undef = _; rw [h101])
            · intro w9 hb9 fr hout hin
              have h102 : fr.tmps.getD 102 undef = .bool true := hin 102 (by decide) (by decide)
              clear hout hin
              exact relStep_assign (.tmp 102) rfl (wanted_none rfl) (by show fr.tmps.getD 102 undef = _; rw [h102])
          intro X21 hb9
          refine relAsk_in (by rfl) ?_
          intro v83 h83
          obtain rfl : v83 = W O := h83
          refine relAsk_in (by rfl) ?_
          intro v84 h84
          obtain rfl : v84 = W O := h84
          refine relAsk_in (by rfl) ?_
          intro v85 h85
          obtain rfl : v85 = .bool true := h85
          refine relAsk_in (by rfl) ?_
          intro v86 h86
          obtain rfl : v86 = .bool true := h86
          refine relAsk_in (by rfl) ?_
          intro v87 h87
          obtain rfl : v87 = .int .u64 (cs : Nat) := h87
          refine relAsk_in (by rfl) ?_
          intro v88 h88
          obtain rfl : v88 = .int .u64 (bk : Nat) := h88
          refine relAsk_in (by rfl) ?_
          intro v89 h89
          obtain rfl : v89 = .bool true := h89
          refine relAsk_in (by rfl) ?_
          intro v90 h90
          obtain rfl : v90 = .bool true := h90
          refine relAsk_in (by rfl) ?_
          intro v91 h91
          obtain rfl : v91 = .bool true := h91
          refine relAsk_in (by rfl) ?_
          intro v92 h92
          obtain rfl : v92 = .int .u64 (cs : Nat) := h92
          refine relAsk_in (by rfl) ?_
          intro v93 h93
          obtain rfl : v93 = .int .u64 (bk : Nat) := h93
          refine relAsk_in (by rfl) ?_
          intro v94 h94
          obtain rfl : v94 = .int .u64 (D : Nat) := h94
          refine relAsk_in (by rfl) ?_
          intro v95 h95
          obtain rfl : v95 = .int .u64 (i : Nat) := h95
          refine relAsk_in (by rfl) ?_
          intro v96 h96
          obtain rfl : v96 = .int .u64 100 := h96
          refine relAsk_in (by rfl) ?_
          intro v97 h97
          obtain rfl : v97 = .int .u64 (D : Nat) := h97
          refine relAsk_in (by rfl) ?_
          intro v98 h98
          obtain rfl : v98 = .bool true := h98
          refine relAsk_in (by rfl) ?_
          intro v99 h99
          obtain rfl : v99 = .bool true := h99
          refine relAsk_in (by rfl) ?_
          intro v100 h100
          obtain rfl : v100 = .bool true := h100
          refine relAsk_in (by rfl) ?_
          intro v101 h101
          obtain rfl : v101 = .bool true := h101
          refine relAsk_in (by rfl) ?_
          intro v102 h102
          obtain rfl : v102 = .bool true := h102
          refine relAsk_in (by rfl) ?_
          intro v6 h6
          obtain rfl : v6 = .bool true := h6
          refine relAsk_nil ?_
          refine wpList_nil ?_
          go_simp
          have HB9 := Lib.hid (HB.out.trans (hb9.mono HB.out.size))
          go_wp2_with fail
          go_ret
          exact ⟨rfl, HB9.out⟩

        · skip
          have ha : numA g = 800 := by unfold numA; rw [if_neg h9]
          rw [ha] at hinv
          have HS2 : Hid (IntKind.u64.wrap ((i : Int) * 800) = (D : Int)) := by show IntKind.u64.wrap _ = _; rw [IntKind.wrap_u64]; omega
          clear ha hinv hi31 hcm hDD
          go_upto_region 21 with (fail)
          refine wp_region_seq 21 [83, 84, 85, 86, 87, 88, 89, 90, 91, 92, 93, 94, 95, 96, 97, 98, 99, 100, 101, 102, 6] [(83, .is (W O)), (84, .is (W O)), (85, .is (.bool true)), (86, .is (.bool true)), (87, .is (.int .u64 (cs : Nat))), (88, .is (.int .u64 (bk : Nat))), (89, .is (.bool true)), (90, .is (.bool true)), (91, .is (.bool true)), (92, .is (.int .u64 (cs : Nat))), (93, .is (.int .u64 (bk : Nat))), (94, .is (.int .u64 (D : Nat))), (95, .is (.int .u64 (i : Nat))), (96, .is (.int .u64 800)), (97, .is (.int .u64 (D : Nat))), (98, .is (.bool true)), (99, .is (.bool true)), (100, .is (.bool true)), (101, .is (.bool true)), (102, .is (.bool true)), (6, .is (.bool true))] (by kernel_rfl) (by rfl) ?_ ?_
          · refine seeOps_cons ?_ (seeOps_cons ?_ (seeOps_cons ?_ (seeOps_cons ?_ (seeOps_cons ?_ (seeOps_cons ?_ (seeOps_cons ?_ (seeOps_cons ?_ (seeOps_cons ?_ (seeOps_cons ?_ (seeOps_cons ?_ (seeOps_cons ?_ (seeOps_cons ?_ (seeOps_cons ?_ (seeOps_cons ?_ (seeOps_cons ?_ (seeOps_cons ?_ (seeOps_cons ?_ (seeOps_cons ?_ (seeOps_cons ?_ (seeOps_cons ?_ seeOps_nil))))))))))))))))))))
            · intro w9 hb9 fr hout hin
              have h8 : fr.tmps.getD 8 undef = .pointer (some ⟨G, 0, none⟩) := hout 8 (by decide)
              clear hout hin
              exact gs_loadW (n := O) (.tmp 8) rfl h8 (HCU.out.below hb9 HCU.out.lt).cells4 (wanted_none rfl) rfl
            · intro w9 hb9 fr hout hin
              have h4 : fr.tmps.getD 4 undef = .pointer (some ⟨w.heap.size, 0, none⟩) := hout 4 (by decide)
              clear hout hin
              exact gs_loadW (n := O) (.tmp 4) rfl h4 (HO.out.below hb9 HO.out.lt).cells4 (wanted_none rfl) rfl
            · intro w9 hb9 fr hout hin
              have h83 : fr.tmps.getD 83 undef = W O := hin 83 (by decide) (by decide)
              have h84 : fr.tmps.getD 84 undef = W O := hin 84 (by decide) (by decide)
              clear hout hin
              exact gs_eqW (.tmp 83) (.tmp 84) _ rfl h83 h84 (wanted_none rfl) rfl
            · intro w9 hb9 fr hout hin
              have h85 : fr.tmps.getD 85 undef = .bool true := hin 85 (by decide) (by decide)
              clear hout hin
              exact relStep_move (.tmp 85) rfl (wanted_none rfl) (by show fr.tmps.getD 85 undef = _; rw [h85])
            · intro w9 hb9 fr hout hin
              have h9 : fr.tmps.getD 9 undef = .int .u64 (cs : Nat) := hout 9 (by decide)
              have h86 : fr.tmps.getD 86 undef = .bool true := hin 86 (by decide) (by decide)
              clear hout hin
              exact relStep_move (.tmp 9) rfl (wanted_some (g := 3) (t := 86) (b := true) rfl rfl h86) (by show fr.tmps.getD 9 undef = _; rw [h9])
            · intro w9 hb9 fr hout hin
              have h10 : fr.tmps.getD 10 undef = .int .u64 (bk : Nat) := hout 10 (by decide)
              have h86 : fr.tmps.getD 86 undef = .bool true := hin 86 (by decide) (by decide)
              clear hout hin
              exact relStep_move (.tmp 10) rfl (wanted_some (g := 3) (t := 86) (b := true) rfl rfl h86) (by show fr.tmps.getD 10 undef = _; rw [h10])
            · intro w9 hb9 fr hout hin
              have h87 : fr.tmps.getD 87 undef = .int .u64 (cs : Nat) := hin 87 (by decide) (by decide)
              have h88 : fr.tmps.getD 88 undef = .int .u64 (bk : Nat) := hin 88 (by decide) (by decide)
              have h86 : fr.tmps.getD 86 undef = .bool true := hin 86 (by decide) (by decide)
              clear hout hin
              exact gs_bin .geq 22 (.tmp 87) (.tmp 88) _ rfl h87 h88 (fun w => by go_simp) (fun w => by have := HGE.out; go_simp) (wanted_some (g := 3) (t := 86) (b := true) rfl rfl h86) rfl
            · intro w9 hb9 fr hout hin
              have h86 : fr.tmps.getD 86 undef = .bool true := hin 86 (by decide) (by decide)
              have h89 : fr.tmps.getD 89 undef = .bool true := hin 89 (by decide) (by decide)
              clear hout hin
              exact relStep_pick (.tmp 86) (.tmp 89) (.const (.bool false)) rfl h86 (wanted_none rfl) (by show fr.tmps.getD 89 undef = _; rw [h89])
            · intro w9 hb9 fr hout hin
              have h90 : fr.tmps.getD 90 undef = .bool true := hin 90 (by decide) (by decide)
              clear hout hin
              exact relStep_move (.tmp 90) rfl (wanted_none rfl) (by show fr.tmps.getD 90 undef = _; rw [h90])
            · intro w9 hb9 fr hout hin
              have h9 : fr.tmps.getD 9 undef = .int .u64 (cs : Nat) := hout 9 (by decide)
              have h91 : fr.tmps.getD 91 undef = .bool true := hin 91 (by decide) (by decide)
              clear hout hin
              exact relStep_move (.tmp 9) rfl (wanted_some (g := 8) (t := 91) (b := true) rfl rfl h91) (by show fr.tmps.getD 9 undef = _; rw [h9])
            · intro w9 hb9 fr hout hin
              have h10 : fr.tmps.getD 10 undef = .int .u64 (bk : Nat) := hout 10 (by decide)
              have h91 : fr.tmps.getD 91 undef = .bool true := hin 91 (by decide) (by decide)
              clear hout hin
              exact relStep_move (.tmp 10) rfl (wanted_some (g := 8) (t := 91) (b := true) rfl rfl h91) (by show fr.tmps.getD 10 undef = _; rw [h10])
            · intro w9 hb9 fr hout hin
              have h92 : fr.tmps.getD 92 undef = .int .u64 (cs : Nat) := hin 92 (by decide) (by decide)
              have h93 : fr.tmps.getD 93 undef = .int .u64 (bk : Nat) := hin 93 (by decide) (by decide)
              have h91 : fr.tmps.getD 91 undef = .bool true := hin 91 (by decide) (by decide)
              clear hout hin
              exact gs_bin .sub 22 (.tmp 92) (.tmp 93) _ rfl h92 h93 (fun w => by go_simp) (fun w => by have := HS1.out; go_simp) (wanted_some (g := 8) (t := 91) (b := true) rfl rfl h91) rfl
            · intro w9 hb9 fr hout hin
              have h11 : fr.tmps.getD 11 undef = .int .u64 (i : Nat) := hout 11 (by decide)
              have h91 : fr.tmps.getD 91 undef = .bool true := hin 91 (by decide) (by decide)
              clear hout hin
              exact relStep_move (.tmp 11) rfl (wanted_some (g := 8) (t := 91) (b := true) rfl rfl h91) (by show fr.tmps.getD 11 undef = _; rw [h11])
            · intro w9 hb9 fr hout hin
              have h18 : fr.tmps.getD 18 undef = .int .u64 800 := hout 18 (by decide)
              have h91 : fr.tmps.getD 91 undef = .bool true := hin 91 (by decide) (by decide)
              clear hout hin
              exact relStep_move (.tmp 18) rfl (wanted_some (g := 8) (t := 91) (b := true) rfl rfl h91) (by show fr.tmps.getD 18 undef = _; rw [h18])
            · intro w9 hb9 fr hout hin
              have h95 : fr.tmps.getD 95 undef = .int .u64 (i : Nat) := hin 95 (by decide) (by decide)
              have h96 : fr.tmps.getD 96 undef = .int .u64 800 := hin 96 (by decide) (by decide)
              have h91 : fr.tmps.getD 91 undef = .bool true := hin 91 (by decide) (by decide)
              clear hout hin
              exact gs_bin .mul 22 (.tmp 95) (.tmp 96) _ rfl h95 h96 (fun w => by go_simp) (fun w => by have := HS2.out; go_simp) (wanted_some (g := 8) (t := 91) (b := true) rfl rfl h91) rfl
            · intro w9 hb9 fr hout hin
              have h94 : fr.tmps.getD 94 undef = .int .u64 (D : Nat) := hin 94 (by decide) (by decide)
              have h97 : fr.tmps.getD 97 undef = .int .u64 (D : Nat) := hin 97 (by decide) (by decide)
              have h91 : fr.tmps.getD 91 undef = .bool true := hin 91 (by decide) (by decide)
              clear hout hin
              exact op_eqU (.tmp 94) (.tmp 97) _ rfl h94 h97 (wanted_some (g := 8) (t := 91) (b := true) rfl rfl h91) rfl
            · intro w9 hb9 fr hout hin
              have h91 : fr.tmps.getD 91 undef = .bool true := hin 91 (by decide) (by decide)
              have h98 : fr.tmps.getD 98 undef = .bool true := hin 98 (by decide) (by decide)
              clear hout hin
              exact relStep_pick (.tmp 91) (.tmp 98) (.const (.bool false)) rfl h91 (wanted_none rfl) (by show fr.tmps.getD 98 undef = _; rw [h98])
            · intro w9 hb9 fr hout hin
              have h99 : fr.tmps.getD 99 undef = .bool true := hin 99 (by decide) (by decide)
              clear hout hin
              exact relStep_move (.tmp 99) rfl (wanted_none rfl) (by show fr.tmps.getD 99 undef = _; rw [h99])
            · intro w9 hb9 fr hout hin
              have h100 : fr.tmps.getD 100 undef = .bool true := hin 100 (by decide) (by decide)
              clear hout hin
              exact gs_call0 rfl en_gsWakes (wanted_some (g := 17) (t := 100) (b := true) rfl rfl h100) (by exact (gswakes_c w9).mono fun _ _ h => RetV.gs h) (fun _ _ h => h)
            · intro w9 hb9 fr hout hin
              have h100 : fr.tmps.getD 100 undef = .bool true := hin 100 (by decide) (by decide)
              have h101 : fr.tmps.getD 101 undef = .bool true := hin 101 (by decide) (by decide)
              clear hout hin
              exact relStep_pick (.tmp 100) (.tmp 101) (.const (.bool false)) rfl h100 (wanted_none rfl) (by show fr.tmps.getD 101 undef = _; rw [h101])
            · intro w9 hb9 fr hout hin
              have h102 : fr.tmps.getD 102 undef = .bool true := hin 102 (by decide) (by decide)
              clear hout hin
              exact relStep_assign (.tmp 102) rfl (wanted_none rfl) (by show fr.tmps.getD 102 undef = _; rw [h102])
          intro X21 hb9
          refine relAsk_in (by rfl) ?_
          intro v83 h83
          obtain rfl : v83 = W O := h83
          refine relAsk_in (by rfl) ?_
          intro v84 h84
          obtain rfl : v84 = W O := h84
          refine relAsk_in (by rfl) ?_
          intro v85 h85
          obtain rfl : v85 = .bool true := h85
          refine relAsk_in (by rfl) ?_
          intro v86 h86
          obtain rfl : v86 = .bool true := h86
          refine relAsk_in (by rfl) ?_
          intro v87 h87
          obtain rfl : v87 = .int .u64 (cs : Nat) := h87
          refine relAsk_in (by rfl) ?_
          intro v88 h88
          obtain rfl : v88 = .int .u64 (bk : Nat) := h88
          refine relAsk_in (by rfl) ?_
          intro v89 h89
          obtain rfl : v89 = .bool true := h89
          refine relAsk_in (by rfl) ?_
          intro v90 h90
          obtain rfl : v90 = .bool true := h90
          refine relAsk_in (by rfl) ?_
          intro v91 h91
          obtain rfl : v91 = .bool true := h91
          refine relAsk_in (by rfl) ?_
          intro v92 h92
          obtain rfl : v92 = .int .u64 (cs : Nat) := h92
          refine relAsk_in (by rfl) ?_
          intro v93 h93
          obtain rfl : v93 = .int .u64 (bk : Nat) := h93
          refine relAsk_in (by rfl) ?_
          intro v94 h94
          obtain rfl : v94 = .int .u64 (D : Nat) := h94
          refine relAsk_in (by rfl) ?_
          intro v95 h95
          obtain rfl : v95 = .int .u64 (i : Nat) := h95
          refine relAsk_in (by rfl) ?_
          intro v96 h96
          obtain rfl : v96 = .int .u64 800 := h96
          refine relAsk_in (by rfl) ?_
          intro v97 h97
          obtain rfl : v97 = .int .u64 (D : Nat) := h97
          refine relAsk_in (by rfl) ?_
          intro v98 h98
          obtain rfl : v98 = .bool true := h98
          refine relAsk_in (by rfl) ?_
          intro v99 h99
          obtain rfl : v99 = .bool true := h99
          refine relAsk_in (by rfl) ?_
          intro v100 h100
          obtain rfl : v100 = .bool true := h100
          refine relAsk_in (by rfl) ?_
          intro v101 h101
          obtain rfl : v101 = .bool true := h101
          refine relAsk_in (by rfl) ?_
          intro v102 h102
          obtain rfl : v102 = .bool true := h102
          refine relAsk_in (by rfl) ?_
          intro v6 h6
          obtain rfl : v6 = .bool true := h6
          refine relAsk_nil ?_
          refine wpList_nil ?_
          go_simp
          have HB9 := Lib.hid (HB.out.trans (hb9.mono HB.out.size))
          go_wp2_with fail
          go_ret
          exact ⟨rfl, HB9.out⟩

end Go.Proofs.Ytiflfcdegpmhnaa
