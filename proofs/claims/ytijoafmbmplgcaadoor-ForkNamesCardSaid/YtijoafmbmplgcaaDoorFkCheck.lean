/- Package quarryref13: come, Check: of any plan. -/
import Derived.Test.YtijoafmbmplgcaaDoorFkNamed
import Derived.Test.YtijoafmbmplgcaaDoorFkNative
import Derived.Deep.MidRow
import Derived.Deep.RegionHeld3
namespace Go.Proofs.YtijoafmbmplgcaaDoor
open Go.RowKit

/-- Has it come? -/
def comeB (a b : Nat) : Bool := decide (a ≠ 18446744073709551615 ∧ a ≤ b)
set_option maxRecDepth 100000 in
theorem rcome_c (a b : Nat) (w : World) : Calls Tryd.prog 25 #[.int .u64 (a : Nat), .int .u64 (b : Nat)] w fun e w' => e = .returned (.bool (comeB a b)) ∧ w' = w := by
  by_cases h1 : a = 18446744073709551615
  · have e : comeB a b = false := decide_eq_false fun h => h.1 h1
    rw [e]
    have k1 : ((a : Int) != 18446744073709551615) = false := by simp; omega
    clear h1 e
    go_enter Tryd.func25, Tryd.ntmps25
    go_wp2_with fail
    go_ret
    exact ⟨rfl, rfl⟩
  · have k1 : ((a : Int) != 18446744073709551615) = true := by simp; omega
    by_cases h2 : a ≤ b
    · have e : comeB a b = true := decide_eq_true ⟨h1, h2⟩
      rw [e]
      clear h1 e
      go_enter Tryd.func25, Tryd.ntmps25
      go_wp2_with fail
      go_ret
      exact ⟨rfl, rfl⟩
    · have e : comeB a b = false := decide_eq_false fun h => h2 h.2
      rw [e]
      clear h1 e
      go_enter Tryd.func25, Tryd.ntmps25
      go_wp2_with fail
      go_ret
      exact ⟨rfl, rfl⟩

/-- A plan's cells: the chain's number, 14 first blocks, two first times, the irregular change's block, a list's header, an address. -/
def ConfL (ch : Nat) (bl : List Nat) (t0 t1 dao : Nat) (fv : Value) (ta : List Nat) : List Value :=
  .int .u64 (ch : Nat) :: (bl.map (fun n : Nat => Value.int .u64 (n : Int)) ++ (.int .u64 (t0 : Nat) :: .int .u64 (t1 : Nat) :: .int .u64 (dao : Nat) :: fv :: ta.map fun n : Nat => Value.int .u8 (n : Int)))
/-- A plan lies in a block. -/
structure ConfAt (w : World) (g : Nat) (bl : List Nat) (t0 t1 : Nat) (fv : Value) : Prop where
  lt : g < w.heap.size
  bl : ∀ j, j < 14 → w.cell? ⟨g, 1 + j, none⟩ = some (.int .u64 (bl.getD j 0 : Nat))
  t0 : w.cell? ⟨g, 15, none⟩ = some (.int .u64 (t0 : Nat))
  t1 : w.cell? ⟨g, 16, none⟩ = some (.int .u64 (t1 : Nat))
  fv : w.cell? ⟨g, 18, none⟩ = some fv
theorem ConfAt.below {w w' : World} {g : Nat} {bl : List Nat} {t0 t1 : Nat} {fv : Value} (h : ConfAt w g bl t0 t1 fv) (hb : Below w.heap.size w w') : ConfAt w' g bl t0 t1 fv :=
  ⟨Nat.lt_of_lt_of_le h.lt hb.size, fun j hj => by rw [cell_below hb h.lt]; exact h.bl j hj, by rw [cell_below hb h.lt]; exact h.t0, by rw [cell_below hb h.lt]; exact h.t1, by rw [cell_below hb h.lt]; exact h.fv⟩
theorem conf_box (w : World) (t : TypeId) {ch : Nat} {bl : List Nat} {t0 t1 dao : Nat} {fv : Value} {ta : List Nat} (hl : bl.length = 14) : ConfAt (w.alloc (.cells (ConfL ch bl t0 t1 dao fv ta).toArray t)) w.heap.size bl t0 t1 fv := by
  have hc : ∀ k, (w.alloc (.cells (ConfL ch bl t0 t1 dao fv ta).toArray t)).cell? ⟨w.heap.size, k, none⟩ = (ConfL ch bl t0 t1 dao fv ta)[k]? := fun k => by
    rw [cell_of_row _ _ k _ t (0, 0) (heap_alloc_new w _), List.getElem?_toArray]
  refine ⟨by simp, fun j hj => ?_, ?_, ?_, ?_⟩
  · rw [hc, Nat.add_comm]
    have h2 : j < bl.length := by omega
    simp [ConfL, List.getElem?_append, h2]
  all_goals
    rw [hc]
    simp [ConfL, List.getElem?_append, hl]
/-- A list of addresses lies at a slice's beginning. -/
def AdsAt (w : World) : Option Addr → List (List Nat) → Prop
  | none, fs => fs = []
  | some a, fs => ∀ i bs, fs[i]? = some bs → a.spot = none ∧ a.block < w.heap.size ∧ bs.length = 20 ∧ w.rangeAt a.block (a.off + i * 20) (bs.map fun n : Nat => Value.int .u8 (n : Int))
theorem AdsAt.below {w w' : World} {A : Option Addr} {fs : List (List Nat)} (h : AdsAt w A fs) (hb : Below w.heap.size w w') : AdsAt w' A fs := by
  cases A with
  | none => exact h
  | some a =>
    intro i bs hi
    obtain ⟨h1, h2, h3, h4⟩ := h i bs hi
    exact ⟨h1, Nat.lt_of_lt_of_le h2 hb.size, h3, fun j v hj => by rw [cell_below hb h2]; exact h4 j v hj⟩
def BadConf (bl : List Nat) (t0 t1 : Nat) (fs : List (List Nat)) : Prop :=
  bl.getD 0 0 ≠ 0 ∨ t1 < t0 ∨ (∃ i, 1 ≤ i ∧ i < 14 ∧ bl.getD i 0 < bl.getD (i - 1) 0) ∨ (∃ i k, k < i ∧ i < fs.length ∧ fs.getD i [] = fs.getD k [])
open Classical in
noncomputable def checkZ (bl : List Nat) (t0 t1 : Nat) (fs : List (List Nat)) : Int := if BadConf bl t0 t1 fs then 10 else 0
theorem checkZ_bad {bl : List Nat} {t0 t1 : Nat} {fs : List (List Nat)} (h : BadConf bl t0 t1 fs) : checkZ bl t0 t1 fs = 10 := if_pos h
theorem checkZ_good {bl : List Nat} {t0 t1 : Nat} {fs : List (List Nat)} (h : ¬ BadConf bl t0 t1 fs) : checkZ bl t0 t1 fs = 0 := if_neg h

theorem draw_below (w : World) (n : Nat) : Below w.heap.size w (w.drewN n) := ⟨rfl, rfl, rfl, Nat.le_refl _, fun _ _ => rfl⟩
theorem fdraw {B : Nat} {a w : World} (h : Below B a w) (n : Nat) : Below B a (w.drewN n) := ⟨h.os, h.tape, h.output, h.size, h.block⟩
set_option maxRecDepth 100000 in
theorem eqAd {T : TypeId} {N : Nat} (hU : Tryd.prog.underlying T = some (.array N 5)) (xs ys : List Nat) (hx : xs.length = N) (hy : ys.length = N) (w : World) :
    (Op.equalIn 10000 T (.agg (AdC xs)) (.agg (AdC ys))).run Tryd.prog w = .ok (decide (xs = ys)) w := by
  obtain ⟨i, hi⟩ : ∃ i, Tryd.prog.info? 5 = some i := Option.isSome_iff_exists.1 (by kernel_rfl)
  have hc : Tryd.prog.cellsOf 5 = 1 := by kernel_rfl
  rw [run_equalIn_array w 9999 _ _ hU hi, hc]
  have hp : ∀ (bs : List Nat) (_ : bs.length = N) (j : Nat), j < N → (part 5 (AdC bs) (j * 1)).run Tryd.prog w = .ok (.int .u8 (bs.getD j 0 : Nat)) w := fun bs hl j hj => by
    have ha : (isAgg 5).run Tryd.prog w = .ok false w := by kernel_rfl
    unfold part
    rw [Sem.run_bind, ha]
    simp [hj, hl]
  have he : ∀ x y : Nat, (Op.equalIn 9999 5 (.int .u8 (x : Nat)) (.int .u8 (y : Nat))).run Tryd.prog w = .ok (decide (x = y)) w := fun x y => by
    rw [run_equalIn_int w 9998 _ _ _ _ _ Tryd.underlying5]
    congr 1
    by_cases h : x = y
    · simp [h]
    · simp [h]; omega
  have key : ∀ is : List Nat, (∀ j ∈ is, j < N) → (Op.eqItems 9999 5 1 (AdC xs) (AdC ys) is).run Tryd.prog w = .ok (decide (∀ j ∈ is, xs.getD j 0 = ys.getD j 0)) w := by
    intro is
    induction is with
    | nil => intro _; simp [Op.eqItems]
    | cons j is ih =>
      intro h
      simp only [Op.eqItems, Sem.run_bind, hp xs hx j (h j (by simp)), hp ys hy j (h j (by simp)), he, Result.andThen_ok]
      by_cases h1 : xs.getD j 0 = ys.getD j 0
      · rw [decide_eq_true h1]
        have h2 := ih fun k hk => h k (by simp [hk])
        simp only [Bool.not_true, Bool.false_eq_true, if_false]
        rw [h2]
        congr 1
        rw [decide_eq_decide]
        constructor
        · intro h3 k hk
          rcases List.mem_cons.1 hk with rfl | hk
          · exact h1
          · exact h3 k hk
        · intro h3 k hk
          exact h3 k (by simp [hk])
      · have h2 : ¬ ∀ k ∈ j :: is, xs.getD k 0 = ys.getD k 0 := fun h3 => h1 (h3 j (by simp))
        rw [decide_eq_false h1, decide_eq_false h2]
        simp
  rw [key _ fun j hj => by simpa using hj]
  congr 1
  rw [decide_eq_decide]
  constructor
  · intro h
    refine List.ext_getElem (by rw [hx, hy]) fun j h1 h2 => ?_
    have h3 := h j (by simpa using (by omega : j < N))
    rw [List.getD_eq_getElem?_getD, List.getElem?_eq_getElem h1, List.getD_eq_getElem?_getD, List.getElem?_eq_getElem h2] at h3
    exact h3
  · intro h j _
    rw [h]
/-- A load whose value is known in every world of the class, one step of the walk in the text's order. -/
theorem quiet_loadAt {ops : Array Oper} {C : World → Prop} {Q : Act → Prop} {a : Act} {o : Oper} {rest : List Oper} (hw : Region.wanted o (yielded ops a.tmps) = true) (ty : TypeId) (x : Operand) (ho : o.op = .load ty x) (p : Addr)
    (hx : a.eval x = .pointer (some p)) (v : Value) (hl : ∀ w, C w → (Instr.loadAt ty (.pointer (some p))).run Tryd.prog w = .ok v w) (h : wpQuiet Tryd.prog ops C Q rest (a.put o.dst v)) : wpQuiet Tryd.prog ops C Q (o :: rest) a := by
  unfold wpQuiet
  rw [if_pos hw]
  refine ⟨v, fun w hC => ?_, h⟩
  unfold Oper.quietAt
  have e : (execOp a.eval o).run Tryd.prog w = .ok (.value v) w := by
    unfold execOp
    simp only [ho, hx, Sem.run_bind, hl w hC, Result.andThen_ok]
    rfl
  rw [e]
  exact ⟨rfl, rfl⟩
theorem infoAd : (Tryd.prog.info? 27).map (·.size) = some 20 := by kernel_rfl

set_option maxRecDepth 100000 in
set_option maxHeartbeats 6400000 in
theorem rcheck_c {ch : Nat} {bl : List Nat} {t0 t1 dao : Nat} {A : Option Addr} {c : Nat} {fs : List (List Nat)} {ta : List Nat} (hl : bl.length = 14) (w : World) (hf : AdsAt w A fs) (hn : fs.length ≤ 1000) :
    Calls Tryd.prog 12 #[.agg (ConfL ch bl t0 t1 dao (.slice A fs.length c) ta).toArray] w (RetV (.int .i64 (checkZ bl t0 t1 fs)) w) := by
  have hcf : ConfAt (w.alloc (.cells (ConfL ch bl t0 t1 dao (.slice A fs.length c) ta).toArray 29)) w.heap.size bl t0 t1 (.slice A fs.length c) := conf_box w _ hl
  have hbe : Below w.heap.size w (w.alloc (.cells (ConfL ch bl t0 t1 dao (.slice A fs.length c) ta).toArray 29)) := (Below.refl _ _).alloc (Nat.le_refl _) _
  have hfs := hf.below hbe
  generalize ConfL ch bl t0 t1 dao (.slice A fs.length c) ta = L at *
  obtain ⟨z, hz⟩ : ∃ z, z = checkZ bl t0 t1 fs := ⟨_, rfl⟩
  rw [← hz]
  have HZ := Lib.hid hz
  have HL := Lib.hid hl
  have HC := Lib.hid hcf
  have HBE := Lib.hid hbe
  have HF := Lib.hid hfs
  clear hz hf hl hcf hbe hfs
  go_enter Tryd.func12, Tryd.ntmps12
  go_upto_region 1 with (fail)
  generalize w.alloc (.cells L.toArray 29) = W at *
  have c0 := HC.out.bl 0 (by omega)
  rw [Nat.add_zero] at c0
  have ct0 := HC.out.t0
  have ct1 := HC.out.t1
  obtain ⟨b0, hb0⟩ : ∃ b0, b0 = bl.getD 0 0 := ⟨_, rfl⟩
  rw [← hb0] at c0
  have HB0 := Lib.hid hb0
  clear hb0
  by_cases k0 : b0 = 0
  · subst k0
    by_cases k1 : t1 < t0
    · have e : z = 10 := by rw [HZ.out]; exact checkZ_bad (.inr (.inl k1))
      subst e
      go_wp2_with fail
      go_ret
      exact ⟨rfl, HBE.out⟩
    · go_wp2_with fail
      go_loopw [3] (fun a wr => ∃ (m : Nat), a = .int .i64 (m : Int) ∧ 1 ≤ m ∧ m ≤ 14 ∧ Hid (∀ i, 1 ≤ i → i < m → bl.getD (i - 1) 0 ≤ bl.getD i 0) ∧ Hid (ConfAt wr w.heap.size bl t0 t1 (.slice A fs.length c)) ∧ Hid (Below w.heap.size w wr) ∧ Hid (AdsAt wr A fs))
        (fun a _ => 14 - (intOf a).toNat)
      case atStart => exact ⟨1, rfl, Nat.le_refl _, by omega, fun i h1 h2 => absurd h2 (by omega), HC.out, HBE.out, HF.out⟩
      case round =>
        clear HC HBE HF c0 ct0 ct1
        obtain ⟨m, rfl, hm1, hm, hz, HC, HBE, HF⟩ := hrel
        by_cases h0 : m < 14
        · have cm := HC.out.bl m (by omega)
          obtain ⟨p, hp⟩ : ∃ p, p = m - 1 := ⟨_, rfl⟩
          have cp := HC.out.bl p (by omega)
          have hp2 : (m : Int) - 1 = (p : Int) := by omega
          obtain ⟨x, hx⟩ : ∃ x, x = bl.getD m 0 := ⟨_, rfl⟩
          obtain ⟨y, hy⟩ : ∃ y, y = bl.getD p 0 := ⟨_, rfl⟩
          rw [← hx] at cm
          rw [← hy] at cp
          have HX := Lib.hid hx
          have HY := Lib.hid hy
          have HP := Lib.hid hp
          clear hx hy hp
          by_cases hlt : x < y
          · have e : z = 10 := by
              rw [HZ.out]
              exact checkZ_bad (.inr (.inr (.inl ⟨m, hm1, h0, by rw [← HX.out, ← HP.out, ← HY.out]; exact hlt⟩)))
            subst e
            go_wp2_with fail
            go_quiet (fail)
            go_simp
            go_wp2_with fail
            go_ret
            exact ⟨rfl, fdraw HBE.out nq⟩
          · go_wp2_with fail
            go_quiet (fail)
            go_simp
            go_wp2_with fail
            go_roundw
            case rel => exact ⟨m + 1, by go_num, by omega, by omega, fun i h1 h2 => by
              by_cases e : i = m
              · subst e; rw [← HP.out, ← HX.out, ← HY.out]; omega
              · exact hz.out i h1 (by omega), HC.out.below (draw_below _ nq), fdraw HBE.out nq, HF.out.below (draw_below _ nq)⟩
            case measure => simp [intOf]; omega
        · have HM : Hid (m = 14) := by show _ = _; omega
          obtain ⟨n, hnn⟩ : ∃ n, n = fs.length := ⟨_, rfl⟩
          have HNN := Lib.hid hnn
          rw [← hnn] at hn HC ⊢
          have cf := HC.out.fv
          clear hnn
          go_wp2_with fail
          go_loopw [4] (fun a wr => ∃ (i : Nat), a = .int .i64 (i : Int) ∧ i ≤ n ∧ Hid (∀ j k, k < j → j < i → fs.getD j [] ≠ fs.getD k []) ∧ Hid (ConfAt wr w.heap.size bl t0 t1 (.slice A n c)) ∧ Hid (Below w.heap.size w wr) ∧ Hid (AdsAt wr A fs))
            (fun a _ => n - (intOf a).toNat)
          case atStart => exact ⟨0, rfl, by omega, fun j k _ h2 => absurd h2 (by omega), HC.out, HBE.out, HF.out⟩
          case round =>
            clear HC HBE HF cf h0 hm hm1
            obtain ⟨i, rfl, hi, hz2, HC, HBE, HF⟩ := hrel
            have cf := HC.out.fv
            by_cases h1 : i < n
            · go_wp2_with fail
              go_loopw [5] (fun a wr => ∃ (k : Nat), a = .int .i64 (k : Int) ∧ k ≤ i ∧ Hid (∀ j, j < k → fs.getD i [] ≠ fs.getD j []) ∧ Hid (ConfAt wr w.heap.size bl t0 t1 (.slice A n c)) ∧ Hid (Below w.heap.size w wr) ∧ Hid (AdsAt wr A fs))
                (fun a _ => i - (intOf a).toNat)
              case atStart => exact ⟨0, rfl, by omega, fun j h2 => absurd h2 (by omega), HC.out, HBE.out, HF.out⟩
              case round =>
                clear HC HBE HF cf
                obtain ⟨k, rfl, hk, hz3, HC, HBE, HF⟩ := hrel
                by_cases h2 : k < i
                · have cf := HC.out.fv
                  obtain ⟨x, hx⟩ : ∃ x, fs[i]? = some x := ⟨_, List.getElem?_eq_getElem (by rw [← HNN.out]; exact h1)⟩
                  obtain ⟨y, hy⟩ : ∃ y, fs[k]? = some y := ⟨_, List.getElem?_eq_getElem (by rw [← HNN.out]; omega)⟩
                  cases A with
                  | none => have := HF.out; subst this; simp at hx
                  | some ad =>
                    obtain ⟨b, o, sp⟩ := ad
                    have HF' := HF
                    obtain ⟨hsp, hb, lx, rx⟩ := HF.out i x hx
                    obtain rfl : sp = none := hsp
                    obtain ⟨-, -, ly, ry⟩ := HF'.out k y hy
                    have kx : ∀ q, (Instr.loadAt 27 (.pointer (some ⟨b, o + i * 20, none⟩))).run Tryd.prog (wr.drewN q) = .ok (.agg (AdC x)) (wr.drewN q) := fun q =>
                      run_loadAt_mid (wr.drewN q) b _ 27 _ _ (fun j v hj => rx j v hj) Tryd.underlying27 rfl (by rw [infoAd, List.length_map, lx])
                    have ky : ∀ q, (Instr.loadAt 27 (.pointer (some ⟨b, o + k * 20, none⟩))).run Tryd.prog (wr.drewN q) = .ok (.agg (AdC y)) (wr.drewN q) := fun q =>
                      run_loadAt_mid (wr.drewN q) b _ 27 _ _ (fun j v hj => ry j v hj) Tryd.underlying27 rfl (by rw [infoAd, List.length_map, ly])
                    have kx0 := kx 0
                    have ky0 := ky 0
                    rw [World.drewN_zero] at kx0 ky0
                    have qe : ∀ w, (Op.equalIn 10000 27 (.agg (AdC x)) (.agg (AdC y))).run Tryd.prog w = .ok (decide (x = y)) w := fun w => eqAd Tryd.underlying27 x y lx ly w
                    have gx : fs.getD i [] = x := by rw [List.getD_eq_getElem?_getD, hx]; rfl
                    have gy : fs.getD k [] = y := by rw [List.getD_eq_getElem?_getD, hy]; rfl
                    have HGX := Lib.hid gx
                    have HGY := Lib.hid gy
                    generalize AdC x = X at *
                    generalize AdC y = Y at *
                    have h3 : k < n := by omega
                    clear hx hy gx gy rx ry lx ly hb
                    by_cases hxy : x = y
                    · have e : z = 10 := by
                        rw [HZ.out]
                        exact checkZ_bad (.inr (.inr (.inr ⟨i, k, h2, by rw [← HNN.out]; exact h1, by rw [HGX.out, HGY.out]; exact hxy⟩)))
                      subst e
                      rw [decide_eq_true hxy] at qe
                      clear hxy
                      go_wp2_with fail
                      refine wp_region_quiet_lit (by kernel_rfl) (by kernel_rfl) ?_
                      iterate 4 (quiet_step (fail))
                      refine quiet_loadAt (by rfl) 27 (.tmp 48) rfl ⟨b, o + i * 20, none⟩ (by go_simp) (.agg X) (fun w1 ⟨q, hq⟩ => by rw [hq]; exact kx q) ?_
                      go_simp
                      iterate 4 (quiet_step (fail))
                      refine quiet_loadAt (by rfl) 27 (.tmp 53) rfl ⟨b, o + k * 20, none⟩ (by go_simp) (.agg Y) (fun w1 ⟨q, hq⟩ => by rw [hq]; exact ky q) ?_
                      go_simp
                      quiet_step (fail)
                      refine wpQuiet_nil ?_
                      intro nq
                      go_simp
                      go_wp2_with fail
                      go_ret
                      exact ⟨rfl, fdraw HBE.out nq⟩
                    · rw [decide_eq_false hxy] at qe
                      have HXY : Hid (x ≠ y) := hxy
                      clear hxy
                      go_wp2_with fail
                      refine wp_region_quiet_lit (by kernel_rfl) (by kernel_rfl) ?_
                      iterate 4 (quiet_step (fail))
                      refine quiet_loadAt (by rfl) 27 (.tmp 48) rfl ⟨b, o + i * 20, none⟩ (by go_simp) (.agg X) (fun w1 ⟨q, hq⟩ => by rw [hq]; exact kx q) ?_
                      go_simp
                      iterate 4 (quiet_step (fail))
                      refine quiet_loadAt (by rfl) 27 (.tmp 53) rfl ⟨b, o + k * 20, none⟩ (by go_simp) (.agg Y) (fun w1 ⟨q, hq⟩ => by rw [hq]; exact ky q) ?_
                      go_simp
                      quiet_step (fail)
                      refine wpQuiet_nil ?_
                      intro nq
                      go_simp
                      go_wp2_with fail
                      go_roundw
                      case rel => exact ⟨k + 1, by go_num, by omega, fun j hj => by
                        by_cases e : j = k
                        · subst e; rw [HGX.out, HGY.out]; exact HXY.out
                        · exact hz3.out j (by omega), HC.out.below (draw_below _ nq), fdraw HBE.out nq, HF'.out.below (draw_below _ nq)⟩
                      case measure => simp [intOf]; omega
                · obtain rfl : k = i := by omega
                  go_wp2_with fail
                  go_roundw
                  case rel => exact ⟨k + 1, by go_num, by omega, fun j k' h3 h4 => by
                    by_cases e : j = k
                    · subst e; exact hz3.out k' h3
                    · exact hz2.out j k' h3 (by omega), HC.out, HBE.out, HF.out⟩
                  case measure => simp [intOf]; omega
            · obtain rfl : i = n := by omega
              have e : z = 0 := by
                rw [HZ.out]
                refine checkZ_good ?_
                rintro (h | h | ⟨j, h3, h4, h5⟩ | ⟨j, k', h3, h4, h5⟩)
                · exact h HB0.out.symm
                · exact k1 h
                · have := hz.out j h3 (by rw [HM.out]; exact h4); omega
                · exact hz2.out j k' h3 (by rw [HNN.out]; exact h4) h5
              subst e
              go_wp2_with fail
              go_ret
              exact ⟨rfl, HBE.out⟩
  · have k2 : ((b0 : Int) != 0) = true := by simp; omega
    have e : z = 10 := by rw [HZ.out]; exact checkZ_bad (.inl (by rw [← HB0.out]; exact k0))
    subst e
    go_wp2_with fail
    go_ret
    exact ⟨rfl, HBE.out⟩
end Go.Proofs.YtijoafmbmplgcaaDoor
