/- The law GasIntrinsic. (Written by wip/gengsintrlaw.py.) -/
import Derived.Test.YtiflfcdegpmhnaaGsWakes
import Derived.Maps.AppendAt
import Derived.Laws.AppendOwnNone
import Derived.Test.YtiflfcdegpmhnaaTwin
import Derived.Deep.RegionLaw
import Derived.Deep.RegionHeld3
import Derived.Shelf.Bytes.SlCountOne
import Derived.Deep.MidRow
import Derived.Test.YtiflfcdegpmhnaaGcWords
namespace Go.Proofs.Ytiflfcdegpmhnaa
open Go.RowKit

/-- m elements of sz cells, one behind the other, whatever stands there. -/
def RowAt (w : World) (A : Option Addr) (sz m : Nat) : Prop := m = 0 ∨ ∃ (b o : Nat) (vs : List Value), A = some ⟨b, o, none⟩ ∧ b < w.heap.size ∧ vs.length = m * sz ∧ (∀ (j : Nat) (u : Value), vs[j]? = some u → w.cell? ⟨b, o + j, none⟩ = some u) ∧ ∀ u ∈ vs, u.oneCell' = true
theorem RowAt.below {w w' : World} {A : Option Addr} {sz m : Nat} (h : RowAt w A sz m) (hb : Below w.heap.size w w') : RowAt w' A sz m := by
  rcases h with h | ⟨b, o, vs, e, hl, h1, h2, h3⟩
  · exact .inl h
  · exact .inr ⟨b, o, vs, e, Nat.lt_of_lt_of_le hl hb.size, h1, fun j u hj => (hb.cell (p := ⟨b, _, none⟩) hl).trans (h2 j u hj), h3⟩
theorem RowAt.take {w : World} {A : Option Addr} {sz m : Nat} (h : RowAt w A sz m) (k : Nat) (hk : k ≤ m) : RowAt w A sz k := by
  rcases h with h | ⟨b, o, vs, e, hl, h1, h2, h3⟩
  · exact .inl (by omega)
  · have hm := Nat.mul_le_mul_right sz hk
    refine .inr ⟨b, o, vs.take (k * sz), e, hl, by rw [List.length_take]; omega, fun j u hj => h2 j u ?_, fun u hu => h3 u (List.mem_of_mem_take hu)⟩
    rw [List.getElem?_take] at hj
    split at hj
    · exact hj
    · cases hj
theorem RowAt.own {w : World} {base sz m : Nat} {e : TypeId} {v : Value} {xs : List Value} (h : w.ownsRow base e sz v m xs) (h1 : ∀ u ∈ xs, u.oneCell' = true) : ∃ A c, v = .slice A m c ∧ m ≤ c ∧ RowAt w A sz m := by
  have h0 := h
  rcases h.2 with ⟨e, h0⟩ | ⟨g, cap, cur, rfl, hg, hh, hcap, _⟩
  · exact ⟨none, 0, by rw [e, h0], by omega, .inl h0⟩
  · refine ⟨some ⟨g, 0, none⟩, cap, rfl, hcap, .inr ⟨g, 0, xs, rfl, (Array.getElem?_eq_some_iff.1 hh).1, h0.1, fun j u hj => ?_, h1⟩⟩
    have h2 := World.ownsRow.cells h0 (g := g) rfl j u hj
    rw [Addr.add_mid] at h2
    exact h2
theorem own_keep {w w' : World} {base sz n : Nat} {e : TypeId} {v : Value} {xs : List Value} (h : w.ownsRow base e sz v n xs) (hk : ∀ g, v.ownBlock = some g → w'.heap[g]? = w.heap[g]?) : w'.ownsRow base e sz v n xs := by
  refine ⟨h.1, ?_⟩
  rcases h.2 with h | ⟨g, cap, cur, rfl, hg, hh, h1, h2, h3, h4⟩
  · exact .inl h
  · exact .inr ⟨g, cap, cur, rfl, hg, by rw [hk g rfl]; exact hh, h1, h2, h3, h4⟩
theorem own_base {w : World} {base base' sz n : Nat} {e : TypeId} {v : Value} {xs : List Value} (h : w.ownsRow base e sz v n xs) (hb : base' ≤ base) : w.ownsRow base' e sz v n xs := by
  refine ⟨h.1, ?_⟩
  rcases h.2 with h | ⟨g, cap, cur, e1, hg, hh⟩
  · exact .inl h
  · exact .inr ⟨g, cap, cur, e1, Nat.le_trans hb hg, hh⟩
theorem own_lt {w : World} {base sz n g : Nat} {e : TypeId} {v : Value} {xs : List Value} (h : w.ownsRow base e sz v n xs) (hk : v.ownBlock = some g) : base ≤ g ∧ g < w.heap.size := by
  rcases h.2 with ⟨rfl, _⟩ | ⟨g', cap, cur, rfl, hg, hh, _⟩
  · cases hk
  · injection hk with hk
    subst hk
    exact ⟨hg, (Array.getElem?_eq_some_iff.1 hh).1⟩
/-- Rows of elements of two types lie in two blocks. -/
theorem own_apart {w : World} {b1 b2 s1 s2 n1 n2 g : Nat} {e1 e2 : TypeId} {v1 v2 : Value} {x1 x2 : List Value} (h1 : w.ownsRow b1 e1 s1 v1 n1 x1) (h2 : w.ownsRow b2 e2 s2 v2 n2 x2) (hne : e1 ≠ e2) (hg : v1.ownBlock = some g) : v2.ownBlock ≠ some g := by
  intro hg2
  rcases h1.2 with ⟨rfl, _⟩ | ⟨g1, cap, cur, rfl, _, hh, _⟩
  · cases hg
  · rcases h2.2 with ⟨rfl, _⟩ | ⟨g2, cap2, cur2, rfl, _, hh2, _⟩
    · cases hg2
    · injection hg with hg
      injection hg2 with hg2
      simp only at hg hg2
      subst hg
      subst hg2
      rw [hh] at hh2
      injection hh2 with e
      injection e with _ e _
      exact hne e
theorem infoHash : (Try.prog.info? 142).map (fun i => (i.zero, i.size, i.bytes)) = some (some (.agg (List.replicate 32 (Value.int .u8 0)).toArray), 32, 32) := by kernel_rfl
theorem run_append_hashes (t' : TypeId) {w : World} {base : Nat} {v : Value} (hown : w.ownsRow base 142 32 v 0 []) {A : Option Addr} {c m : Nat} (hf : RowAt w A 32 m) (hn : m ≤ 1000) (hb : base ≤ w.heap.size) :
    ∃ v' w' xs, (Builtin.append_ #[56, 56] t' #[v, .slice A m c]).run Try.prog w = .ok v' w' ∧ w'.ownsRow base 142 32 v' m xs ∧ (∀ u ∈ xs, u.oneCell' = true) ∧ w.grownBy w' v.ownBlock ∧ (v'.ownBlock = v.ownBlock ∨ v'.ownBlock = some w.heap.size) := by
  obtain ⟨i0, hi, hz0, hz1, hz2⟩ := info_parts infoHash
  cases A with
  | none =>
    have hm : m = 0 := by
      rcases hf with h | ⟨b, o, vs, e, _⟩
      · exact h
      · cases e
    subst hm
    exact ⟨v, w, [], run_append_owned_none (P := Try.prog) (w := w) base 56 t' 142 i0 32 Try.underlying56 hi v _ _ hown, hown, (fun u hu => by cases hu), ⟨rfl, rfl, rfl, Nat.le_refl _, fun _ _ _ => rfl⟩, .inl rfl⟩
  | some ad =>
    have key : ∃ vs : List Value, vs.length = m * 32 ∧ (∀ (j : Nat) (u : Value), vs[j]? = some u → w.cell? (ad.add j) = some u) ∧ ∀ u ∈ vs, u.oneCell' = true := by
      rcases hf with h | ⟨b, o, vs, e, hl, h1, h2, h3⟩
      · exact ⟨[], by rw [h]; rfl, (fun j u hj => by simp at hj), fun u hu => by cases hu⟩
      · injection e with e
        subst e
        exact ⟨vs, h1, fun j u hj => by rw [Addr.add_mid]; exact h2 j u hj, h3⟩
    obtain ⟨vs, k1, k2, k3⟩ := key
    obtain ⟨v', w', h1, h2, h3, _, h5⟩ := run_append_own_at (P := Try.prog) w base 56 t' 142 i0 (.agg (List.replicate 32 (Value.int .u8 0)).toArray) 32 32 Try.underlying56 hi hz0 hz1 hz2 (by simp [Value.cells]) (by decide) v 0 [] hown ad m c vs k1 k2 k3 (by unfold maxLen; omega) (by omega) hb
    refine ⟨v', w', vs, h1, ?_, k3, h3, h5⟩
    rw [Nat.zero_add] at h2
    exact h2
section
variable {ops : Array Oper} {rest : List Oper} {o : Oper} {a : Act} {w : World} {Q : Exit → Act → World → Prop}
theorem gs_append_run (hgd : o.guard = none) (s x : Operand) (t : TypeId) (ho : o.op = .call { callee := .builtin .append, args := #[s, x], argTypes := #[t, t] }) {v' : Value} {w' : World}
    (hr : (Builtin.append_ #[t, t] o.type #[a.eval s, a.eval x]).run Try.prog w = .ok v' w') (h : wpList Try.prog ops Q rest (a.put o.dst v') w') : wpList Try.prog ops Q (o :: rest) a w := by
  refine wpList_plain hgd fun K hK => ?_
  unfold Oper.wp execOp
  simp only [ho, resolve, invoke, builtin, Sem.run_bind, Sem.run_pure, Result.andThen_ok, List.map_toArray, List.map_cons, List.map_nil, hr]
  exact hK _ _ h
end
/-- What keys tells. -/
def KeysR (k : Nat) (w : World) (e : Ending) (w' : World) : Prop := ∃ K' c' xs, e = .returned (.slice K' (if 12 < k then 12 else k : Nat) c') ∧ w'.ownsRow w.heap.size 142 32 (.slice K' (if 12 < k then 12 else k : Nat) c') (if 12 < k then 12 else k) xs ∧ (∀ u ∈ xs, u.oneCell' = true) ∧ (if 12 < k then 12 else k) ≤ c' ∧ Below w.heap.size w w'

set_option maxRecDepth 100000 in
set_option maxHeartbeats 6400000 in
theorem keys_c {K : Option Addr} {c k : Nat} (w : World) (h : RowAt w K 32 k) (hkc : k ≤ c) : Calls Try.prog 55 #[.slice K k c] w (KeysR k w) := by
  obtain ⟨m, hm⟩ : ∃ m, m = if 12 < k then 12 else k := ⟨_, rfl⟩
  have hmk : m ≤ k := by rw [hm]; split <;> omega
  have hm12 : m ≤ 12 := by rw [hm]; split <;> omega
  have hown : (w.alloc (.cells #[] 142)).ownsRow w.heap.size 142 32 (.slice (some ⟨w.heap.size, 0, none⟩) 0 0) 0 [] :=
    ⟨rfl, .inr ⟨w.heap.size, 0, #[], rfl, Nat.le_refl _, heap_alloc_new w _, Nat.zero_le _, by unfold maxLen; omega, rfl, rfl⟩⟩
  obtain ⟨v', w1, xs, happ, hown2, hone, hgr, -⟩ := run_append_hashes 56 hown ((h.take m hmk).below ((Below.refl _ _).alloc (Nat.le_refl _) _)) (by omega) (by simp) (c := c)
  have hbw : Below w.heap.size w w1 := ((Below.refl w.heap.size w).alloc (Nat.le_refl _) (.cells #[] 142)).grown hgr (by simp) (fun k hk => by simp [Value.ownBlock] at hk; omega)
  obtain ⟨A', c', hv', hmc, hrow⟩ := RowAt.own hown2 hone
  subst hv'
  have HM := Lib.hid hm
  have HAPP := Lib.hid happ
  have HB := Lib.hid hbw
  have HR := Lib.hid hown2
  have HO := Lib.hid hone
  have HMC := Lib.hid hmc
  have hR : ∀ e w', (∃ K' c' xs, e = .returned (.slice K' m c') ∧ w'.ownsRow w.heap.size 142 32 (.slice K' m c') m xs ∧ (∀ u ∈ xs, u.oneCell' = true) ∧ m ≤ c' ∧ Below w.heap.size w w') → KeysR k w e w' := fun e w' hh => by unfold KeysR; rw [← hm]; exact hh
  refine Calls.mono ?_ hR
  clear hR hown happ hown2 hone hgr hbw hmc hrow hmk hm12 h
  by_cases hk : 12 < k
  · rw [if_pos hk] at hm
    subst hm
    have hk2 : 12 < (k : Int) := by omega
    have hc12 : 12 ≤ c := by omega
    go_enter Try.func55, Try.ntmps55
    go_wp2_with (at_builtin; refine gs_append_run rfl (.tmp 8) (.tmp 9) 56 rfl HAPP.out ?_)
    go_ret
    exact ⟨A', c', xs, rfl, HR.out, HO.out, HMC.out, HB.out⟩
  · rw [if_neg hk] at hm
    subst hm
    have hk2 : ¬ 12 < (m : Int) := by omega
    go_enter Try.func55, Try.ntmps55
    go_wp2_with (at_builtin; refine gs_append_run rfl (.tmp 8) (.tmp 9) 56 rfl HAPP.out ?_)
    go_ret
    exact ⟨A', c', rfl, xs, HR.out, HO.out, HMC.out, HB.out⟩
end Go.Proofs.Ytiflfcdegpmhnaa
namespace Go.Proofs.Ytiflfcdegpmhnaa
open Go.RowKit

/-- Accounts that a transaction names ahead, with so many places each. -/
def AccAt (w : World) (A : Option Addr) (ks : List Nat) : Prop := ks = [] ∨ ∃ b o : Nat, A = some ⟨b, o, none⟩ ∧ b < w.heap.size ∧ ∀ i k, ks[i]? = some k → ∃ (ad : List Value) (K : Option Addr) (c : Nat), ad.length = 20 ∧ (∀ u ∈ ad, u.oneCell' = true) ∧
  (∀ (j : Nat) (u : Value), ad[j]? = some u → w.cell? ⟨b, o + i * 21 + j, none⟩ = some u) ∧ w.cell? ⟨b, o + i * 21 + 20, none⟩ = some (.slice K k c) ∧ k ≤ c ∧ RowAt w K 32 k
theorem AccAt.below {w w' : World} {A : Option Addr} {ks : List Nat} (h : AccAt w A ks) (hb : Below w.heap.size w w') : AccAt w' A ks := by
  rcases h with h | ⟨b, o, e, hl, h⟩
  · exact .inl h
  · refine .inr ⟨b, o, e, Nat.lt_of_lt_of_le hl hb.size, fun i k hk => ?_⟩
    obtain ⟨ad, K, c, h1, h2, h3, h4, h5, h6⟩ := h i k hk
    exact ⟨ad, K, c, h1, h2, fun j u hj => (hb.cell (p := ⟨b, _, none⟩) hl).trans (h3 j u hj), (hb.cell (p := ⟨b, _, none⟩) hl).trans h4, h5, h6.below hb⟩
/-- A transaction's cells: whether it makes a contract, its data, its accounts with their places, its blobs. -/
structure TxT (w : World) (cs : List Value) (mk : Bool) (bs ks : List Nat) : Prop where
  len : cs.length = 53
  one : ∀ u ∈ cs, u.oneCell' = true
  make : cs[12]? = some (.bool mk)
  data : ∃ u, cs[37]? = some u ∧ Byt w u bs
  acc : ∃ A c, cs[38]? = some (.slice A ks.length c) ∧ AccAt w A ks ∧ ks.length ≤ c
  blobs : ∃ B m c, cs[43]? = some (.slice B m c) ∧ RowAt w B 32 m ∧ m ≤ c
theorem TxT.below {w w' : World} {cs : List Value} {mk : Bool} {bs ks : List Nat} (h : TxT w cs mk bs ks) (hb : Below w.heap.size w w') : TxT w' cs mk bs ks := by
  obtain ⟨u, hu, hd⟩ := h.data
  obtain ⟨A, c, hA, ha, hc⟩ := h.acc
  obtain ⟨B, m, d, hB, hr, hm⟩ := h.blobs
  exact ⟨h.len, h.one, h.make, ⟨u, hu, hd.below hb⟩, ⟨A, c, hA, ha.below hb, hc⟩, ⟨B, m, d, hB, hr.below hb, hm⟩⟩
/-- What the data costs. -/
def sumD (z o : Int) : List Nat → Int
  | [] => 0
  | b :: r => (if b = 0 then z else o) + sumD z o r
/-- What accounts and places cost. -/
def sumK (a p : Int) : List Nat → Int
  | [] => 0
  | n :: r => a + p * n + sumK a p r
/-- What a transaction takes before anything runs. -/
def intrZ (k : Nat → Int) (mk : Bool) (bs ks : List Nat) : Int :=
  (if mk then k 1 + k 2 + k 7 * ((bs.length + 31) / 32 : Nat) else k 1) + sumD (k 3) (k 4) bs + sumK (k 5) (k 6) ks
theorem sumD_bound {z o : Int} (h0 : 0 ≤ z) (h1 : z ≤ 100) (h2 : 0 ≤ o) (h3 : o ≤ 100) : ∀ bs : List Nat, 0 ≤ sumD z o bs ∧ sumD z o bs ≤ 100 * bs.length
  | [] => by simp [sumD]
  | b :: r => by
    have := sumD_bound h0 h1 h2 h3 r
    unfold sumD
    rw [List.length_cons]
    split <;> omega
theorem sumK_bound {a p : Int} (h0 : 0 ≤ a) (h1 : a ≤ 10000) (h2 : 0 ≤ p) (h3 : p ≤ 10000) : ∀ ks : List Nat, (∀ x ∈ ks, x ≤ 12) → 0 ≤ sumK a p ks ∧ sumK a p ks ≤ 200000 * ks.length
  | [], _ => by simp [sumK]
  | n :: r, h => by
    have := sumK_bound h0 h1 h2 h3 r fun x hx => h x (by simp [hx])
    have hn := h n (by simp)
    have h5 : 0 ≤ p * (n : Int) := Int.mul_nonneg h2 (by omega)
    have h6 : p * (n : Int) ≤ 10000 * 12 := Int.mul_le_mul h3 (by omega) (by omega) (by omega)
    unfold sumK
    rw [List.length_cons]
    omega

set_option maxRecDepth 100000 in
set_option maxHeartbeats 12800000 in
theorem rintr_c (f : Int) (k : Nat → Int) (hk : ∀ i, 1 ≤ i → i ≤ 7 → 0 ≤ k i) (hk1 : k 1 ≤ 100000) (hk2 : k 2 ≤ 100000) (hk3 : k 3 ≤ 100) (hk4 : k 4 ≤ 100) (hk5 : k 5 ≤ 10000) (hk6 : k 6 ≤ 10000) (hk7 : k 7 ≤ 100)
    {cs : List Value} {mk : Bool} {bs ks : List Nat} (w : World) (h : TxT w cs mk bs ks) (hbs : bs.length ≤ 1000) (hks : ks.length ≤ 12) (hk12 : ∀ x ∈ ks, x ≤ 12) :
    Calls Try.prog 31 #[.agg (RulesK f k), .agg cs.toArray] w (RetV (.tuple #[.int .u64 (intrZ k mk bs ks), .bool true]) w) := by
  obtain ⟨X, hX⟩ : ∃ X, X = (w.alloc (.cells (RulesK f k) 26)).alloc (.cells cs.toArray 58) := ⟨_, rfl⟩
  have hR : RulesAt X w.heap.size f k := by rw [hX]; exact (RulesAt.new w f k).alloc _
  have hT : X.heap[w.heap.size + 1]? = some (.cells cs.toArray 58 (0, 0)) := by
    rw [hX]
    have h := heap_alloc_new (w.alloc (.cells (RulesK f k) 26)) (.cells cs.toArray 58)
    rw [show (w.alloc (.cells (RulesK f k) 26)).heap.size = w.heap.size + 1 by simp] at h; exact h
  have hB : Below w.heap.size w X := by rw [hX]; exact ((Below.refl _ _).alloc (Nat.le_refl _) _).alloc (by simp) _
  have hx := h.below hB
  obtain ⟨u, hu, hd⟩ := hx.data
  obtain ⟨A, c, hA, ha, hc⟩ := hx.acc
  obtain ⟨A0, c0, rfl, hrd, hds⟩ := hd
  have x12 : X.cell? ⟨w.heap.size + 1, 12, none⟩ = some (.bool mk) := by rw [cell_of_row _ _ 12 _ _ (0, 0) hT, List.getElem?_toArray]; exact hx.make
  have x37 : X.cell? ⟨w.heap.size + 1, 37, none⟩ = some (.slice A0 bs.length c0) := by rw [cell_of_row _ _ 37 _ _ (0, 0) hT, List.getElem?_toArray]; exact hu
  have x38 : X.cell? ⟨w.heap.size + 1, 38, none⟩ = some (.slice A ks.length c) := by rw [cell_of_row _ _ 38 _ _ (0, 0) hT, List.getElem?_toArray]; exact hA
  have r1 : X.cell? ⟨w.heap.size, 1, none⟩ = some (.int .u64 (k 1)) := by rw [cell_of_row _ _ 1 _ _ (0, 0) hR]; rfl
  have r2 : X.cell? ⟨w.heap.size, 2, none⟩ = some (.int .u64 (k 2)) := by rw [cell_of_row _ _ 2 _ _ (0, 0) hR]; rfl
  have r3 : X.cell? ⟨w.heap.size, 3, none⟩ = some (.int .u64 (k 3)) := by rw [cell_of_row _ _ 3 _ _ (0, 0) hR]; rfl
  have r4 : X.cell? ⟨w.heap.size, 4, none⟩ = some (.int .u64 (k 4)) := by rw [cell_of_row _ _ 4 _ _ (0, 0) hR]; rfl
  have r5 : X.cell? ⟨w.heap.size, 5, none⟩ = some (.int .u64 (k 5)) := by rw [cell_of_row _ _ 5 _ _ (0, 0) hR]; rfl
  have r6 : X.cell? ⟨w.heap.size, 6, none⟩ = some (.int .u64 (k 6)) := by rw [cell_of_row _ _ 6 _ _ (0, 0) hR]; rfl
  have r7 : X.cell? ⟨w.heap.size, 7, none⟩ = some (.int .u64 (k 7)) := by rw [cell_of_row _ _ 7 _ _ (0, 0) hR]; rfl
  have p1 := hk 1 (by omega) (by omega)
  have p2 := hk 2 (by omega) (by omega)
  have p3 := hk 3 (by omega) (by omega)
  have p4 := hk 4 (by omega) (by omega)
  have p5 := hk 5 (by omega) (by omega)
  have p6 := hk 6 (by omega) (by omega)
  have p7 := hk 7 (by omega) (by omega)
  obtain ⟨Z, hZ⟩ : ∃ Z, Z = intrZ k mk bs ks := ⟨_, rfl⟩
  rw [← hZ]
  unfold intrZ at hZ
  obtain ⟨k1, e1⟩ : ∃ x, x = k 1 := ⟨_, rfl⟩
  obtain ⟨k2, e2⟩ : ∃ x, x = k 2 := ⟨_, rfl⟩
  obtain ⟨k3, e3⟩ : ∃ x, x = k 3 := ⟨_, rfl⟩
  obtain ⟨k4, e4⟩ : ∃ x, x = k 4 := ⟨_, rfl⟩
  obtain ⟨k5, e5⟩ : ∃ x, x = k 5 := ⟨_, rfl⟩
  obtain ⟨k6, e6⟩ : ∃ x, x = k 6 := ⟨_, rfl⟩
  obtain ⟨k7, e7⟩ : ∃ x, x = k 7 := ⟨_, rfl⟩
  rw [← e1] at r1 p1 hk1 hZ
  rw [← e2] at r2 p2 hk2 hZ
  rw [← e3] at r3 p3 hk3 hZ
  rw [← e4] at r4 p4 hk4 hZ
  rw [← e5] at r5 p5 hk5 hZ
  rw [← e6] at r6 p6 hk6 hZ
  rw [← e7] at r7 p7 hk7 hZ
  have bD := sumD_bound p3 hk3 p4 hk4 bs
  have bK := sumK_bound p5 hk5 p6 hk6 ks hk12
  obtain ⟨D, hD⟩ : ∃ D, D = bs.length := ⟨_, rfl⟩
  rw [← hD] at x37 hZ bD hbs
  obtain ⟨q, hq⟩ : ∃ q, q = (D + 31) / 32 := ⟨_, rfl⟩
  rw [← hq] at hZ
  have hq32 : q ≤ 32 := by omega
  have t0 : 0 ≤ k7 * (q : Int) := Int.mul_nonneg p7 (by omega)
  have t1 : k7 * (q : Int) ≤ 100 * 32 := Int.mul_le_mul hk7 (by omega) (by omega) (by omega)
  obtain ⟨d31, hd31⟩ : ∃ x, x = (D : Int) + 31 := ⟨_, rfl⟩
  obtain ⟨s12, hs12⟩ : ∃ x, x = k1 + k2 := ⟨_, rfl⟩
  obtain ⟨m7, hm7⟩ : ∃ x, x = k7 * (q : Int) := ⟨_, rfl⟩
  rw [← hm7] at hZ t0 t1
  rw [← hs12] at hZ
  have v1 : IntKind.u64.wrap (k1 + k2) = s12 := by rw [IntKind.wrap_u64]; omega
  have v2 : IntKind.i64.wrap ((D : Int) + 31) = d31 := by rw [hd31]; exact IntWalk.i64_in _ (by omega)
  have v3 : IntKind.u64.wrap d31 = d31 := by rw [IntKind.wrap_u64]; omega
  have v4 : d31.tdiv 32 = (q : Int) := by rw [Int.tdiv_eq_ediv_of_nonneg (by omega)]; omega
  have v5 : d31 / 32 = (q : Int) := by omega
  have v6 : IntKind.u64.wrap (q : Int) = (q : Int) := by rw [IntKind.wrap_u64]; omega
  have v7 : IntKind.u64.wrap (k7 * (q : Int)) = m7 := by rw [IntKind.wrap_u64, ← hm7]; omega
  obtain ⟨st, hst⟩ : ∃ x, x = if mk = true then s12 + m7 else k1 := ⟨_, rfl⟩
  rw [← hst] at hZ
  have bst : 0 ≤ st ∧ st ≤ 300000 := by rw [hst]; split <;> omega
  obtain ⟨s3, hs3⟩ : ∃ x, x = s12 + m7 := ⟨_, rfl⟩
  have v8 : IntKind.u64.wrap (s12 + m7) = s3 := by rw [IntKind.wrap_u64]; omega
  rw [← hs3] at hst
  have HZ := Lib.hid hZ
  have HB := Lib.hid hB
  have HX := Lib.hid hX
  have HRD := Lib.hid hrd
  have HAC := Lib.hid ha
  have HBD := Lib.hid bD
  have HBK := Lib.hid bK
  have HST := Lib.hid hst
  have HBS := Lib.hid bst
  have HD : Hid (D = bs.length ∧ D ≤ 1000 ∧ ks.length ≤ 12 ∧ ∀ x ∈ ks, x ≤ 12) := ⟨hD, hbs, hks, hk12⟩
  have HP : Hid (0 ≤ k3 ∧ k3 ≤ 100 ∧ 0 ≤ k4 ∧ k4 ≤ 100 ∧ 0 ≤ k5 ∧ k5 ≤ 10000 ∧ 0 ≤ k6 ∧ k6 ≤ 10000) := ⟨p3, hk3, p4, hk4, p5, hk5, p6, hk6⟩
  clear hZ hB hX hrd ha bD bK hst bst hD hbs hks hk12 h hx hu hA hc hds hR hT p1 p2 p3 p4 p5 p6 p7 hk hk1 hk2 hk3 hk4 hk5 hk6 hk7 e1 e2 e3 e4 e5 e6 e7 hq hq32 t0 t1 hd31 hs12 hm7 hs3
  go_enter Try.func31, Try.ntmps31
  go_upto_region 1 with (fail)
  rw [show (w.alloc (.cells (RulesK f k) 26)).alloc (.cells cs.toArray 58) = X from HX.out.symm]
  cases mk
  case' false =>
    obtain rfl : st = k1 := HST.out
  case' true =>
    obtain rfl : st = s3 := HST.out
  all_goals
    clear HX HST
    go_wp2_with fail
    obtain ⟨N, hN⟩ : ∃ N, N = ks.length := ⟨_, rfl⟩
    rw [← hN] at x38
    have HN := Lib.hid hN
    clear hN
    go_loop [6, 7] (fun n i => ∃ (m : Nat) (y : Int), m ≤ D ∧ i = .int .i64 (m : Nat) ∧ n = .int .u64 y ∧ Hid (y + sumD k3 k4 (bs.drop m) = st + sumD k3 k4 bs ∧ 0 ≤ y ∧ y ≤ 300000 + 100 * m)) (fun _ i => D - (intOf i).toNat)
    case atStart => exact ⟨0, st, Nat.zero_le _, rfl, rfl, rfl, HBS.out.1, by have := HBS.out.2; omega⟩
    case round =>
      obtain ⟨m, y, hm, rfl, rfl, hy⟩ := hrel
      by_cases h0 : m < D
      · have hbl := HD.out.1
        obtain ⟨b, hb⟩ : ∃ b, bs[m]? = some b := ⟨_, List.getElem?_eq_getElem (by omega)⟩
        obtain ⟨bb, oo, rfl, hlt, hcell⟩ := HRD.out.at_ (by omega)
        have hc := hcell m (by omega)
        rw [show bs.getD m 0 = b by rw [List.getD_eq_getElem?_getD, hb]; rfl] at hc
        have hdr : bs.drop m = b :: bs.drop (m + 1) := by
          rw [List.drop_eq_getElem_cons (by omega)]
          rw [List.getElem?_eq_getElem (by omega)] at hb
          injection hb with hb
          rw [hb]
        have hy1 := hy.out.1
        rw [hdr, sumD] at hy1
        have hy2 := hy.out.2
        have hp := HP.out
        have hD2 := HD.out.2.1
        by_cases h1 : b = 0
        · rw [if_pos h1] at hy1
          have e1 : ((b : Int) == 0) = true := by rw [h1]; rfl
          have HY : Hid (y + k3 + sumD k3 k4 (bs.drop (m + 1)) = st + sumD k3 k4 bs ∧ 0 ≤ y + k3 ∧ y + k3 ≤ 300000 + 100 * ((m + 1 : Nat) : Int)) := ⟨by omega, by omega, by omega⟩
          obtain ⟨y2, hy3⟩ : ∃ y2, y2 = y + k3 := ⟨_, rfl⟩
          have w1 : IntKind.u64.wrap (y + k3) = y2 := by rw [IntKind.wrap_u64]; omega
          rw [← hy3] at HY
          have hm2 : m < 1000 := by omega
          have hi1 : (m : Int) < (D : Int) := by omega
          subst h1
          clear hy hy1 hy2 hp hD2 hdr hb hcell hlt hbl hy3
          go_wp2_with fail
          go_round
          case rel => exact ⟨m + 1, y2, by omega, by go_num, rfl, HY.out⟩
          case measure => simp [intOf]; omega
        · rw [if_neg h1] at hy1
          have e1 : ((b : Int) == 0) = false := by simp; omega
          have HY : Hid (y + k4 + sumD k3 k4 (bs.drop (m + 1)) = st + sumD k3 k4 bs ∧ 0 ≤ y + k4 ∧ y + k4 ≤ 300000 + 100 * ((m + 1 : Nat) : Int)) := ⟨by omega, by omega, by omega⟩
          obtain ⟨y2, hy3⟩ : ∃ y2, y2 = y + k4 := ⟨_, rfl⟩
          have w1 : IntKind.u64.wrap (y + k4) = y2 := by rw [IntKind.wrap_u64]; omega
          rw [← hy3] at HY
          have hm2 : m < 1000 := by omega
          have hi1 : (m : Int) < (D : Int) := by omega
          clear hy hy1 hy2 hp hD2 hdr hb hcell hlt hbl hy3
          go_wp2_with fail
          go_round
          case rel => exact ⟨m + 1, y2, by omega, by go_num, rfl, HY.out⟩
          case measure => simp [intOf]; omega
      · obtain rfl : m = D := by omega
        have hy1 := hy.out.1
        rw [List.drop_eq_nil_of_le (by have := HD.out.1; omega), sumD, Int.add_zero] at hy1
        have HY1 := Lib.hid hy1
        have hd2 := HD.out.2.1
        have HY2 : Hid (0 ≤ y ∧ y ≤ 500000) := ⟨hy.out.2.1, by have := hy.out.2.2; omega⟩
        clear hy hy1 hm h0 hd2
        go_wp2_with fail
        clear x12 x37 r1 r2 r3 r4 r7 v1 v2 v3 v4 v5 v6 v7 v8
        go_loopw [6, 8] (fun n i wr => ∃ (j : Nat) (z : Int), j ≤ N ∧ i = .int .i64 (j : Nat) ∧ n = .int .u64 z ∧ Hid (z + sumK k5 k6 (ks.drop j) = y + sumK k5 k6 ks ∧ 0 ≤ z ∧ z ≤ 500000 + 200000 * j) ∧ Hid (wr.heap = X.heap ∧ Below w.heap.size w wr)) (fun _ i _ => N - (intOf i).toNat)
        case atStart => exact ⟨0, y, Nat.zero_le _, rfl, rfl, ⟨rfl, HY2.out.1, by have := HY2.out.2; omega⟩, rfl, HB.out⟩
        case round =>
          obtain ⟨j, z, hj, rfl, rfl, hz, hW⟩ := hrel
          have hh := hW.out.1
          have y38 : wr.cell? ⟨w.heap.size + 1, 38, none⟩ = some (.slice A N c) := by unfold World.cell? at x38 ⊢; rw [hh]; exact x38
          have s5 : wr.cell? ⟨w.heap.size, 5, none⟩ = some (.int .u64 k5) := by unfold World.cell? at r5 ⊢; rw [hh]; exact r5
          have s6 : wr.cell? ⟨w.heap.size, 6, none⟩ = some (.int .u64 k6) := by unfold World.cell? at r6 ⊢; rw [hh]; exact r6
          clear x38 r5 r6
          by_cases h0 : j < N
          · have hNl := HN.out
            obtain ⟨kk, hkk⟩ : ∃ kk, ks[j]? = some kk := ⟨_, List.getElem?_eq_getElem (by omega)⟩
            have hk12 := HD.out.2.2.2 kk (List.mem_of_getElem? hkk)
            rcases HAC.out with hnil | ⟨bb, oo, rfl, hlt, hcell⟩
            · rw [hnil] at hkk; simp at hkk
            obtain ⟨ad, K, c', -, -, -, hc, -, -⟩ := hcell j kk hkk
            have y20 : wr.cell? ⟨bb, oo + j * 21 + 20, none⟩ = some (.slice K kk c') := by unfold World.cell? at hc ⊢; rw [hh]; exact hc
            have hdr : ks.drop j = kk :: ks.drop (j + 1) := by
              rw [List.drop_eq_getElem_cons (by omega)]
              rw [List.getElem?_eq_getElem (by omega)] at hkk
              injection hkk with hkk
              rw [hkk]
            have hz1 := hz.out.1
            rw [hdr, sumK] at hz1
            have hz2 := hz.out.2
            have hp := HP.out
            have hN12 := HD.out.2.2.1
            have h5 : 0 ≤ k6 * (kk : Int) := Int.mul_nonneg hp.2.2.2.2.2.2.1 (by omega)
            have h6 : k6 * (kk : Int) ≤ 10000 * 12 := Int.mul_le_mul hp.2.2.2.2.2.2.2 (by omega) (by omega) (by omega)
            have w0 : IntKind.u64.wrap (kk : Int) = (kk : Int) := by rw [IntKind.wrap_u64]; omega
            have HZ2 : Hid (z + k5 + k6 * (kk : Int) + sumK k5 k6 (ks.drop (j + 1)) = y + sumK k5 k6 ks ∧ 0 ≤ z + k5 + k6 * (kk : Int) ∧ z + k5 + k6 * (kk : Int) ≤ 500000 + 200000 * ((j + 1 : Nat) : Int)) := ⟨by omega, by omega, by omega⟩
            obtain ⟨m6, hm6⟩ : ∃ x, x = k6 * (kk : Int) := ⟨_, rfl⟩
            rw [← hm6] at h5 h6 HZ2
            obtain ⟨z5, hz5⟩ : ∃ x, x = z + k5 := ⟨_, rfl⟩
            rw [← hz5] at HZ2
            obtain ⟨z6, hz6⟩ : ∃ x, x = z5 + m6 := ⟨_, rfl⟩
            rw [← hz6] at HZ2
            have w1 : IntKind.u64.wrap (z + k5) = z5 := by rw [IntKind.wrap_u64]; omega
            have w2 : IntKind.u64.wrap (k6 * (kk : Int)) = m6 := by rw [IntKind.wrap_u64, ← hm6]; omega
            have w3 : IntKind.u64.wrap (z5 + m6) = z6 := by rw [IntKind.wrap_u64]; omega
            have hj12 : j < 12 := by omega
            have hi1 : (j : Int) < (N : Int) := by omega
            have HWB := Lib.hid hW.out.2
            have HH := Lib.hid hh
            clear hz hz1 hz2 hp hN12 h5 h6 hdr hkk hk12 hlt hcell hc hNl hW hh hm6 hz5 hz6
            go_upto_region 13 with (fail)
            go_quiet (fail)
            go_wp2_with fail
            go_roundw
            case rel => exact ⟨j + 1, z6, by omega, by go_num, rfl, HZ2.out, ⟨HH.out, HWB.out.trans ⟨rfl, rfl, rfl, Nat.le_refl _, fun _ _ => rfl⟩⟩⟩
            case measure => simp [intOf]; omega
          · obtain rfl : j = N := by omega
            have hz1 := hz.out.1
            rw [List.drop_eq_nil_of_le (by have := HN.out; omega), sumK, Int.add_zero] at hz1
            have hzz : z = Z := by have h1 := HY1.out; have h2 := HZ.out; omega
            have HWB := Lib.hid hW.out.2
            subst hzz
            clear hz hz1 hj h0 hW hh
            go_wp2_with fail
            exact bodyPost_ret (v := .tuple #[.int .u64 z, .bool true]) (by simp [results, Try.results31, go_sem]) rfl ⟨rfl, HWB.out⟩
end Go.Proofs.Ytiflfcdegpmhnaa
namespace Go.Proofs.Ytiflfcdegpmhnaa
open Go.RowKit

theorem gs_step_append {P : Program} {ops : Array Oper} {o : Oper} {a : Act} {w : World} {K : Act → World → Prop} {Q : Exit → Act → World → Prop} {E : Prop} (hgd : o.guard = none) (s x : Operand) (t : TypeId)
    (ho : o.op = .call { callee := .builtin .append, args := #[s, x], argTypes := #[t, t] })
    (base : Nat) (e : TypeId) (i : TypeInfo) (z : Value) (size bytes : Nat) (ht : P.underlying t = some (.slice e)) (hi : P.info? e = some i) (hz : i.zero = some z)
    (hsize : i.size = size) (hby : i.bytes = bytes) (hzs : z.cells.size = size) (hsz : 0 < size)
    (v : Value) (n : Nat) (xs : List Value) (hs : a.eval s = v) (hown : w.ownsRow base e size v n xs)
    (ad : Addr) (m c : Nat) (news : List Value) (hx : a.eval x = .slice (some ad) m c) (hl : news.length = m * size) (hnews : ∀ j u, news[j]? = some u → w.cell? (ad.add j) = some u) (h1 : ∀ u ∈ news, u.oneCell' = true)
    (h63 : n + m ≤ maxLen) (hbytes : (n + m) * bytes ≤ 140737488355328) (hbase : base ≤ w.heap.size)
    (h : ∀ v' w', w'.ownsRow base e size v' (n + m) (xs ++ news) → w.grownBy w' v.ownBlock → (v' = .slice none 0 0 ↔ v = .slice none 0 0 ∧ m = 0) → (v'.ownBlock = v.ownBlock ∨ v'.ownBlock = some w.heap.size) → K (a.put o.dst v') w') :
    if Region.wanted o (yielded ops a.tmps) = true then o.wp P a w K Q else E := by
  have hw : Region.wanted o (yielded ops a.tmps) = true := by simp [Region.wanted, hgd]
  rw [if_pos hw]
  obtain ⟨v', w', hr, h2, h3, h4, h5⟩ := run_append_own_at (P := P) w base t o.type e i z size bytes ht hi hz hsize hby hzs hsz v n xs hown ad m c news hl hnews h1 h63 hbytes hbase
  unfold Oper.wp execOp
  simp only [ho, resolve, invoke, builtin, Sem.run_bind, Sem.run_pure, Result.andThen_ok, List.map_toArray, List.map_cons, List.map_nil, hs, hx, hr]
  exact h v' w' h2 h3 h4 h5

theorem gs_step_call1 {ops : Array Oper} {o : Oper} {a : Act} {w : World} {K : Act → World → Prop} {Q : Exit → Act → World → Prop} {E : Prop} (hgd : o.guard = none) (f : FuncId) (x : Operand) {tys : Array TypeId}
    (ho : o.op = .call { callee := .value (.func f), args := #[x], argTypes := tys }) (he : ∀ args w, (callFunc f args).run Try.prog w = .ok (.enter f args) w) {R : Ending → World → Prop} (args : Array Value) (ha : #[a.eval x] = args)
    (h : Calls Try.prog f args w R) (hR : ∀ e w', R e w' → ∃ v, e = .returned v ∧ K (a.put o.dst v) w') : if Region.wanted o (yielded ops a.tmps) = true then o.wp Try.prog a w K Q else E := by
  have hw : Region.wanted o (yielded ops a.tmps) = true := by simp [Region.wanted, hgd]
  rw [if_pos hw]
  subst ha
  have e : (execOp a.eval o).run Try.prog w = .ok (.enter f #[a.eval x]) w := by
    have hp : a.eval (.func f) = .func (.func f) #[] #[] := rfl
    have e := he #[a.eval x] w
    clear h hw hR
    generalize a.eval = p at *
    unfold execOp
    rw [ho]
    go_simp
  unfold Oper.wp
  rw [e]
  refine h.mono fun e w' hr => ?_
  obtain ⟨v, rfl, hk⟩ := hR e w' hr
  exact hk
theorem en_gsKeys (args : Array Value) (w : World) : (callFunc 55 args).run Try.prog w = .ok (.enter 55 args) w := by go_simp
theorem infoTx : (Try.prog.info? 58).map (·.size) = some 53 := by kernel_rfl
theorem infoAdr : (Try.prog.info? 53).map (·.size) = some 20 := by kernel_rfl
theorem infoAcc : (Try.prog.info? 88).map (fun i => (i.zero, i.size, i.bytes)) = some (some (.agg ([.int .u8 0, .int .u8 0, .int .u8 0, .int .u8 0, .int .u8 0, .int .u8 0, .int .u8 0, .int .u8 0, .int .u8 0, .int .u8 0, .int .u8 0, .int .u8 0, .int .u8 0, .int .u8 0, .int .u8 0, .int .u8 0, .int .u8 0, .int .u8 0, .int .u8 0, .int .u8 0, .slice none 0 0] : List Value).toArray), 21, 48) := by kernel_rfl
/-- At most twelve. -/
def mn (k : Nat) : Nat := if 12 < k then 12 else k
/-- No transaction, in cells. -/
def Tx0 : Array Value := #[.int .i64 0, .int .u64 0, .int .u64 0, .int .u64 0, .int .u64 0, .int .u64 0, .int .u64 0, .int .u64 0, .int .u64 0, .int .u64 0, .int .u64 0, .int .u64 0, .bool false, .int .u8 0, .int .u8 0, .int .u8 0, .int .u8 0, .int .u8 0, .int .u8 0, .int .u8 0, .int .u8 0, .int .u8 0, .int .u8 0, .int .u8 0, .int .u8 0, .int .u8 0, .int .u8 0, .int .u8 0, .int .u8 0, .int .u8 0, .int .u8 0, .int .u8 0, .int .u8 0, .int .u64 0, .int .u64 0, .int .u64 0, .int .u64 0, .slice none 0 0, .slice none 0 0, .int .u64 0, .int .u64 0, .int .u64 0, .int .u64 0, .slice none 0 0, .bool false, .int .u64 0, .int .u64 0, .int .u64 0, .int .u64 0, .int .u64 0, .int .u64 0, .int .u64 0, .int .u64 0]
theorem tx0_size : Tx0.size = 53 := rfl
theorem gs_newRow {w : World} {t : TypeId} (l : List Value) : ∀ (j : Nat) (u : Value), l[j]? = some u → (w.alloc (.cells l.toArray t)).cell? ((⟨w.heap.size, 0, none⟩ : Addr).add j) = some u := by
  intro j u hj
  rw [Addr.add_mid, Nat.zero_add, cell_of_row _ _ j _ t (0, 0) (heap_alloc_new w _), List.getElem?_toArray]
  exact hj
theorem gs_form {w : World} {base size n : Nat} {t : TypeId} {v : Value} {us : List Value} (h : w.ownsRow base t size v n us) : ∃ A c, v = .slice A n c := by
  rcases h.2 with ⟨e, h0⟩ | ⟨g, cap, cur, e, _⟩
  · exact ⟨none, 0, by rw [e, h0]⟩
  · exact ⟨_, _, e⟩
theorem gs_load20 {w : World} {b q : Nat} (l : List Value) (hl : l.length = 20) (h : ∀ (i : Nat) (u : Value), l[i]? = some u → w.cell? ⟨b, q + i, none⟩ = some u) : (loadCellsFrom ⟨b, q, none⟩ 0 20 #[]).run Try.prog w = .ok l.toArray w := by
  have := run_loadCells_list (P := Try.prog) w ⟨b, q, none⟩ l (fun j v hv => by rw [Addr.add_mid]; exact h j v hv)
  rw [hl] at this
  exact this
theorem accS_keep {w w2 : World} {g b o q N c kk c' : Nat} {K : Option Addr} {ad : List Value} (h : w.cell? ⟨g, 38, none⟩ = some (.slice (some ⟨b, o, none⟩) N c) ∧ w.cell? ⟨b, q + 20, none⟩ = some (.slice K kk c') ∧ w.rangeAt b q ad) (hk : ∀ k, (k = g ∨ k = b) → w2.heap[k]? = w.heap[k]?) : w2.cell? ⟨g, 38, none⟩ = some (.slice (some ⟨b, o, none⟩) N c) ∧ w2.cell? ⟨b, q + 20, none⟩ = some (.slice K kk c') ∧ w2.rangeAt b q ad :=
  ⟨(World.cell?_of_block (w := w) (w' := w2) (a := ⟨g, _, none⟩) (hk g (.inl rfl))).trans h.1, (World.cell?_of_block (w := w) (w' := w2) (a := ⟨b, _, none⟩) (hk b (.inr rfl))).trans h.2.1, fun i u hi => (World.cell?_of_block (w := w) (w' := w2) (a := ⟨b, _, none⟩) (hk b (.inr rfl))).trans (h.2.2 i u hi)⟩
theorem one_snoc (l : List Value) (h : ∀ u ∈ l, u.oneCell' = true) (v : Value) (hv : v.oneCell' = true) : ∀ u ∈ l ++ [v], u.oneCell' = true := fun u hu => by
  rcases List.mem_append.1 hu with h1 | h1
  · exact h u h1
  · rw [List.mem_singleton] at h1; rw [h1]; exact hv
/-- The accounts told so far, with their places. -/
def AccRow (B : Nat) (w : World) (v : Value) (j : Nat) (us : List Value) (ks : List Nat) : Prop := w.ownsRow B 88 21 v j us ∧ (∀ u ∈ us, u.oneCell' = true) ∧ ∀ i k, i < j → ks[i]? = some k → ∃ K c xs, us[i * 21 + 20]? = some (.slice K (mn k) c) ∧ mn k ≤ c ∧ w.ownsRow B 142 32 (.slice K (mn k) c) (mn k) xs ∧ ∀ u ∈ xs, u.oneCell' = true

set_option maxRecDepth 100000 in
set_option maxHeartbeats 25600000 in
theorem txTwin_c {cs : List Value} {mk : Bool} {bs ks : List Nat} (w : World) (h : TxT w cs mk bs ks) :
    Calls Try.prog 29 #[.agg cs.toArray] w fun e w' => ∃ cs', e = .returned (.agg cs'.toArray) ∧ TxT w' cs' mk (bs.take 800) ((ks.take 12).map mn) ∧ Below w.heap.size w w' := by
  have hinfo := infoAcc
  obtain ⟨i0, hi, he⟩ := Option.map_eq_some_iff.1 hinfo
  obtain ⟨hz0, hz1, hz2⟩ : i0.zero = some (.agg ([.int .u8 0, .int .u8 0, .int .u8 0, .int .u8 0, .int .u8 0, .int .u8 0, .int .u8 0, .int .u8 0, .int .u8 0, .int .u8 0, .int .u8 0, .int .u8 0, .int .u8 0, .int .u8 0, .int .u8 0, .int .u8 0, .int .u8 0, .int .u8 0, .int .u8 0, .int .u8 0, .slice none 0 0] : List Value).toArray) ∧ i0.size = 21 ∧ i0.bytes = 48 := by
    injection he with h1 h2
    injection h2 with h2 h3
    exact ⟨h1, h2, h3⟩
  clear hinfo he
  obtain ⟨u, hu, A0, c0, rfl, hrd, hds⟩ := h.data
  obtain ⟨A, c, hA, ha, hc⟩ := h.acc
  obtain ⟨BB, nB, cB, hBB, hbr, hbm⟩ := h.blobs
  obtain ⟨X, hX⟩ : ∃ X, X = (w.alloc (.cells cs.toArray 58)).alloc (.cells Tx0 58) := ⟨_, rfl⟩
  have hg1 : X.heap[w.heap.size]? = some (.cells cs.toArray 58 (0, 0)) := by
    rw [hX, Below.heap_alloc _ _ _ (by simp)]; exact heap_alloc_new w _
  have hg2 : X.heap[w.heap.size + 1]? = some (.cells Tx0 58 (0, 0)) := by
    rw [hX]
    have := heap_alloc_new (w.alloc (.cells cs.toArray 58)) (.cells Tx0 58)
    rw [show (w.alloc (.cells cs.toArray 58)).heap.size = w.heap.size + 1 by simp] at this; exact this
  have hB : Below w.heap.size w X := by rw [hX]; exact ((Below.refl _ _).alloc (Nat.le_refl _) _).alloc (by simp) _
  have hsz : X.heap.size = w.heap.size + 2 := by rw [hX]; simp
  have KT : Hid (Calls Try.prog 54 #[.slice A0 bs.length c0, .int .i64 800] X (RetR (fun w' v => OwnB X.heap.size w' v (bs.take 800)) X)) := twin_o X (hrd.below hB) hds 800 (by omega) (by omega)
  have x37 : X.cell? ⟨w.heap.size, 37, none⟩ = some (.slice A0 bs.length c0) := by rw [cell_of_row _ _ 37 _ _ (0, 0) hg1, List.getElem?_toArray]; exact hu
  obtain ⟨D, hD⟩ : ∃ D, D = bs.length := ⟨_, rfl⟩
  rw [← hD] at KT x37
  have HT := Lib.hid h
  have HG1 := Lib.hid hg1
  have HG2 := Lib.hid hg2
  have HB := Lib.hid hB
  have HSZ := Lib.hid hsz
  have HAC : Hid (cs[38]? = some (.slice A ks.length c) ∧ AccAt w A ks ∧ ks.length ≤ c) := ⟨hA, ha, hc⟩
  have HBL : Hid (cs[43]? = some (.slice BB nB cB) ∧ RowAt w BB 32 nB ∧ nB ≤ cB) := ⟨hBB, hbr, hbm⟩
  have HX := Lib.hid hX
  clear h hu hrd hds hA ha hc hBB hbr hbm hX hg1 hg2 hB hsz hD
  go_enter Try.func29, Try.ntmps29
  go_upto_region 1 with (fail)
  rw [show (w.alloc (.cells cs.toArray 58)).alloc (.cells #[.int .i64 0, .int .u64 0, .int .u64 0, .int .u64 0, .int .u64 0, .int .u64 0, .int .u64 0, .int .u64 0, .int .u64 0, .int .u64 0, .int .u64 0, .int .u64 0, .bool false, .int .u8 0, .int .u8 0, .int .u8 0, .int .u8 0, .int .u8 0, .int .u8 0, .int .u8 0, .int .u8 0, .int .u8 0, .int .u8 0, .int .u8 0, .int .u8 0, .int .u8 0, .int .u8 0, .int .u8 0, .int .u8 0, .int .u8 0, .int .u8 0, .int .u8 0, .int .u8 0, .int .u64 0, .int .u64 0, .int .u64 0, .int .u64 0, .slice none 0 0, .slice none 0 0, .int .u64 0, .int .u64 0, .int .u64 0, .int .u64 0, .slice none 0 0, .bool false, .int .u64 0, .int .u64 0, .int .u64 0, .int .u64 0, .int .u64 0, .int .u64 0, .int .u64 0, .int .u64 0] 58) = X from HX.out.symm]
  clear HX
  go_wp2_with fail
  (with_reducible refine KT.out.mono ?_)
  rintro e1 w1 ⟨v1, rfl, hv1, hb1⟩
  have hg1 := (hb1.block w.heap.size (by have := HSZ.out; omega)).trans HG1.out
  have hg2 := (hb1.block (w.heap.size + 1) (by have := HSZ.out; omega)).trans HG2.out
  have hB1 := HB.out.trans (hb1.mono HB.out.size)
  have y37 : w1.cell? ⟨w.heap.size, 37, none⟩ = some (.slice A0 D c0) := (hb1.cell (p := ⟨w.heap.size, 37, none⟩) (by have := HSZ.out; show w.heap.size < _; omega)).trans x37
  have f37 : w1.frozen? ⟨w.heap.size, 37, none⟩ = false := frozen_of_row _ _ _ _ _ hg1
  obtain ⟨A1, c1, E, hE, rfl⟩ : ∃ A1 c1 E, E = (bs.take 800).length ∧ v1 = .slice A1 E c1 := by
    obtain ⟨A1, c1, e⟩ := hv1.1.form
    exact ⟨A1, c1, _, rfl, e⟩
  obtain ⟨cs1, hcs1⟩ : ∃ cs1, cs1 = cs.set 37 (.slice A1 E c1) := ⟨_, rfl⟩
  have hg1' : (w1.setCell ⟨w.heap.size, 37, none⟩ (.slice A1 E c1)).heap[w.heap.size]? = some (.cells cs1.toArray 58 (0, 0)) := by
    rw [heap_setCell_same w1 w.heap.size 37 _ _ _ hg1, List.setIfInBounds_toArray, hcs1]
  have hg2' : (w1.setCell ⟨w.heap.size, 37, none⟩ (.slice A1 E c1)).heap[w.heap.size + 1]? = some (.cells Tx0 58 (0, 0)) := by
    rw [Below.heap_setCell _ ⟨w.heap.size, 37, none⟩ _ _ (by simp)]; exact hg2
  have hB1' := hB1.setCell (p := ⟨w.heap.size, 37, none⟩) (Nat.le_refl _) (.slice A1 E c1)
  have hBY : OwnB (w.heap.size + 2) (w1.setCell ⟨w.heap.size, 37, none⟩ (.slice A1 E c1)) (.slice A1 E c1) (bs.take 800) := by
    rw [HSZ.out] at hv1
    exact ⟨hv1.1.move (by simp [World.setCell]) fun k hk => Below.heap_setCell _ ⟨w.heap.size, 37, none⟩ _ _ (by have := hv1.2 k hk; show k ≠ w.heap.size; omega), hv1.2⟩
  have hs2 : w.heap.size + 2 ≤ (w1.setCell ⟨w.heap.size, 37, none⟩ (.slice A1 E c1)).heap.size := by have := hb1.size; have := HSZ.out; simp [World.setCell]; omega
  have HE := Lib.hid hE
  have HCS1 := Lib.hid hcs1
  clear KT x37 hb1 hg1 hg2 hB1 HG1 HG2 HB hv1 hE hcs1
  go_upto_region 3 with (fail)
  generalize w1.setCell ⟨w.heap.size, 37, none⟩ (.slice A1 E c1) = W2 at *
  have HG1 := Lib.hid hg1'
  have HG2 := Lib.hid hg2'
  have HB := Lib.hid hB1'
  have HBY := Lib.hid hBY
  have HS2 := Lib.hid hs2
  clear hg1' hg2' hB1' hBY hs2 y37 f37 HSZ
  obtain ⟨N, hN⟩ : ∃ N, N = ks.length := ⟨_, rfl⟩
  have HN := Lib.hid hN
  clear hN
  obtain ⟨M, hM⟩ : ∃ M, M = if N ≤ 12 then N else 12 := ⟨_, rfl⟩
  have HM := Lib.hid hM
  clear hM
  have HGN : Hid (∀ wr, Below W2.heap.size W2 wr → wr.cell? ⟨w.heap.size, 38, none⟩ = some (.slice A N c)) := fun wr hb => by
    have h1 := (hb.block w.heap.size (by have := HS2.out; omega)).trans HG1.out
    rw [cell_of_row _ _ 38 _ _ (0, 0) h1, List.getElem?_toArray, HCS1.out, List.getElem?_set_ne (by omega), HN.out]
    exact HAC.out.1
  go_wp2_with fail
  go_loopw [3, 4] (fun l i wr => ∃ (j : Nat) (us : List Value), j ≤ M ∧ i = .int .i64 (j : Nat) ∧ Hid (AccRow W2.heap.size wr l j us ks ∧ Below W2.heap.size W2 wr)) (fun _ i _ => M - (intOf i).toNat)
  case atStart => exact ⟨0, [], Nat.zero_le _, rfl, ⟨⟨rfl, .inl ⟨rfl, rfl⟩⟩, (fun u hu => by cases hu), fun i k hi => by omega⟩, Below.refl _ _⟩
  case round =>
    obtain ⟨j, us, hj, rfl, hh⟩ := hrel
    obtain ⟨AL, cL, rfl⟩ := gs_form hh.out.1.1
    have x38 := HGN.out wr hh.out.2
    by_cases h0 : j < M
    · have hMM := HM.out
      have hNN := HN.out
      have i1 : (j : Int) < (N : Int) := by split at hMM <;> omega
      have i2 : (j : Int) < 12 := by split at hMM <;> omega
      obtain ⟨kk, hkk⟩ : ∃ kk, ks[j]? = some kk := ⟨_, List.getElem?_eq_getElem (by omega)⟩
      have hbw : Below w.heap.size w wr := HB.out.trans (hh.out.2.mono (by have := HS2.out; omega))
      rcases HAC.out.2.1 with hnil | ⟨b, o, rfl, hlt0, hcell0⟩
      · rw [hnil] at hkk; simp at hkk
      obtain ⟨ad, K, c', had, hone, hcl0, hsl0, hkc, hrow0⟩ := hcell0 j kk hkk
      have hlt := Nat.lt_of_lt_of_le hlt0 hbw.size
      have hcl : ∀ (q : Nat) (u : Value), ad[q]? = some u → wr.cell? ⟨b, o + j * 21 + q, none⟩ = some u := fun q u hq => (hbw.cell (p := ⟨b, _, none⟩) hlt0).trans (hcl0 q u hq)
      have hsl := (hbw.cell (p := ⟨b, o + j * 21 + 20, none⟩) hlt0).trans hsl0
      have hrow := hrow0.below hbw
      match ad, had with
      | [a0, a1, a2, a3, a4, a5, a6, a7, a8, a9, a10, a11, a12, a13, a14, a15, a16, a17, a18, a19], _ =>
      have hS0 : (fun W' : World => W'.cell? ⟨w.heap.size, 38, none⟩ = some (.slice (some ⟨b, o, none⟩) N c) ∧ W'.cell? ⟨b, o + j * 21 + 20, none⟩ = some (.slice K kk c') ∧ W'.rangeAt b (o + j * 21) [a0, a1, a2, a3, a4, a5, a6, a7, a8, a9, a10, a11, a12, a13, a14, a15, a16, a17, a18, a19]) wr := ⟨x38, hsl, hcl⟩
      have HS0 : Hid ((fun W' : World => W'.cell? ⟨w.heap.size, 38, none⟩ = some (.slice (some ⟨b, o, none⟩) N c) ∧ W'.cell? ⟨b, o + j * 21 + 20, none⟩ = some (.slice K kk c') ∧ W'.rangeAt b (o + j * 21) [a0, a1, a2, a3, a4, a5, a6, a7, a8, a9, a10, a11, a12, a13, a14, a15, a16, a17, a18, a19]) wr.drew) := hS0
      have C : Hid (Calls Try.prog 55 #[.slice K kk c'] wr.drew (KeysR kk wr.drew)) := keys_c wr.drew (hrow.below (Below.refl wr.heap.size wr).drew) hkc
      have HONE := Lib.hid hone
      have HKK := Lib.hid hkk
      have HJ : Hid (j < M ∧ j < 12 ∧ W2.heap.size ≤ wr.heap.size) := ⟨h0, by omega, hh.out.2.size⟩
      have HGB : Hid (w.heap.size < W2.heap.size ∧ b < W2.heap.size) := ⟨by have := HS2.out; omega, by have := HS2.out; omega⟩
      have HBLT : Hid (b < wr.heap.size ∧ w.heap.size < wr.heap.size) := ⟨hlt, by have := hh.out.2.size; have := HS2.out; omega⟩
      have hs20 := hsl
      clear hMM hNN hkk hbw hlt hlt0 hcell0 hcl0 hsl0 hrow0 hcl hS0 hs20 hsl hone hrow hkc h0
      have hown := hh.out.1.1
      have HOW := Lib.hid hown
      have HUS := Lib.hid hh.out.1.2.1
      have HKR := Lib.hid hh.out.1.2.2
      have HBW := Lib.hid hh.out.2
      have HXL : Hid (∀ g, (Value.slice AL j cL).ownBlock = some g → W2.heap.size ≤ g ∧ g < wr.heap.size) := fun g hg => own_lt hown hg
      clear hown hh
      go_upto_region 6 with (fail)
      clear x38
      have hUA := Try.underlying53
      have hIA : (Try.prog.info? 53).map (·.size) = some ([a0, a1, a2, a3, a4, a5, a6, a7, a8, a9, a10, a11, a12, a13, a14, a15, a16, a17, a18, a19] : List Value).length := infoAdr
      go_region_held3 (fun W' => W'.cell? ⟨w.heap.size, 38, none⟩ = some (.slice (some ⟨b, o, none⟩) N c) ∧ W'.cell? ⟨b, o + j * 21 + 20, none⟩ = some (.slice K kk c') ∧ W'.rangeAt b (o + j * 21) [a0, a1, a2, a3, a4, a5, a6, a7, a8, a9, a10, a11, a12, a13, a14, a15, a16, a17, a18, a19])
        (first | exact HS0.out | exact HS5.out | exact HS6.out | exact HS7.out)
        (first
        | (refine gs_step_call1 rfl 55 (.tmp 32) rfl en_gsKeys _ rfl C.out ?_
           rintro e w5 ⟨K5, c5, xs5, rfl, ho5, hone5, hm5, hb5⟩
           refine ⟨_, rfl, ?_⟩
           have HO5 := Lib.hid ho5
           have HN5 := Lib.hid hone5
           have HM5 := Lib.hid hm5
           have HB5 := Lib.hid hb5
           have hw5 : W2.heap.size ≤ w5.heap.size := Nat.le_trans HJ.out.2.2 hb5.size
           have HOW5 := Lib.hid (own_keep (w' := w5) HOW.out fun g hg => hb5.block g (HXL.out g hg).2)
           have HW5 := Lib.hid hw5
           have HS5 : Hid ((fun W' : World => W'.cell? ⟨w.heap.size, 38, none⟩ = some (.slice (some ⟨b, o, none⟩) N c) ∧ W'.cell? ⟨b, o + j * 21 + 20, none⟩ = some (.slice K kk c') ∧ W'.rangeAt b (o + j * 21) [a0, a1, a2, a3, a4, a5, a6, a7, a8, a9, a10, a11, a12, a13, a14, a15, a16, a17, a18, a19]) w5) := accS_keep HS0.out fun k hk => hb5.block k (by have := HBLT.out; rcases hk with rfl | rfl <;> first | exact this.2 | exact this.1)
           have HS6 : Hid ((fun W' : World => W'.cell? ⟨w.heap.size, 38, none⟩ = some (.slice (some ⟨b, o, none⟩) N c) ∧ W'.cell? ⟨b, o + j * 21 + 20, none⟩ = some (.slice K kk c') ∧ W'.rangeAt b (o + j * 21) [a0, a1, a2, a3, a4, a5, a6, a7, a8, a9, a10, a11, a12, a13, a14, a15, a16, a17, a18, a19]) (w5.alloc (.cells ([a0, a1, a2, a3, a4, a5, a6, a7, a8, a9, a10, a11, a12, a13, a14, a15, a16, a17, a18, a19, .slice K5 (if 12 < kk then 12 else kk) c5] : List Value).toArray 88))) := accS_keep HS5.out fun k hk => Below.heap_alloc _ _ _ (by have := HBLT.out; have := HB5.out.size; have h9 : wr.drew.heap.size = wr.heap.size := rfl; rcases hk with rfl | rfl <;> omega)
           clear ho5 hone5 hm5 hb5 hw5)
        | (refine gs_step_append rfl (.tmp 20) (.tmp 35) 55 rfl W2.heap.size 88 i0 (.agg ([.int .u8 0, .int .u8 0, .int .u8 0, .int .u8 0, .int .u8 0, .int .u8 0, .int .u8 0, .int .u8 0, .int .u8 0, .int .u8 0, .int .u8 0, .int .u8 0, .int .u8 0, .int .u8 0, .int .u8 0, .int .u8 0, .int .u8 0, .int .u8 0, .int .u8 0, .int .u8 0, .slice none 0 0] : List Value).toArray) 21 48 Try.underlying55 hi hz0 hz1 hz2 (by simp [Value.cells]) (by decide) (.slice AL j cL) j us rfl (own_keep HOW5.out fun g hg => Below.heap_alloc _ _ _ (own_lt HOW5.out hg).2) ⟨w5.heap.size, 0, none⟩ 1 1 [a0, a1, a2, a3, a4, a5, a6, a7, a8, a9, a10, a11, a12, a13, a14, a15, a16, a17, a18, a19, .slice K5 (if 12 < kk then 12 else kk) c5] rfl rfl (gs_newRow _) (one_snoc [a0, a1, a2, a3, a4, a5, a6, a7, a8, a9, a10, a11, a12, a13, a14, a15, a16, a17, a18, a19] HONE.out _ rfl) (by have := HJ.out; unfold maxLen; omega) (by have := HJ.out; omega) (by have := HW5.out; simp; omega) ?_
           intro v' w7 hown hg _ hat
           obtain ⟨A7, c7, rfl⟩ := gs_form hown
           have HO7 := Lib.hid hown
           have HG7 := Lib.hid hg
           have HAT := Lib.hid hat
           have HS7 : Hid ((fun W' : World => W'.cell? ⟨w.heap.size, 38, none⟩ = some (.slice (some ⟨b, o, none⟩) N c) ∧ W'.cell? ⟨b, o + j * 21 + 20, none⟩ = some (.slice K kk c') ∧ W'.rangeAt b (o + j * 21) [a0, a1, a2, a3, a4, a5, a6, a7, a8, a9, a10, a11, a12, a13, a14, a15, a16, a17, a18, a19]) w7) := accS_keep HS6.out fun k hk => HG7.out.block k (by have := HBLT.out; have := HB5.out.size; have h9 : wr.drew.heap.size = wr.heap.size := rfl; simp; rcases hk with rfl | rfl <;> omega) (fun e => by have h8 := HXL.out k e.symm; have h9 := HGB.out; rcases hk with rfl | rfl <;> omega)
           clear hown hg hat))
      have hlen : us.length = j * 21 := HOW.out.1
      have hb5 : Below wr.heap.size wr w5 := (Below.refl wr.heap.size wr).drew.trans HB5.out
      have hb6 : Below w5.heap.size w5 (w5.alloc (.cells ([a0, a1, a2, a3, a4, a5, a6, a7, a8, a9, a10, a11, a12, a13, a14, a15, a16, a17, a18, a19, .slice K5 (if 12 < kk then 12 else kk) c5] : List Value).toArray 88)) := (Below.refl _ _).alloc (Nat.le_refl _) _
      have hj := HJ.out
      have hw5 := HW5.out
      have hs5 := hb5.size
      have hbw7 : Below W2.heap.size W2 w7 := ((HBW.out.trans (hb5.mono hj.2.2)).trans (hb6.mono hw5)).grown HG7.out (by have := hb6.size; omega) (fun k hk => (HXL.out k hk).1)
      have hold : ∀ g, g < wr.heap.size → (Value.slice AL j cL).ownBlock ≠ some g → w7.heap[g]? = wr.heap[g]? := fun g hg hne =>
        (HG7.out.block g (by have := hb6.size; omega) (fun e => hne e.symm)).trans ((hb6.block g (by omega)).trans (hb5.block g hg))
      have hnew : ∀ g, wr.heap.size ≤ g → g < w5.heap.size → w7.heap[g]? = w5.heap[g]? := fun g hg hl =>
        (HG7.out.block g (by have := hb6.size; omega) (fun e => by have := HXL.out g e.symm; omega)).trans (hb6.block g hl)
      have hrel : AccRow W2.heap.size w7 (.slice A7 (j + 1) c7) (j + 1) (us ++ [a0, a1, a2, a3, a4, a5, a6, a7, a8, a9, a10, a11, a12, a13, a14, a15, a16, a17, a18, a19, .slice K5 (if 12 < kk then 12 else kk) c5]) ks := by
        refine ⟨HO7.out, fun u hu => ?_, fun i k hi hk => ?_⟩
        · rcases List.mem_append.1 hu with h1 | h1
          · exact HUS.out u h1
          · exact one_snoc [a0, a1, a2, a3, a4, a5, a6, a7, a8, a9, a10, a11, a12, a13, a14, a15, a16, a17, a18, a19] HONE.out _ rfl u h1
        · by_cases hij : i < j
          · obtain ⟨K1, d1, ys, e1, e2, e3, e4⟩ := HKR.out i k hij hk
            refine ⟨K1, d1, ys, by rw [List.getElem?_append_left (by omega)]; exact e1, e2, own_keep e3 fun g hg => hold g (own_lt e3 hg).2 (own_apart e3 HOW.out (by decide) hg), e4⟩
          · obtain rfl : i = j := by omega
            have hkk : kk = k := by have h1 := HKK.out; rw [hk] at h1; injection h1 with h1; exact h1.symm
            subst hkk
            have e3 := own_base HO5.out (base' := W2.heap.size) hj.2.2
            refine ⟨K5, c5, xs5, ?_, HM5.out, own_keep e3 fun g hg => hnew g (own_lt HO5.out hg).1 (own_lt HO5.out hg).2, HN5.out⟩
            rw [List.getElem?_append_right (by omega), hlen, show i * 21 + 20 - i * 21 = 20 by omega]
            rfl
      have HREL := Lib.hid hrel
      have HBW7 := Lib.hid hbw7
      have ej : IntKind.i64.wrap ((j : Int) + 1) = (j : Int) + 1 := IntWalk.i64_in _ (by omega)
      clear hlen hb5 hb6 hj hw5 hs5 hbw7 hold hnew hrel
      go_simp
      go_wp2_with fail
      exact ⟨⟨j + 1, _, by have := HJ.out; omega, by simp, HREL.out, HBW7.out⟩, by have := HJ.out; simp [intOf]; omega⟩
    · have hjM : j = M := by omega
      have hMM := HM.out
      have hjj : ¬ ((j : Int) < (N : Int)) ∨ ((j : Int) < (N : Int) ∧ ¬ ((j : Int) < 12)) := by
        by_cases h : (j : Int) < (N : Int)
        · exact .inr ⟨h, by split at hMM <;> omega⟩
        · exact .inl h
      have hAR := hh.out.1
      have hbr := hh.out.2
      have hbw : Below w.heap.size w wr := HB.out.trans (hbr.mono (by have := HS2.out; omega))
      have hs2 := HS2.out
      have hg1 := (hbr.block w.heap.size (by omega)).trans HG1.out
      have hg2 := (hbr.block (w.heap.size + 1) (by omega)).trans HG2.out
      have f38 : wr.frozen? ⟨w.heap.size, 38, none⟩ = false := frozen_of_row _ _ _ _ _ hg1
      obtain ⟨cs2, hcs2⟩ : ∃ cs2, cs2 = cs1.set 38 (.slice AL j cL) := ⟨_, rfl⟩
      have ga1 : (wr.setCell ⟨w.heap.size, 38, none⟩ (.slice AL j cL)).heap[w.heap.size]? = some (.cells cs2.toArray 58 (0, 0)) := by
        rw [heap_setCell_same wr w.heap.size 38 _ _ _ hg1, List.setIfInBounds_toArray, hcs2]
      have hoth : ∀ k, k ≠ w.heap.size → (wr.setCell ⟨w.heap.size, 38, none⟩ (.slice AL j cL)).heap[k]? = wr.heap[k]? := fun k hk => Below.heap_setCell _ ⟨w.heap.size, 38, none⟩ _ _ hk
      have hsa : (wr.setCell ⟨w.heap.size, 38, none⟩ (.slice AL j cL)).heap.size = wr.heap.size := by simp [World.setCell]
      have hba := hbw.setCell (p := ⟨w.heap.size, 38, none⟩) (Nat.le_refl _) (.slice AL j cL)
      have a43 : (wr.setCell ⟨w.heap.size, 38, none⟩ (.slice AL j cL)).cell? ⟨w.heap.size, 43, none⟩ = some (.slice BB nB cB) := by
        rw [cell_of_row _ _ 43 _ _ (0, 0) ga1, List.getElem?_toArray, hcs2, List.getElem?_set_ne (by omega), HCS1.out, List.getElem?_set_ne (by omega)]
        exact HBL.out.1
      have hK := keys_c (wr.setCell ⟨w.heap.size, 38, none⟩ (.slice AL j cL)) (HBL.out.2.1.below hba) HBL.out.2.2
      have HK := Lib.hid hK
      have HWA : Hid ((∀ k, k ≠ w.heap.size → (wr.setCell ⟨w.heap.size, 38, none⟩ (.slice AL j cL)).heap[k]? = wr.heap[k]?) ∧ (wr.setCell ⟨w.heap.size, 38, none⟩ (.slice AL j cL)).heap.size = wr.heap.size) := ⟨hoth, hsa⟩
      have HGA1 := Lib.hid ga1
      have HBA := Lib.hid hba
      have HCS2 := Lib.hid hcs2
      have HAR := Lib.hid hAR
      have HBR := Lib.hid hbr
      have HWG2 := Lib.hid hg2
      have HJM := Lib.hid hjM
      clear hMM hAR hbr hbw hs2 hg1 hg2 hcs2 ga1 hoth hsa hba hK hh hj h0 hjM
      rcases hjj with i1 | ⟨i1, i2⟩
      all_goals
        go_upto_region 8 with (fail)
        generalize wr.setCell ⟨w.heap.size, 38, none⟩ (.slice AL j cL) = WA at *
        go_wp2_with fail
        (with_reducible refine HK.out.mono ?_)
        rintro e8 w8 ⟨KB, cB5, xsB, rfl, hoB, honeB, hmB, hb8⟩
        obtain ⟨mB, hmB0⟩ : ∃ mB, mB = if 12 < nB then 12 else nB := ⟨_, rfl⟩
        have HOB : Hid (w8.ownsRow WA.heap.size 142 32 (.slice KB mB cB5) mB xsB) := by rw [hmB0]; exact hoB
        have HONB := Lib.hid honeB
        have HMB : Hid (mB ≤ cB5) := by rw [hmB0]; exact hmB
        have hgw : w.heap.size < WA.heap.size := (Array.getElem?_eq_some_iff.1 HGA1.out).1
        have g81 := (hb8.block w.heap.size hgw).trans HGA1.out
        have b43 : w8.cell? ⟨w.heap.size, 43, none⟩ = some (.slice BB nB cB) := (hb8.cell (p := ⟨w.heap.size, 43, none⟩) hgw).trans a43
        have f43 : w8.frozen? ⟨w.heap.size, 43, none⟩ = false := frozen_of_row _ _ _ _ _ g81
        rw [← hmB0]
        have HMB0 := Lib.hid hmB0
        have HB8 := Lib.hid hb8
        have HG81 := Lib.hid g81
        clear hoB honeB hmB hgw g81 hmB0 hb8 a43 HK
        go_upto_region 9 with (fail)
        obtain ⟨cs3, hcs3⟩ : ∃ cs3, cs3 = cs2.set 43 (.slice KB mB cB5) := ⟨_, rfl⟩
        have gb1 : (w8.setCell ⟨w.heap.size, 43, none⟩ (.slice KB mB cB5)).heap[w.heap.size]? = some (.cells cs3.toArray 58 (0, 0)) := by
          rw [heap_setCell_same w8 w.heap.size 43 _ _ _ HG81.out, List.setIfInBounds_toArray, hcs3]
        have hothB : ∀ k, k ≠ w.heap.size → (w8.setCell ⟨w.heap.size, 43, none⟩ (.slice KB mB cB5)).heap[k]? = w8.heap[k]? := fun k hk => Below.heap_setCell _ ⟨w.heap.size, 43, none⟩ _ _ hk
        have hsB : (w8.setCell ⟨w.heap.size, 43, none⟩ (.slice KB mB cB5)).heap.size = w8.heap.size := by simp [World.setCell]
        have hbB := (HBA.out.trans (HB8.out.mono HBA.out.size)).setCell (p := ⟨w.heap.size, 43, none⟩) (Nat.le_refl _) (.slice KB mB cB5)
        clear b43 f43 HG81
        generalize w8.setCell ⟨w.heap.size, 43, none⟩ (.slice KB mB cB5) = WB at *
        have hs2 := HS2.out
        have hwa := HWA.out
        have hrs := HBR.out.size
        have gb2 : WB.heap[w.heap.size + 1]? = some (.cells Tx0 58 (0, 0)) := by
          rw [hothB _ (by omega), HB8.out.block _ (by omega), hwa.1 _ (by omega)]; exact HWG2.out
        have hlen3 : cs3.length = 53 := by rw [hcs3, HCS2.out, HCS1.out, List.length_set, List.length_set, List.length_set]; exact HT.out.len
        have hone3 : ∀ u ∈ cs3, u.oneCell' = true := fun u hu => by
          rw [hcs3] at hu
          rcases List.mem_or_eq_of_mem_set hu with hu | rfl
          · rw [HCS2.out] at hu
            rcases List.mem_or_eq_of_mem_set hu with hu | rfl
            · rw [HCS1.out] at hu
              rcases List.mem_or_eq_of_mem_set hu with hu | rfl
              · exact HT.out.one u hu
              · rfl
            · rfl
          · rfl
        have hkeep : ∀ k, w.heap.size + 2 ≤ k → k < wr.heap.size → (WB.setRow (w.heap.size + 1) cs3.toArray).heap[k]? = wr.heap[k]? := fun k hk hl => by
          rw [setRow_other _ _ _ _ (by omega), hothB _ (by omega), HB8.out.block _ (by omega), hwa.1 _ (by omega)]
        have hkeep8 : ∀ k, wr.heap.size ≤ k → (WB.setRow (w.heap.size + 1) cs3.toArray).heap[k]? = w8.heap[k]? := fun k hk => by
          rw [setRow_other _ _ _ _ (by omega), hothB _ (by omega)]
        have hsz9 : wr.heap.size ≤ (WB.setRow (w.heap.size + 1) cs3.toArray).heap.size := by have h1 := HB8.out.size; simp [World.setRow]; omega
        have gc2 := setRow_heap WB (w.heap.size + 1) _ cs3.toArray 58 (0, 0) gb2
        have hbC := below_setRow hbB (show w.heap.size ≤ w.heap.size + 1 by omega) cs3.toArray
        have hTX : TxT (WB.setRow (w.heap.size + 1) cs3.toArray) cs3 mk (bs.take 800) ((ks.take 12).map mn) := by
          have hjl : ((ks.take 12).map mn).length = j := by
            have h1 := HM.out
            have h2 := HN.out
            rw [List.length_map, List.length_take, HJM.out]
            split at h1 <;> omega
          refine ⟨hlen3, hone3, ?_, ?_, ?_, ?_⟩
          · rw [hcs3, HCS2.out, HCS1.out, List.getElem?_set_ne (by omega), List.getElem?_set_ne (by omega), List.getElem?_set_ne (by omega)]; exact HT.out.make
          · refine ⟨.slice A1 E c1, ?_, ?_⟩
            · rw [hcs3, HCS2.out, HCS1.out, List.getElem?_set_ne (by omega), List.getElem?_set_ne (by omega), List.getElem?_set_self (by rw [HT.out.len]; omega)]
            · exact (HBY.out.1.move (by omega) fun k hk => by
                have h1 := HBY.out.2 k hk
                have h2 := HBY.out.1.lt k hk
                rw [hkeep k h1 (by omega)]
                exact HBR.out.block k h2).byt
          · have hAR := HAR.out
            have hown : (WB.setRow (w.heap.size + 1) cs3.toArray).ownsRow W2.heap.size 88 21 (.slice AL j cL) j us := own_keep hAR.1 fun g hg => hkeep g (by have := own_lt hAR.1 hg; omega) (own_lt hAR.1 hg).2
            refine ⟨AL, cL, ?_, ?_, ?_⟩
            · rw [hcs3, List.getElem?_set_ne (by omega), HCS2.out, List.getElem?_set_self (by rw [HCS1.out, List.length_set, HT.out.len]; omega), hjl]
            · rcases Nat.eq_zero_or_pos j with hz | hp
              · exact .inl (List.eq_nil_of_length_eq_zero (by rw [hjl]; exact hz))
              · obtain ⟨AA, cc, e, hmc, hrow⟩ := RowAt.own hown hAR.2.1
                injection e with e1 e2 e3
                subst e1
                rcases hown.2 with ⟨_, h0⟩ | ⟨g, cap, cur, e, hg, hh, _⟩
                · omega
                · injection e with e1 e2 e3
                  subst e1
                  refine .inr ⟨g, 0, rfl, (Array.getElem?_eq_some_iff.1 hh).1, fun i k hk => ?_⟩
                  have hil := (List.getElem?_eq_some_iff.1 hk).1
                  rw [hjl] at hil
                  rw [List.getElem?_map, List.getElem?_take] at hk
                  split at hk
                  · obtain ⟨k0, hk0, rfl⟩ := Option.map_eq_some_iff.1 hk
                    obtain ⟨K1, d1, ys, q1, q2, q3, q4⟩ := hAR.2.2 i k0 hil hk0
                    have hul : us.length = j * 21 := hAR.1.1
                    have hcell : ∀ (q : Nat) (u : Value), us[q]? = some u → (WB.setRow (w.heap.size + 1) cs3.toArray).cell? ⟨g, 0 + q, none⟩ = some u := fun q u hq => by
                      have h2 := World.ownsRow.cells hown (g := g) rfl q u hq
                      rw [Addr.add_mid] at h2
                      exact h2
                    have q3' : (WB.setRow (w.heap.size + 1) cs3.toArray).ownsRow W2.heap.size 142 32 (.slice K1 (mn k0) d1) (mn k0) ys := own_keep q3 fun g hg => hkeep g (by have := own_lt q3 hg; omega) (own_lt q3 hg).2
                    obtain ⟨AA, cc, e, hmc, hrow2⟩ := RowAt.own q3' q4
                    injection e with e1 e2 e3
                    subst e1
                    refine ⟨(us.drop (i * 21)).take 20, K1, d1, by rw [List.length_take, List.length_drop]; omega, fun u hu => hAR.2.1 u (List.mem_of_mem_drop (List.mem_of_mem_take hu)), fun q u hq => ?_, ?_, q2, hrow2⟩
                    · rw [List.getElem?_take] at hq
                      split at hq
                      · rw [List.getElem?_drop] at hq
                        have := hcell _ u hq
                        rw [show 0 + i * 21 + q = 0 + (i * 21 + q) by omega]
                        exact this
                      · cases hq
                    · have := hcell _ _ q1
                      rw [show 0 + i * 21 + 20 = 0 + (i * 21 + 20) by omega]
                      exact this
                  · cases hk
            · rw [hjl]
              rcases hAR.1.2 with ⟨e, h0⟩ | ⟨g, cap, cur, e, hg, hh, hc, _⟩
              · omega
              · injection e with e1 e2 e3; omega
          · have hob : (WB.setRow (w.heap.size + 1) cs3.toArray).ownsRow WA.heap.size 142 32 (.slice KB mB cB5) mB xsB := own_keep HOB.out fun g hg => hkeep8 g (by have := own_lt HOB.out hg; omega)
            obtain ⟨AA, cc, e, hmc, hrow⟩ := RowAt.own hob HONB.out
            injection e with e1 e2 e3
            subst e1
            exact ⟨KB, mB, cB5, by rw [hcs3, List.getElem?_set_self (by rw [HCS2.out, HCS1.out, List.length_set, List.length_set, HT.out.len]; omega)], hrow, HMB.out⟩
        have HTX := Lib.hid hTX
        have HBC := Lib.hid hbC
        have HGC2 := Lib.hid gc2
        have HGB1 := Lib.hid gb1
        have HGB2 := Lib.hid gb2
        have HL3 := Lib.hid hlen3
        have HO3 := Lib.hid hone3
        clear hcs3 gb1 hothB hsB hbB hs2 hwa hrs gb2 hlen3 hone3 hkeep hkeep8 hsz9 gc2 hbC hTX
        refine wp_region_lit ?_
        refine wpList_load_row rfl 58 (.tmp 1) rfl w.heap.size rfl 58 _ (0, 0) _ HGB1.out Try.underlying58 rfl (by rw [infoTx, List.size_toArray, HL3.out]) ?_
        refine wpList_store_row rfl 58 (.tmp 2) (.tmp 43) rfl (w.heap.size + 1) _ rfl rfl 58 _ HGB2.out (by rw [infoTx, List.size_toArray, HL3.out]) (by rw [tx0_size, List.size_toArray, HL3.out]) (by rw [List.all_toArray]; exact List.all_eq_true.2 HO3.out) ?_
        refine wpList_nil ?_
        generalize WB.setRow (w.heap.size + 1) cs3.toArray = WC at *
        go_simp
        go_wp2_with fail
        exact bodyPost_ret (results_cell_row Try.results29 _ _ (w.heap.size + 1) 58 _ (0, 0) _ rfl HGC2.out Try.underlying58 rfl (by rw [infoTx, List.size_toArray, HL3.out])) rfl ⟨cs3, rfl, HTX.out, HBC.out⟩
end Go.Proofs.Ytiflfcdegpmhnaa
namespace Go.Proofs.Ytiflfcdegpmhnaa
open Go.RowKit

theorem count_bytes : ∀ bs : List Nat, Ds 256 bs → Lib.countByte (Lib.bytesOf (bs.map fun n : Nat => (n : Int))) (0 : Int).toNat.toUInt8 = bs.count 0
  | [], _ => rfl
  | b :: r, h => by
    have ih := count_bytes r (fun x hx => h x (by simp [hx]))
    have hb : b < 256 := h b (by simp)
    unfold Lib.countByte Lib.bytesOf at *
    simp only [List.map_cons, List.count_cons] at *
    rw [ih]
    congr 1
    by_cases h0 : b = 0
    · subst h0; rfl
    · have h1 : (UInt8.ofNat ((b : Int).toNat) == (0 : Int).toNat.toUInt8) = false := by
        rw [beq_eq_false_iff_ne]
        intro e
        have e2 := congrArg UInt8.toNat e
        simp at e2
        omega
      have h2 : (b == 0) = false := by rw [beq_eq_false_iff_ne]; exact h0
      rw [h1, h2]
set_option maxRecDepth 100000 in
set_option maxHeartbeats 3200000 in
theorem count_c {A : Option Addr} {c g d : Nat} {bs : List Nat} (w : World) (h : Rd .u8 w A c bs) (hb : Ds 256 bs) (h2 : w.cell? ⟨g, 0, none⟩ = some (.int .u8 0)) :
    Calls Try.prog 56 #[.slice A bs.length c, .slice (some ⟨g, 0, none⟩) 1 d] w fun e w' => e = .returned (.int .i64 (bs.count 0 : Nat)) ∧ w' = w := by
  have hrun : (Extern.BytealgCount.count #[.slice A bs.length c, .int .u8 0]).run Try.prog w = .ok (.int .i64 (bs.count 0 : Nat)) w := by
    cases A with
    | none =>
      have hn : bs = [] := by
        cases bs with
        | nil => rfl
        | cons x r => obtain ⟨b, o, e, _⟩ := h.at_ (by simp); cases e
      subst hn
      exact Lib.run_countNil w _ _ 0
    | some a =>
      have := Lib.run_countAt (P := Try.prog) w a bs.length c (bs.map fun n : Nat => (n : Int)) (by simp) (fun i hi => by
        obtain ⟨b, o, e, _, hc⟩ := h.at_ (by omega)
        injection e with e
        subst e
        rw [Addr.add_mid, hc i hi]
        congr 2
        rw [List.getD_eq_getElem?_getD, List.getD_eq_getElem?_getD, List.getElem?_map, List.getElem?_eq_getElem hi]
        rfl) 0
      rw [count_bytes bs hb] at this
      exact this
  have HR := Lib.hid hrun
  generalize bs.count 0 = z at *
  generalize bs.length = n at *
  clear hrun h hb
  go_enter Try.func56, Try.ntmps56
  go_wp2_with fail
  rw [run_callFunc_extern Try.func77 (by kernel_rfl) (by kernel_rfl) (by kernel_rfl) (e := Extern.BytealgCount.count) (by kernel_rfl), HR.out]
  simp only [Result.andThen]
  rw [Oper.upon_value]
  go_wp2_with fail
  go_ret
  exact ⟨rfl, rfl⟩

/-- How many places the accounts name in all. -/
def sumN : List Nat → Nat
  | [] => 0
  | k :: r => k + sumN r
theorem sumN_le : ∀ ks : List Nat, (∀ x ∈ ks, x ≤ 12) → sumN ks ≤ 12 * ks.length
  | [], _ => by simp [sumN]
  | k :: r, h => by
    have h1 := sumN_le r fun x hx => h x (by simp [hx])
    have h2 := h k (by simp)
    simp only [sumN, List.length_cons]
    omega
theorem infoAccS : (Try.prog.info? 88).map (·.size) = some 21 := by kernel_rfl
set_option maxRecDepth 100000 in
set_option maxHeartbeats 12800000 in
theorem keys_c2 {A : Option Addr} {c : Nat} {ks : List Nat} (w : World) (h : AccAt w A ks) (hl : ks.length ≤ 12) (hk : ∀ x ∈ ks, x ≤ 12) :
    Calls Try.prog 57 #[.slice A ks.length c] w (RetV (.int .u64 (sumN ks : Nat)) w) := by
  obtain ⟨N, hN⟩ : ∃ N, N = ks.length := ⟨_, rfl⟩
  rw [← hN] at hl ⊢
  have hS := sumN_le ks hk
  obtain ⟨S, hSS⟩ : ∃ S, S = sumN ks := ⟨_, rfl⟩
  rw [← hSS] at hS ⊢
  have HN := Lib.hid hN
  have HS := Lib.hid hSS
  have HA := Lib.hid h
  have HK := Lib.hid hk
  have HL : Hid (N ≤ 12 ∧ S ≤ 144) := ⟨hl, by omega⟩
  clear hN hSS h hk hS hl
  go_enter Try.func57, Try.ntmps57
  go_wp2_with fail
  go_loopw [3, 8] (fun n i wr => ∃ (j z : Nat), j ≤ N ∧ i = .int .i64 (j : Nat) ∧ n = .int .i64 (z : Nat) ∧ Hid (z + sumN (ks.drop j) = S) ∧ Hid (Below w.heap.size w wr)) (fun _ i _ => N - (intOf i).toNat)
  case atStart => exact ⟨0, 0, Nat.zero_le _, rfl, rfl, by show _ = _; rw [HS.out]; simp, Below.refl _ _⟩
  case round =>
    obtain ⟨j, z, hj, rfl, rfl, hz, HB⟩ := hrel
    by_cases h0 : j < N
    · have hNl := HN.out
      obtain ⟨kk, hkk⟩ : ∃ kk, ks[j]? = some kk := ⟨_, List.getElem?_eq_getElem (by omega)⟩
      rcases HA.out.below HB.out with hnil | ⟨bb, oo, rfl, hlt, hcell⟩
      · rw [hnil] at hkk; simp at hkk
      obtain ⟨ad, K, c', had, hone, hcs, hc, -, -⟩ := hcell j kk hkk
      have hdr : ks.drop j = kk :: ks.drop (j + 1) := by
        rw [List.drop_eq_getElem_cons (by omega)]
        rw [List.getElem?_eq_getElem (by omega)] at hkk
        injection hkk with hkk
        rw [hkk]
      have hz1 := hz.out
      rw [hdr, sumN] at hz1
      have hl := HL.out
      have HZ : Hid ((z + kk) + sumN (ks.drop (j + 1)) = S) := by show _ = _; omega
      have e1 : IntKind.i64.wrap ((z : Int) + (kk : Int)) = ((z + kk : Nat) : Int) := by rw [IntWalk.i64_in _ (by omega)]; omega
      have hbz : z + kk ≤ 144 := by omega
      have hj12 : j < 12 := by omega
      have hi1 : (j : Int) < (N : Int) := by omega
      obtain ⟨y, hy⟩ : ∃ y, y = z + kk := ⟨_, rfl⟩
      rw [← hy] at HZ e1
      obtain ⟨cs, hcsd⟩ : ∃ cs : List Value, cs = ad ++ [.slice K kk c'] := ⟨_, rfl⟩
      have hlen : cs.length = 21 := by rw [hcsd]; simp [had]
      have hrange : wr.rangeAt bb (oo + j * 21) cs := by
        intro i v hv
        rw [hcsd] at hv
        rcases Nat.lt_or_ge i 20 with hi | hi
        · rw [List.getElem?_append_left (by omega)] at hv
          exact hcs i v hv
        · rw [List.getElem?_append_right (by omega), had] at hv
          obtain rfl : i = 20 := by
            rcases Nat.lt_or_ge 20 i with h9 | h9
            · rw [List.getElem?_eq_none (by simp; omega)] at hv; cases hv
            · omega
          simp at hv
          rw [← hv]; exact hc
      have HSZ : Hid ((Try.prog.info? 88).map (·.size) = some cs.length) := by show _ = _; rw [infoAccS, hlen]
      have HSZ2 : Hid ((Try.prog.info? 88).map (·.size) = some cs.toArray.size) := by show _ = _; rw [infoAccS, List.size_toArray, hlen]
      have HONE : Hid (cs.toArray.all (·.oneCell') = true) := by
        show _ = _
        rw [hcsd]
        simp only [List.all_toArray', List.all_append, List.all_cons, List.all_nil, Bool.and_true, Bool.and_eq_true, List.all_eq_true]
        exact ⟨fun u hu => hone u hu, rfl⟩
      have H20 : Hid (cs.toArray[20]? = some (.slice K kk c')) := by show _ = _; rw [List.getElem?_toArray, hcsd, List.getElem?_append_right (by omega), had]; rfl
      have HCS : Hid (cs.toArray.size = 21) := by show _ = _; rw [List.size_toArray, hlen]
      have HRX := Lib.hid hrange
      clear hz hz1 hdr hkk hcell hcs hc hone hy hcsd hlen hrange hl hNl hbz had
      go_upto_region 4 with (fail)
      refine wp_region_lit ?_
      refine wpList_plain rfl fun K hK => ?_; go_simp; refine hK _ _ ?_; clear hK K
      refine wpList_load_mid rfl 88 (.tmp 10) rfl bb (oo + j * 21) rfl _ _ HRX.out Try.underlying88 rfl HSZ.out ?_
      generalize cs.toArray = X at *
      go_simp
      refine wpList_plain rfl fun K hK => ?_; go_simp; refine hK _ _ ?_; clear hK K
      have hg : (wr.alloc (.cells #[.int .u8 0, .int .u8 0, .int .u8 0, .int .u8 0, .int .u8 0, .int .u8 0, .int .u8 0, .int .u8 0, .int .u8 0, .int .u8 0, .int .u8 0, .int .u8 0, .int .u8 0, .int .u8 0, .int .u8 0, .int .u8 0, .int .u8 0, .int .u8 0, .int .u8 0, .int .u8 0, .slice none 0 0] 88)).heap[wr.heap.size]? = some (.cells #[.int .u8 0, .int .u8 0, .int .u8 0, .int .u8 0, .int .u8 0, .int .u8 0, .int .u8 0, .int .u8 0, .int .u8 0, .int .u8 0, .int .u8 0, .int .u8 0, .int .u8 0, .int .u8 0, .int .u8 0, .int .u8 0, .int .u8 0, .int .u8 0, .int .u8 0, .int .u8 0, .slice none 0 0] 88 (0, 0)) := heap_alloc_new wr _
      have hb1 : Below wr.heap.size wr (wr.alloc (.cells #[.int .u8 0, .int .u8 0, .int .u8 0, .int .u8 0, .int .u8 0, .int .u8 0, .int .u8 0, .int .u8 0, .int .u8 0, .int .u8 0, .int .u8 0, .int .u8 0, .int .u8 0, .int .u8 0, .int .u8 0, .int .u8 0, .int .u8 0, .int .u8 0, .int .u8 0, .int .u8 0, .slice none 0 0] 88)) := (Below.refl _ _).alloc (Nat.le_refl _) _
      refine wpList_store_row rfl 88 (.tmp 5) (.tmp 11) rfl wr.heap.size X rfl rfl 88 #[.int .u8 0, .int .u8 0, .int .u8 0, .int .u8 0, .int .u8 0, .int .u8 0, .int .u8 0, .int .u8 0, .int .u8 0, .int .u8 0, .int .u8 0, .int .u8 0, .int .u8 0, .int .u8 0, .int .u8 0, .int .u8 0, .int .u8 0, .int .u8 0, .int .u8 0, .int .u8 0, .slice none 0 0] hg HSZ2.out (by rw [HCS.out]; rfl) HONE.out ?_
      have hg2 := setRow_heap (wr.alloc (.cells #[.int .u8 0, .int .u8 0, .int .u8 0, .int .u8 0, .int .u8 0, .int .u8 0, .int .u8 0, .int .u8 0, .int .u8 0, .int .u8 0, .int .u8 0, .int .u8 0, .int .u8 0, .int .u8 0, .int .u8 0, .int .u8 0, .int .u8 0, .int .u8 0, .int .u8 0, .int .u8 0, .slice none 0 0] 88)) wr.heap.size _ X 88 (0, 0) hg
      have hb2 := below_setRow hb1 (Nat.le_refl wr.heap.size) X
      show wpList _ _ _ _ _ ((wr.alloc (.cells #[.int .u8 0, .int .u8 0, .int .u8 0, .int .u8 0, .int .u8 0, .int .u8 0, .int .u8 0, .int .u8 0, .int .u8 0, .int .u8 0, .int .u8 0, .int .u8 0, .int .u8 0, .int .u8 0, .int .u8 0, .int .u8 0, .int .u8 0, .int .u8 0, .int .u8 0, .int .u8 0, .slice none 0 0] 88)).setRow wr.heap.size X)
      generalize (wr.alloc (.cells #[.int .u8 0, .int .u8 0, .int .u8 0, .int .u8 0, .int .u8 0, .int .u8 0, .int .u8 0, .int .u8 0, .int .u8 0, .int .u8 0, .int .u8 0, .int .u8 0, .int .u8 0, .int .u8 0, .int .u8 0, .int .u8 0, .int .u8 0, .int .u8 0, .int .u8 0, .int .u8 0, .slice none 0 0] 88)).setRow wr.heap.size X = Y at *
      have y20 : Y.cell? ⟨wr.heap.size, 20, none⟩ = some (.slice K kk c') := by rw [cell_of_row _ _ 20 _ _ (0, 0) hg2]; exact H20.out
      have HB2 := Lib.hid (HB.out.trans (hb2.mono HB.out.size))
      clear hg hb1 hg2 hb2 HB HRX HSZ HSZ2 HONE HCS H20
      refine wpList_nil ?_
      go_simp
      go_wp2_with fail
      go_roundw
      case rel => exact ⟨j + 1, y, by omega, by go_num, rfl, HZ.out, HB2.out⟩
      case measure => simp [intOf]; omega
    · obtain rfl : j = N := by omega
      have hz1 := hz.out
      rw [List.drop_eq_nil_of_le (by have := HN.out; omega), sumN, Nat.add_zero] at hz1
      have hl := HL.out.2
      have e1 : IntKind.u64.wrap (z : Int) = (z : Int) := by rw [IntKind.wrap_u64]; omega
      subst hz1
      clear hz hj h0 hl
      go_wp2_with fail
      go_ret
      exact ⟨rfl, HB.out⟩
end Go.Proofs.Ytiflfcdegpmhnaa
namespace Go.Proofs.Ytiflfcdegpmhnaa
open Go.RowKit

/-- Parts of a cost, as a slice. -/
def FParts (l : List (Nat × Nat)) (n : Nat) (w : World) (v : Value) : Prop := ∃ g, v = .slice (some ⟨g, 0, none⟩) n n ∧ PartsAt w g l
def Fact.parts (l : List (Nat × Nat)) (n : Nat) : Fact := ⟨fun v w => FParts l n w v, fun _ _ _ hb ⟨g, e, h⟩ => ⟨g, e, h.below hb h.1⟩⟩
theorem infoPartS : (Try.prog.info? 67).map (fun i => (i.zero, i.size, i.bytes)) = some (some (.agg #[.int .u64 0, .int .u64 0]), 2, 16) := by kernel_rfl
theorem gc_accT (w : World) : (isAgg 55).run Try.prog w = .ok false w := by kernel_rfl
section
variable {ops : Array Oper} {T : Facts} {o : Oper} {a : Act} {w : World}
theorem gc_faR {g k : Nat} (x : Operand) (ho : o.op = .fieldAddr 26 x k) (hk : k = 1 ∨ k = 2 ∨ k = 3 ∨ k = 4 ∨ k = 5 ∨ k = 6 ∨ k = 7) (hx : a.eval x = .pointer (some ⟨g, 0, none⟩)) (hw : Region.wanted o (yielded ops a.tmps) = true) (hf : factTo T o.dst (.pointer (some ⟨g, k, none⟩)) w) : relStep Try.prog ops T o a w :=
  relStep_val (.pointer (some ⟨g, k, none⟩)) hw hf (by
    unfold execOp
    rw [ho]
    simp only [hx]
    rcases hk with rfl | rfl | rfl | rfl | rfl | rfl | rfl <;> go_simp)
theorem gc_faX {g : Nat} (x : Operand) (ho : o.op = .fieldAddr 58 x 10) (hx : a.eval x = .pointer (some ⟨g, 0, none⟩)) (hw : Region.wanted o (yielded ops a.tmps) = true) (hf : factTo T o.dst (.pointer (some ⟨g, 38, none⟩)) w) : relStep Try.prog ops T o a w :=
  relStep_val (.pointer (some ⟨g, 38, none⟩)) hw hf (by
    unfold execOp
    rw [ho]
    simp only [hx]
    go_simp)
theorem gc_lenA {A : Option Addr} {N c : Nat} (x : Operand) (ho : o.op = .call { callee := .builtin .len, args := #[x], argTypes := #[55] }) (hx : a.eval x = .slice A N c) (hw : Region.wanted o (yielded ops a.tmps) = true) (hf : factTo T o.dst (.int .i64 (N : Nat)) w) : relStep Try.prog ops T o a w :=
  relStep_val (.int .i64 (N : Nat)) hw hf (by
    clear hw hf
    generalize a.eval = p at *
    unfold execOp
    rw [ho]
    go_simp)
theorem gc_part {u v : Int} (x y : Operand) (ho : o.op = .build 67 #[(0, x), (1, y)]) (hx : a.eval x = .int .u64 u) (hy : a.eval y = .int .u64 v) (hw : Region.wanted o (yielded ops a.tmps) = true) (hf : factTo T o.dst (.agg #[.int .u64 u, .int .u64 v]) w) : relStep Try.prog ops T o a w :=
  relStep_val (.agg #[.int .u64 u, .int .u64 v]) hw hf (by
    clear hw hf
    generalize a.eval = p at *
    unfold execOp
    rw [ho]
    go_simp)
theorem gc_parts7 {p0 q0 p1 q1 p2 q2 p3 q3 p4 q4 p5 q5 p6 q6 : Nat} (x0 x1 x2 x3 x4 x5 x6 : Operand) (ho : o.op = .buildSlice 95 7 #[(0, x0), (1, x1), (2, x2), (3, x3), (4, x4), (5, x5), (6, x6)])
    (h0 : a.eval x0 = .agg #[.int .u64 (p0 : Nat), .int .u64 (q0 : Nat)]) (h1 : a.eval x1 = .agg #[.int .u64 (p1 : Nat), .int .u64 (q1 : Nat)]) (h2 : a.eval x2 = .agg #[.int .u64 (p2 : Nat), .int .u64 (q2 : Nat)]) (h3 : a.eval x3 = .agg #[.int .u64 (p3 : Nat), .int .u64 (q3 : Nat)]) (h4 : a.eval x4 = .agg #[.int .u64 (p4 : Nat), .int .u64 (q4 : Nat)]) (h5 : a.eval x5 = .agg #[.int .u64 (p5 : Nat), .int .u64 (q5 : Nat)]) (h6 : a.eval x6 = .agg #[.int .u64 (p6 : Nat), .int .u64 (q6 : Nat)])
    (hw : Region.wanted o (yielded ops a.tmps) = true) (hf : ∀ v w', FParts [(p0, q0), (p1, q1), (p2, q2), (p3, q3), (p4, q4), (p5, q5), (p6, q6)] 7 w' v → factTo T o.dst v w') : relStep Try.prog ops T o a w := by
  obtain ⟨i0, hi, hz0, hz1, hz2⟩ := info_parts infoPartS
  refine relStep_go hw ?_
  have hr : (execOp a.eval o).run Try.prog w = .ok (.value (.slice (some ⟨w.heap.size, 0, none⟩) 7 7)) (w.alloc (.cells #[.int .u64 (p0 : Nat), .int .u64 (q0 : Nat), .int .u64 (p1 : Nat), .int .u64 (q1 : Nat), .int .u64 (p2 : Nat), .int .u64 (q2 : Nat), .int .u64 (p3 : Nat), .int .u64 (q3 : Nat), .int .u64 (p4 : Nat), .int .u64 (q4 : Nat), .int .u64 (p5 : Nat), .int .u64 (q5 : Nat), .int .u64 (p6 : Nat), .int .u64 (q6 : Nat)] 67)) := by
    unfold execOp
    rw [ho]
    simp only [Sem.run_bind]
    rw [run_buildSlice w 95 67 7 _ #[.int .u64 (p0 : Nat), .int .u64 (q0 : Nat), .int .u64 (p1 : Nat), .int .u64 (q1 : Nat), .int .u64 (p2 : Nat), .int .u64 (q2 : Nat), .int .u64 (p3 : Nat), .int .u64 (q3 : Nat), .int .u64 (p4 : Nat), .int .u64 (q4 : Nat), .int .u64 (p5 : Nat), .int .u64 (q5 : Nat), .int .u64 (p6 : Nat), .int .u64 (q6 : Nat)] i0 (.agg #[.int .u64 0, .int .u64 0]) Try.underlying95 hi hz0 (by rw [hz1]; decide) (by rw [hz1]; decide) (by rw [hz1]; simp only [List.map_toArray, List.map_cons, List.map_nil, h0, h1, h2, h3, h4, h5, h6]; kernel_rfl)]
    rfl
  rw [hr]
  exact ⟨(Below.refl _ _).alloc (Nat.le_refl _) _, hf _ _ ⟨_, rfl, parts_new w _ _ _ rfl⟩⟩
end
theorem en_gcKeys (args : Array Value) (w : World) : (callFunc 57 args).run Try.prog w = .ok (.enter 57 args) w := by go_simp
theorem en_gcTotal (args : Array Value) (w : World) : (callFunc 34 args).run Try.prog w = .ok (.enter 34 args) w := by go_simp
theorem sumD_count (z o : Nat) : ∀ bs : List Nat, sumD (z : Nat) (o : Nat) bs = ((bs.count 0 * z + (bs.length - bs.count 0) * o : Nat) : Int)
  | [] => by simp [sumD]
  | b :: r => by
    have ih := sumD_count z o r
    have hle : r.count 0 ≤ r.length := List.count_le_length
    unfold sumD
    rw [ih]
    by_cases h : b = 0
    · subst h
      rw [if_pos rfl, List.count_cons_self, List.length_cons, Nat.add_sub_add_right, Nat.succ_mul]
      generalize r.count 0 * z = x
      generalize (r.length - r.count 0) * o = y
      omega
    · rw [if_neg h, List.count_cons_of_ne (fun e => h (by simpa using e)), List.length_cons, Nat.sub_add_comm hle, Nat.succ_mul]
      generalize r.count 0 * z = x
      generalize (r.length - r.count 0) * o = y
      omega
theorem sumK_sum (a p : Nat) : ∀ ks : List Nat, sumK (a : Nat) (p : Nat) ks = ((ks.length * a + sumN ks * p : Nat) : Int)
  | [] => by simp [sumK, sumN]
  | k :: r => by
    have ih := sumK_sum a p r
    unfold sumK sumN
    rw [ih, List.length_cons, Nat.succ_mul, Nat.add_mul, ← Int.natCast_mul, Nat.mul_comm p k]
    generalize r.length * a = x
    generalize sumN r * p = y
    generalize k * p = t
    omega

set_option maxRecDepth 100000 in
set_option maxHeartbeats 25600000 in
theorem pintr_c (f : Int) (k : Nat → Int) (hk : ∀ i, 1 ≤ i → i ≤ 7 → 0 ≤ k i) (hk1 : k 1 ≤ 100000) (hk2 : k 2 ≤ 100000) (hk3 : k 3 ≤ 100) (hk4 : k 4 ≤ 100) (hk5 : k 5 ≤ 10000) (hk6 : k 6 ≤ 10000) (hk7 : k 7 ≤ 100)
    {cs : List Value} {mk : Bool} {bs ks : List Nat} (w : World) (h : TxT w cs mk bs ks) (hbs : bs.length ≤ 1000) (hks : ks.length ≤ 12) (hk12 : ∀ x ∈ ks, x ≤ 12) :
    Calls Try.prog 30 #[.agg (RulesK f k), .agg cs.toArray] w (RetV (.tuple #[.int .u64 (intrZ k mk bs ks), .bool true]) w) := by
  obtain ⟨n1, hn1⟩ : ∃ n : Nat, k 1 = (n : Nat) := ⟨(k 1).toNat, by have := hk 1 (by omega) (by omega); omega⟩
  have HN1 : Hid (∀ v g, RulesAt v g f k → v.cell? ⟨g, 1, none⟩ = some (.int .u64 (n1 : Nat))) := fun v g h => by rw [← hn1, cell_of_row _ _ 1 _ _ (0, 0) h]; rfl
  obtain ⟨n2, hn2⟩ : ∃ n : Nat, k 2 = (n : Nat) := ⟨(k 2).toNat, by have := hk 2 (by omega) (by omega); omega⟩
  have HN2 : Hid (∀ v g, RulesAt v g f k → v.cell? ⟨g, 2, none⟩ = some (.int .u64 (n2 : Nat))) := fun v g h => by rw [← hn2, cell_of_row _ _ 2 _ _ (0, 0) h]; rfl
  obtain ⟨n3, hn3⟩ : ∃ n : Nat, k 3 = (n : Nat) := ⟨(k 3).toNat, by have := hk 3 (by omega) (by omega); omega⟩
  have HN3 : Hid (∀ v g, RulesAt v g f k → v.cell? ⟨g, 3, none⟩ = some (.int .u64 (n3 : Nat))) := fun v g h => by rw [← hn3, cell_of_row _ _ 3 _ _ (0, 0) h]; rfl
  obtain ⟨n4, hn4⟩ : ∃ n : Nat, k 4 = (n : Nat) := ⟨(k 4).toNat, by have := hk 4 (by omega) (by omega); omega⟩
  have HN4 : Hid (∀ v g, RulesAt v g f k → v.cell? ⟨g, 4, none⟩ = some (.int .u64 (n4 : Nat))) := fun v g h => by rw [← hn4, cell_of_row _ _ 4 _ _ (0, 0) h]; rfl
  obtain ⟨n5, hn5⟩ : ∃ n : Nat, k 5 = (n : Nat) := ⟨(k 5).toNat, by have := hk 5 (by omega) (by omega); omega⟩
  have HN5 : Hid (∀ v g, RulesAt v g f k → v.cell? ⟨g, 5, none⟩ = some (.int .u64 (n5 : Nat))) := fun v g h => by rw [← hn5, cell_of_row _ _ 5 _ _ (0, 0) h]; rfl
  obtain ⟨n6, hn6⟩ : ∃ n : Nat, k 6 = (n : Nat) := ⟨(k 6).toNat, by have := hk 6 (by omega) (by omega); omega⟩
  have HN6 : Hid (∀ v g, RulesAt v g f k → v.cell? ⟨g, 6, none⟩ = some (.int .u64 (n6 : Nat))) := fun v g h => by rw [← hn6, cell_of_row _ _ 6 _ _ (0, 0) h]; rfl
  obtain ⟨n7, hn7⟩ : ∃ n : Nat, k 7 = (n : Nat) := ⟨(k 7).toNat, by have := hk 7 (by omega) (by omega); omega⟩
  have HN7 : Hid (∀ v g, RulesAt v g f k → v.cell? ⟨g, 7, none⟩ = some (.int .u64 (n7 : Nat))) := fun v g h => by rw [← hn7, cell_of_row _ _ 7 _ _ (0, 0) h]; rfl
  have hb1 : n1 ≤ 100000 := by omega
  have hb2 : n2 ≤ 100000 := by omega
  have hb3 : n3 ≤ 100 := by omega
  have hb4 : n4 ≤ 100 := by omega
  have hb5 : n5 ≤ 10000 := by omega
  have hb6 : n6 ≤ 10000 := by omega
  have hb7 : n7 ≤ 100 := by omega
  obtain ⟨z, hz⟩ : ∃ z, z = bs.count 0 := ⟨_, rfl⟩
  obtain ⟨D, hD⟩ : ∃ D, D = bs.length := ⟨_, rfl⟩
  obtain ⟨N, hN⟩ : ∃ N, N = ks.length := ⟨_, rfl⟩
  obtain ⟨S, hS⟩ : ∃ S, S = sumN ks := ⟨_, rfl⟩
  obtain ⟨o, ho⟩ : ∃ o, o = D - z := ⟨_, rfl⟩
  obtain ⟨q, hq⟩ : ∃ q, q = (D + 31) / 32 := ⟨_, rfl⟩
  have hzD : z ≤ D := by rw [hz, hD]; exact List.count_le_length
  have hSb : S ≤ 144 := by have := sumN_le ks hk12; omega
  have hI : intrZ k mk bs ks = (if mk = true then (n1 : Int) + n2 + n7 * (q : Nat) else n1) + ((z * n3 + o * n4 : Nat) : Int) + ((N * n5 + S * n6 : Nat) : Int) := by
    unfold intrZ
    rw [hn1, hn2, hn3, hn4, hn5, hn6, hn7, sumD_count, sumK_sum, ← hz, ← hD, ← hN, ← hS, ← ho, ← hq]
  obtain ⟨I, hII⟩ : ∃ I, I = intrZ k mk bs ks := ⟨_, rfl⟩
  rw [← hII] at hI ⊢
  obtain ⟨X, hX⟩ : ∃ X, X = (w.alloc (.cells (RulesK f k) 26)).alloc (.cells cs.toArray 58) := ⟨_, rfl⟩
  have hR : RulesAt X w.heap.size f k := by rw [hX]; exact (RulesAt.new w f k).alloc _
  have hT : X.heap[w.heap.size + 1]? = some (.cells cs.toArray 58 (0, 0)) := by
    rw [hX]
    have h := heap_alloc_new (w.alloc (.cells (RulesK f k) 26)) (.cells cs.toArray 58)
    rw [show (w.alloc (.cells (RulesK f k) 26)).heap.size = w.heap.size + 1 by simp] at h; exact h
  have hB : Below w.heap.size w X := by rw [hX]; exact ((Below.refl _ _).alloc (Nat.le_refl _) _).alloc (by simp) _
  have hlX : w.heap.size + 1 < X.heap.size := (Array.getElem?_eq_some_iff.1 hT).1
  have hx := h.below hB
  obtain ⟨u, hu, hd⟩ := hx.data
  obtain ⟨A, c, hA, ha, hc⟩ := hx.acc
  obtain ⟨A0, c0, rfl, hrd, hds⟩ := hd
  have x12 : X.cell? ⟨w.heap.size + 1, 12, none⟩ = some (.bool mk) := by rw [cell_of_row _ _ 12 _ _ (0, 0) hT, List.getElem?_toArray]; exact hx.make
  have x37 : X.cell? ⟨w.heap.size + 1, 37, none⟩ = some (.slice A0 D c0) := by rw [cell_of_row _ _ 37 _ _ (0, 0) hT, List.getElem?_toArray, hD]; exact hu
  have x38 : X.cell? ⟨w.heap.size + 1, 38, none⟩ = some (.slice A N c) := by rw [cell_of_row _ _ 38 _ _ (0, 0) hT, List.getElem?_toArray, hN]; exact hA
  -- the byte that is counted
  obtain ⟨Y, hY⟩ : ∃ Y, Y = X.alloc (.cells #[.int .u8 0] 5) := ⟨_, rfl⟩
  have hbY : Below X.heap.size X Y := by rw [hY]; exact (Below.refl _ _).alloc (Nat.le_refl _) _
  have y0 : Y.cell? ⟨X.heap.size, 0, none⟩ = some (.int .u8 0) := by rw [hY, cell_of_row _ _ 0 _ _ (0, 0) (heap_alloc_new X _)]; rfl
  have KCN : Hid (Calls Try.prog 56 #[.slice A0 D c0, .slice (some ⟨X.heap.size, 0, none⟩) 1 1] Y fun e w' => e = .returned (.int .i64 (z : Nat)) ∧ w' = Y) := by
    show Calls _ _ _ _ _
    rw [hz, hD]; exact count_c Y (hrd.below hbY) hds y0
  have y12 : Y.cell? ⟨w.heap.size + 1, 12, none⟩ = some (.bool mk) := (hbY.cell (p := ⟨w.heap.size + 1, 12, none⟩) hlX).trans x12
  have y37 : Y.cell? ⟨w.heap.size + 1, 37, none⟩ = some (.slice A0 D c0) := (hbY.cell (p := ⟨w.heap.size + 1, 37, none⟩) hlX).trans x37
  have HC : Hid (Y.cell? ⟨w.heap.size + 1, 38, none⟩ = some (.slice A N c)) := (hbY.cell (p := ⟨w.heap.size + 1, 38, none⟩) hlX).trans x38
  have HL : Hid (w.heap.size + 1 < Y.heap.size) := Nat.lt_of_lt_of_le hlX hbY.size
  have HR : Hid (RulesAt Y w.heap.size f k) := hR.below hbY hR.lt
  have HB : Hid (Below w.heap.size w Y) := hB.trans (hbY.mono hB.size)
  have haY := ha.below hbY
  have KY : Hid (∀ v, Below Y.heap.size Y v → Calls Try.prog 57 #[.slice A N c] v (RetV (.int .u64 (S : Nat)) v)) := fun v hb => by rw [hN, hS]; exact keys_c2 v (haY.below hb) hks hk12
  have KW : Hid (∀ v, Calls Try.prog 35 #[.int .u64 (D : Nat)] v fun e w' => e = .returned (.int .u64 (q : Nat)) ∧ w' = v) := fun v => by
    have h := wordsOf_c (a := D) (by omega) v
    rw [← hq] at h; exact h
  have v1 : IntKind.u64.wrap (D : Int) = (D : Int) := by rw [IntKind.wrap_u64]; omega
  have v2 : IntKind.u64.wrap (z : Int) = (z : Int) := by rw [IntKind.wrap_u64]; omega
  have E1 : Hid (IntKind.u64.wrap ((D : Int) - (z : Int)) = (o : Int)) := by show _ = _; rw [IntKind.wrap_u64]; omega
  have E2 : Hid (IntKind.u64.wrap (N : Int) = (N : Int)) := by show _ = _; rw [IntKind.wrap_u64]; omega
  have HTOT : Hid (∀ m8 m9 : Nat, m8 ≤ 1 → m9 ≤ 40 → (I = ((1 * n1 + (m8 * n2 + (z * n3 + (o * n4 + (N * n5 + (S * n6 + (m9 * n7 + 0)))))) : Nat) : Int)) → ∀ v g, PartsAt v g [(1, n1), (m8, n2), (z, n3), (o, n4), (N, n5), (S, n6), (m9, n7)] → Calls Try.prog 34 #[.slice (some ⟨g, 0, none⟩) 7 7] v (RetV (.tuple #[.int .u64 I, .bool true]) v)) := fun m8 m9 h8 h9 hI v g hp => by
    have h := total_n [(1, n1), (m8, n2), (z, n3), (o, n4), (N, n5), (S, n6), (m9, n7)] 7 g v hp rfl (by omega) (by
      intro p hp
      simp only [List.mem_cons, List.not_mem_nil, or_false] at hp
      rcases hp with rfl | rfl | rfl | rfl | rfl | rfl | rfl <;> exact ⟨by simp only; omega, by simp only; omega⟩)
    have b2 : m8 * n2 ≤ 1 * 100000 := Nat.mul_le_mul h8 hb2
    have b3 : z * n3 ≤ 1000 * 100 := Nat.mul_le_mul (by omega) hb3
    have b4 : o * n4 ≤ 1000 * 100 := Nat.mul_le_mul (by omega) hb4
    have b5 : N * n5 ≤ 12 * 10000 := Nat.mul_le_mul (by omega) hb5
    have b6 : S * n6 ≤ 144 * 10000 := Nat.mul_le_mul hSb hb6
    have b7 : m9 * n7 ≤ 40 * 100 := Nat.mul_le_mul h9 hb7
    have e : paidV (sumP [(1, n1), (m8, n2), (z, n3), (o, n4), (N, n5), (S, n6), (m9, n7)]) = .tuple #[.int .u64 I, .bool true] := by
      show paidV (1 * n1 + (m8 * n2 + (z * n3 + (o * n4 + (N * n5 + (S * n6 + (m9 * n7 + 0))))))) = _
      unfold paidV
      rw [if_pos (by omega), hI]
    rw [e] at h; exact h
  have HI := Lib.hid hI
  have HQ : Hid (q ≤ 32) := by show q ≤ 32; omega
  have HX := Lib.hid hX
  have HY := Lib.hid hY
  have hD9 : (D : Int) < 1001 := by omega
  clear hz hD hN hS ho hq hzD hSb hI hII hX hR hT hB hlX hx hu hA ha hc hrd hds hbY y0 haY hY hk hk1 hk2 hk3 hk4 hk5 hk6 hk7 hn1 hn2 hn3 hn4 hn5 hn6 hn7 hb1 hb2 hb3 hb4 hb5 hb6 hb7 h hbs hks hk12 x12 x38 hD9
  go_enter Try.func30, Try.ntmps30
  go_upto_region 1 with (fail)
  rw [show (w.alloc (.cells (RulesK f k) 26)).alloc (.cells cs.toArray 58) = X from HX.out.symm]
  clear HX
  go_upto_region 2 with (fail)
  go_wp2_with fail
  rw [show X.alloc (.cells #[.int .u8 0] 5) = Y from HY.out.symm]
  (with_reducible refine KCN.out.mono ?_)
  rintro e1 w1 ⟨rfl, hw1⟩
  rw [hw1]
  clear hw1 w1 KCN x37 HY
  cases mk with
  | true =>
    have hI2 : I = ((1 * n1 + (1 * n2 + (z * n3 + (o * n4 + (N * n5 + (S * n6 + (q * n7 + 0)))))) : Nat) : Int) := by
      rw [HI.out]
      simp only [if_true]
      rw [Nat.one_mul, Nat.mul_comm q n7, ← Int.natCast_mul]
      generalize z * n3 = a1
      generalize o * n4 = a2
      generalize N * n5 = a3
      generalize S * n6 = a4
      generalize n7 * q = a5
      omega
    have KT := Lib.hid (HTOT.out 1 q (by omega) (by have := HQ.out; omega) hI2)
    clear HTOT HI HQ hI2
    go_wp2_with fail
    (with_reducible refine (KW.out _).mono ?_)
    rintro e2 w2 ⟨rfl, hw2⟩
    rw [hw2]
    clear hw2 w2
    go_upto_region 6 with (fail)
    clear y12 y37 v1 v2 KW
    refine wp_region_see 40 [23, 24, 25, 26, 27, 28, 29, 30, 31, 32, 33, 34, 35, 36, 37, 38, 39, 40, 41, 42, 43, 44, 45, 46, 47, 48, 49, 50, 51, 52, 53, 54, 55, 56, 57, 58, 59, 60, 4, 5] [(23, .is (.pointer (some ⟨w.heap.size, 1, none⟩))), (24, .is (.int .u64 (n1 : Nat))), (25, .is (.agg #[.int .u64 1, .int .u64 (n1 : Nat)])), (26, .is (.int .u64 (1 : Nat))), (27, .is (.pointer (some ⟨w.heap.size, 2, none⟩))), (28, .is (.int .u64 (n2 : Nat))), (29, .is (.agg #[.int .u64 (1 : Nat), .int .u64 (n2 : Nat)])), (30, .is (.int .u64 (z : Nat))), (31, .is (.pointer (some ⟨w.heap.size, 3, none⟩))), (32, .is (.int .u64 (n3 : Nat))), (33, .is (.agg #[.int .u64 (z : Nat), .int .u64 (n3 : Nat)])), (34, .is (.int .u64 (D : Nat))), (35, .is (.int .u64 (z : Nat))), (36, .is (.int .u64 (o : Nat))), (37, .is (.pointer (some ⟨w.heap.size, 4, none⟩))), (38, .is (.int .u64 (n4 : Nat))), (39, .is (.agg #[.int .u64 (o : Nat), .int .u64 (n4 : Nat)])), (40, .is (.pointer (some ⟨w.heap.size + 1, 38, none⟩))), (41, .is (.slice A N c)), (42, .is (.int .i64 (N : Nat))), (43, .is (.int .u64 (N : Nat))), (44, .is (.pointer (some ⟨w.heap.size, 5, none⟩))), (45, .is (.int .u64 (n5 : Nat))), (46, .is (.agg #[.int .u64 (N : Nat), .int .u64 (n5 : Nat)])), (47, .is (.pointer (some ⟨w.heap.size + 1, 38, none⟩))), (48, .is (.slice A N c)), (49, .is (.int .u64 (S : Nat))), (50, .is (.pointer (some ⟨w.heap.size, 6, none⟩))), (51, .is (.int .u64 (n6 : Nat))), (52, .is (.agg #[.int .u64 (S : Nat), .int .u64 (n6 : Nat)])), (53, .is (.int .u64 (q : Nat))), (54, .is (.pointer (some ⟨w.heap.size, 7, none⟩))), (55, .is (.int .u64 (n7 : Nat))), (56, .is (.agg #[.int .u64 (q : Nat), .int .u64 (n7 : Nat)])), (57, .parts [(1, n1), (1, n2), (z, n3), (o, n4), (N, n5), (S, n6), (q, n7)] 7), (58, .is (.tuple #[.int .u64 I, .bool true])), (59, .is (.int .u64 I)), (60, .is (.bool true)), (4, .is (.int .u64 I)), (5, .is (.bool true))] (by kernel_rfl) (by kernel_rfl) (by rfl) ?_ ?_
    · refine seeOps_cons ?_ (seeOps_cons ?_ (seeOps_cons ?_ (seeOps_cons ?_ (seeOps_cons ?_ (seeOps_cons ?_ (seeOps_cons ?_ (seeOps_cons ?_ (seeOps_cons ?_ (seeOps_cons ?_ (seeOps_cons ?_ (seeOps_cons ?_ (seeOps_cons ?_ (seeOps_cons ?_ (seeOps_cons ?_ (seeOps_cons ?_ (seeOps_cons ?_ (seeOps_cons ?_ (seeOps_cons ?_ (seeOps_cons ?_ (seeOps_cons ?_ (seeOps_cons ?_ (seeOps_cons ?_ (seeOps_cons ?_ (seeOps_cons ?_ (seeOps_cons ?_ (seeOps_cons ?_ (seeOps_cons ?_ (seeOps_cons ?_ (seeOps_cons ?_ (seeOps_cons ?_ (seeOps_cons ?_ (seeOps_cons ?_ (seeOps_cons ?_ (seeOps_cons ?_ (seeOps_cons ?_ (seeOps_cons ?_ (seeOps_cons ?_ (seeOps_cons ?_ (seeOps_cons ?_ seeOps_nil)))))))))))))))))))))))))))))))))))))))
      · intro w9 hb9 fr hout hin
        have h2 : fr.tmps.getD 2 undef = .pointer (some ⟨w.heap.size, 0, none⟩) := hout 2 (by decide)
        clear hout hin
        exact gc_faR (.tmp 2) rfl (by omega) h2 (wanted_none rfl) rfl
      · intro w9 hb9 fr hout hin
        have h23 : fr.tmps.getD 23 undef = .pointer (some ⟨w.heap.size, 1, none⟩) := hin 23 (by decide) (by decide)
        clear hout hin
        exact gs_load (.tmp 23) rfl gs_u64 h23 (HN1.out _ _ (HR.out.below hb9 HR.out.lt)) (wanted_none rfl) rfl
      · intro w9 hb9 fr hout hin
        have h24 : fr.tmps.getD 24 undef = .int .u64 (n1 : Nat) := hin 24 (by decide) (by decide)
        clear hout hin
        exact gc_part (.const (.int .u64 1)) (.tmp 24) rfl rfl h24 (wanted_none rfl) rfl
      · intro w9 hb9 fr hout hin
        have h8 : fr.tmps.getD 8 undef = .int .u64 1 := hout 8 (by decide)
        clear hout hin
        exact relStep_move (.tmp 8) rfl (wanted_none rfl) (by show fr.tmps.getD 8 undef = _; exact h8)
      · intro w9 hb9 fr hout hin
        have h2 : fr.tmps.getD 2 undef = .pointer (some ⟨w.heap.size, 0, none⟩) := hout 2 (by decide)
        clear hout hin
        exact gc_faR (.tmp 2) rfl (by omega) h2 (wanted_none rfl) rfl
      · intro w9 hb9 fr hout hin
        have h27 : fr.tmps.getD 27 undef = .pointer (some ⟨w.heap.size, 2, none⟩) := hin 27 (by decide) (by decide)
        clear hout hin
        exact gs_load (.tmp 27) rfl gs_u64 h27 (HN2.out _ _ (HR.out.below hb9 HR.out.lt)) (wanted_none rfl) rfl
      · intro w9 hb9 fr hout hin
        have h26 : fr.tmps.getD 26 undef = .int .u64 (1 : Nat) := hin 26 (by decide) (by decide)
        have h28 : fr.tmps.getD 28 undef = .int .u64 (n2 : Nat) := hin 28 (by decide) (by decide)
        clear hout hin
        exact gc_part (.tmp 26) (.tmp 28) rfl h26 h28 (wanted_none rfl) rfl
      · intro w9 hb9 fr hout hin
        have h7 : fr.tmps.getD 7 undef = .int .u64 (z : Nat) := hout 7 (by decide)
        clear hout hin
        exact relStep_move (.tmp 7) rfl (wanted_none rfl) (by show fr.tmps.getD 7 undef = _; rw [h7])
      · intro w9 hb9 fr hout hin
        have h2 : fr.tmps.getD 2 undef = .pointer (some ⟨w.heap.size, 0, none⟩) := hout 2 (by decide)
        clear hout hin
        exact gc_faR (.tmp 2) rfl (by omega) h2 (wanted_none rfl) rfl
      · intro w9 hb9 fr hout hin
        have h31 : fr.tmps.getD 31 undef = .pointer (some ⟨w.heap.size, 3, none⟩) := hin 31 (by decide) (by decide)
        clear hout hin
        exact gs_load (.tmp 31) rfl gs_u64 h31 (HN3.out _ _ (HR.out.below hb9 HR.out.lt)) (wanted_none rfl) rfl
      · intro w9 hb9 fr hout hin
        have h30 : fr.tmps.getD 30 undef = .int .u64 (z : Nat) := hin 30 (by decide) (by decide)
        have h32 : fr.tmps.getD 32 undef = .int .u64 (n3 : Nat) := hin 32 (by decide) (by decide)
        clear hout hin
        exact gc_part (.tmp 30) (.tmp 32) rfl h30 h32 (wanted_none rfl) rfl
      · intro w9 hb9 fr hout hin
        have h6 : fr.tmps.getD 6 undef = .int .u64 (D : Nat) := hout 6 (by decide)
        clear hout hin
        exact relStep_move (.tmp 6) rfl (wanted_none rfl) (by show fr.tmps.getD 6 undef = _; rw [h6])
      · intro w9 hb9 fr hout hin
        have h7 : fr.tmps.getD 7 undef = .int .u64 (z : Nat) := hout 7 (by decide)
        clear hout hin
        exact relStep_move (.tmp 7) rfl (wanted_none rfl) (by show fr.tmps.getD 7 undef = _; rw [h7])
      · intro w9 hb9 fr hout hin
        have h34 : fr.tmps.getD 34 undef = .int .u64 (D : Nat) := hin 34 (by decide) (by decide)
        have h35 : fr.tmps.getD 35 undef = .int .u64 (z : Nat) := hin 35 (by decide) (by decide)
        clear hout hin
        exact gs_bin .sub 22 (.tmp 34) (.tmp 35) _ rfl h34 h35 (fun w => by go_simp) (fun w => by have := E1.out; go_simp) (wanted_none rfl) rfl
      · intro w9 hb9 fr hout hin
        have h2 : fr.tmps.getD 2 undef = .pointer (some ⟨w.heap.size, 0, none⟩) := hout 2 (by decide)
        clear hout hin
        exact gc_faR (.tmp 2) rfl (by omega) h2 (wanted_none rfl) rfl
      · intro w9 hb9 fr hout hin
        have h37 : fr.tmps.getD 37 undef = .pointer (some ⟨w.heap.size, 4, none⟩) := hin 37 (by decide) (by decide)
        clear hout hin
        exact gs_load (.tmp 37) rfl gs_u64 h37 (HN4.out _ _ (HR.out.below hb9 HR.out.lt)) (wanted_none rfl) rfl
      · intro w9 hb9 fr hout hin
        have h36 : fr.tmps.getD 36 undef = .int .u64 (o : Nat) := hin 36 (by decide) (by decide)
        have h38 : fr.tmps.getD 38 undef = .int .u64 (n4 : Nat) := hin 38 (by decide) (by decide)
        clear hout hin
        exact gc_part (.tmp 36) (.tmp 38) rfl h36 h38 (wanted_none rfl) rfl
      · intro w9 hb9 fr hout hin
        have h3 : fr.tmps.getD 3 undef = .pointer (some ⟨w.heap.size + 1, 0, none⟩) := hout 3 (by decide)
        clear hout hin
        exact gc_faX (.tmp 3) rfl h3 (wanted_none rfl) rfl
      · intro w9 hb9 fr hout hin
        have h40 : fr.tmps.getD 40 undef = .pointer (some ⟨w.heap.size + 1, 38, none⟩) := hin 40 (by decide) (by decide)
        clear hout hin
        exact gs_load (.tmp 40) rfl gc_accT h40 ((hb9.cell (p := ⟨w.heap.size + 1, 38, none⟩) HL.out).trans HC.out) (wanted_none rfl) rfl
      · intro w9 hb9 fr hout hin
        have h41 : fr.tmps.getD 41 undef = .slice A N c := hin 41 (by decide) (by decide)
        clear hout hin
        exact gc_lenA (.tmp 41) rfl h41 (wanted_none rfl) rfl
      · intro w9 hb9 fr hout hin
        have h42 : fr.tmps.getD 42 undef = .int .i64 (N : Nat) := hin 42 (by decide) (by decide)
        clear hout hin
        exact gs_conv (.tmp 42) rfl h42 (wanted_none rfl) (by rw [E2.out]; rfl)
      · intro w9 hb9 fr hout hin
        have h2 : fr.tmps.getD 2 undef = .pointer (some ⟨w.heap.size, 0, none⟩) := hout 2 (by decide)
        clear hout hin
        exact gc_faR (.tmp 2) rfl (by omega) h2 (wanted_none rfl) rfl
      · intro w9 hb9 fr hout hin
        have h44 : fr.tmps.getD 44 undef = .pointer (some ⟨w.heap.size, 5, none⟩) := hin 44 (by decide) (by decide)
        clear hout hin
        exact gs_load (.tmp 44) rfl gs_u64 h44 (HN5.out _ _ (HR.out.below hb9 HR.out.lt)) (wanted_none rfl) rfl
      · intro w9 hb9 fr hout hin
        have h43 : fr.tmps.getD 43 undef = .int .u64 (N : Nat) := hin 43 (by decide) (by decide)
        have h45 : fr.tmps.getD 45 undef = .int .u64 (n5 : Nat) := hin 45 (by decide) (by decide)
        clear hout hin
        exact gc_part (.tmp 43) (.tmp 45) rfl h43 h45 (wanted_none rfl) rfl
      · intro w9 hb9 fr hout hin
        have h3 : fr.tmps.getD 3 undef = .pointer (some ⟨w.heap.size + 1, 0, none⟩) := hout 3 (by decide)
        clear hout hin
        exact gc_faX (.tmp 3) rfl h3 (wanted_none rfl) rfl
      · intro w9 hb9 fr hout hin
        have h47 : fr.tmps.getD 47 undef = .pointer (some ⟨w.heap.size + 1, 38, none⟩) := hin 47 (by decide) (by decide)
        clear hout hin
        exact gs_load (.tmp 47) rfl gc_accT h47 ((hb9.cell (p := ⟨w.heap.size + 1, 38, none⟩) HL.out).trans HC.out) (wanted_none rfl) rfl
      · intro w9 hb9 fr hout hin
        have h48 : fr.tmps.getD 48 undef = .slice A N c := hin 48 (by decide) (by decide)
        clear hout hin
        exact gs_call1 (.tmp 48) rfl en_gcKeys (wanted_none rfl) (by rw [show fr.eval (.tmp 48) = _ from h48]; exact (KY.out w9 hb9).mono fun _ _ h => RetV.gs h) (fun _ _ h => h)
      · intro w9 hb9 fr hout hin
        have h2 : fr.tmps.getD 2 undef = .pointer (some ⟨w.heap.size, 0, none⟩) := hout 2 (by decide)
        clear hout hin
        exact gc_faR (.tmp 2) rfl (by omega) h2 (wanted_none rfl) rfl
      · intro w9 hb9 fr hout hin
        have h50 : fr.tmps.getD 50 undef = .pointer (some ⟨w.heap.size, 6, none⟩) := hin 50 (by decide) (by decide)
        clear hout hin
        exact gs_load (.tmp 50) rfl gs_u64 h50 (HN6.out _ _ (HR.out.below hb9 HR.out.lt)) (wanted_none rfl) rfl
      · intro w9 hb9 fr hout hin
        have h49 : fr.tmps.getD 49 undef = .int .u64 (S : Nat) := hin 49 (by decide) (by decide)
        have h51 : fr.tmps.getD 51 undef = .int .u64 (n6 : Nat) := hin 51 (by decide) (by decide)
        clear hout hin
        exact gc_part (.tmp 49) (.tmp 51) rfl h49 h51 (wanted_none rfl) rfl
      · intro w9 hb9 fr hout hin
        have h9 : fr.tmps.getD 9 undef = .int .u64 (q : Nat) := hout 9 (by decide)
        clear hout hin
        exact relStep_move (.tmp 9) rfl (wanted_none rfl) (by show fr.tmps.getD 9 undef = _; exact h9)
      · intro w9 hb9 fr hout hin
        have h2 : fr.tmps.getD 2 undef = .pointer (some ⟨w.heap.size, 0, none⟩) := hout 2 (by decide)
        clear hout hin
        exact gc_faR (.tmp 2) rfl (by omega) h2 (wanted_none rfl) rfl
      · intro w9 hb9 fr hout hin
        have h54 : fr.tmps.getD 54 undef = .pointer (some ⟨w.heap.size, 7, none⟩) := hin 54 (by decide) (by decide)
        clear hout hin
        exact gs_load (.tmp 54) rfl gs_u64 h54 (HN7.out _ _ (HR.out.below hb9 HR.out.lt)) (wanted_none rfl) rfl
      · intro w9 hb9 fr hout hin
        have h53 : fr.tmps.getD 53 undef = .int .u64 (q : Nat) := hin 53 (by decide) (by decide)
        have h55 : fr.tmps.getD 55 undef = .int .u64 (n7 : Nat) := hin 55 (by decide) (by decide)
        clear hout hin
        exact gc_part (.tmp 53) (.tmp 55) rfl h53 h55 (wanted_none rfl) rfl
      · intro w9 hb9 fr hout hin
        have h25 : fr.tmps.getD 25 undef = .agg #[.int .u64 1, .int .u64 (n1 : Nat)] := hin 25 (by decide) (by decide)
        have h29 : fr.tmps.getD 29 undef = .agg #[.int .u64 (1 : Nat), .int .u64 (n2 : Nat)] := hin 29 (by decide) (by decide)
        have h33 : fr.tmps.getD 33 undef = .agg #[.int .u64 (z : Nat), .int .u64 (n3 : Nat)] := hin 33 (by decide) (by decide)
        have h39 : fr.tmps.getD 39 undef = .agg #[.int .u64 (o : Nat), .int .u64 (n4 : Nat)] := hin 39 (by decide) (by decide)
        have h46 : fr.tmps.getD 46 undef = .agg #[.int .u64 (N : Nat), .int .u64 (n5 : Nat)] := hin 46 (by decide) (by decide)
        have h52 : fr.tmps.getD 52 undef = .agg #[.int .u64 (S : Nat), .int .u64 (n6 : Nat)] := hin 52 (by decide) (by decide)
        have h56 : fr.tmps.getD 56 undef = .agg #[.int .u64 (q : Nat), .int .u64 (n7 : Nat)] := hin 56 (by decide) (by decide)
        clear hout hin
        exact gc_parts7 (.tmp 25) (.tmp 29) (.tmp 33) (.tmp 39) (.tmp 46) (.tmp 52) (.tmp 56) rfl h25 h29 h33 h39 h46 h52 h56 (wanted_none rfl) (fun _ _ h => h)
      · intro w9 hb9 fr hout hin
        have h57 : FParts [(1, n1), (1, n2), (z, n3), (o, n4), (N, n5), (S, n6), (q, n7)] 7 w9 (fr.tmps.getD 57 undef) := hin 57 (by decide) (by decide)
        clear hout hin
        exact gs_call1 (.tmp 57) rfl en_gcTotal (wanted_none rfl) (by obtain ⟨g9, e9, hp9⟩ := h57; rw [show fr.eval (.tmp 57) = _ from e9]; exact (KT.out w9 g9 hp9).mono fun _ _ h => RetV.gs h) (fun _ _ h => h)
      · intro w9 hb9 fr hout hin
        have h58 : fr.tmps.getD 58 undef = .tuple #[.int .u64 I, .bool true] := hin 58 (by decide) (by decide)
        clear hout hin
        exact gs_ext (.tmp 58) 0 rfl h58 rfl (wanted_none rfl) rfl
      · intro w9 hb9 fr hout hin
        have h58 : fr.tmps.getD 58 undef = .tuple #[.int .u64 I, .bool true] := hin 58 (by decide) (by decide)
        clear hout hin
        exact gs_ext (.tmp 58) 1 rfl h58 rfl (wanted_none rfl) rfl
      · intro w9 hb9 fr hout hin
        have h59 : fr.tmps.getD 59 undef = .int .u64 I := hin 59 (by decide) (by decide)
        clear hout hin
        exact relStep_assign (.tmp 59) rfl (wanted_none rfl) (by show fr.tmps.getD 59 undef = _; rw [h59])
      · intro w9 hb9 fr hout hin
        have h60 : fr.tmps.getD 60 undef = .bool true := hin 60 (by decide) (by decide)
        clear hout hin
        exact relStep_assign (.tmp 60) rfl (wanted_none rfl) (by show fr.tmps.getD 60 undef = _; rw [h60])
    intro X9 hb9
    refine relAsk_in (by rfl) ?_
    intro v23 h23
    obtain rfl : v23 = .pointer (some ⟨w.heap.size, 1, none⟩) := h23
    refine relAsk_in (by rfl) ?_
    intro v24 h24
    obtain rfl : v24 = .int .u64 (n1 : Nat) := h24
    refine relAsk_in (by rfl) ?_
    intro v25 h25
    obtain rfl : v25 = .agg #[.int .u64 1, .int .u64 (n1 : Nat)] := h25
    refine relAsk_in (by rfl) ?_
    intro v26 h26
    obtain rfl : v26 = .int .u64 (1 : Nat) := h26
    refine relAsk_in (by rfl) ?_
    intro v27 h27
    obtain rfl : v27 = .pointer (some ⟨w.heap.size, 2, none⟩) := h27
    refine relAsk_in (by rfl) ?_
    intro v28 h28
    obtain rfl : v28 = .int .u64 (n2 : Nat) := h28
    refine relAsk_in (by rfl) ?_
    intro v29 h29
    obtain rfl : v29 = .agg #[.int .u64 (1 : Nat), .int .u64 (n2 : Nat)] := h29
    refine relAsk_in (by rfl) ?_
    intro v30 h30
    obtain rfl : v30 = .int .u64 (z : Nat) := h30
    refine relAsk_in (by rfl) ?_
    intro v31 h31
    obtain rfl : v31 = .pointer (some ⟨w.heap.size, 3, none⟩) := h31
    refine relAsk_in (by rfl) ?_
    intro v32 h32
    obtain rfl : v32 = .int .u64 (n3 : Nat) := h32
    refine relAsk_in (by rfl) ?_
    intro v33 h33
    obtain rfl : v33 = .agg #[.int .u64 (z : Nat), .int .u64 (n3 : Nat)] := h33
    refine relAsk_in (by rfl) ?_
    intro v34 h34
    obtain rfl : v34 = .int .u64 (D : Nat) := h34
    refine relAsk_in (by rfl) ?_
    intro v35 h35
    obtain rfl : v35 = .int .u64 (z : Nat) := h35
    refine relAsk_in (by rfl) ?_
    intro v36 h36
    obtain rfl : v36 = .int .u64 (o : Nat) := h36
    refine relAsk_in (by rfl) ?_
    intro v37 h37
    obtain rfl : v37 = .pointer (some ⟨w.heap.size, 4, none⟩) := h37
    refine relAsk_in (by rfl) ?_
    intro v38 h38
    obtain rfl : v38 = .int .u64 (n4 : Nat) := h38
    refine relAsk_in (by rfl) ?_
    intro v39 h39
    obtain rfl : v39 = .agg #[.int .u64 (o : Nat), .int .u64 (n4 : Nat)] := h39
    refine relAsk_in (by rfl) ?_
    intro v40 h40
    obtain rfl : v40 = .pointer (some ⟨w.heap.size + 1, 38, none⟩) := h40
    refine relAsk_in (by rfl) ?_
    intro v41 h41
    obtain rfl : v41 = .slice A N c := h41
    refine relAsk_in (by rfl) ?_
    intro v42 h42
    obtain rfl : v42 = .int .i64 (N : Nat) := h42
    refine relAsk_in (by rfl) ?_
    intro v43 h43
    obtain rfl : v43 = .int .u64 (N : Nat) := h43
    refine relAsk_in (by rfl) ?_
    intro v44 h44
    obtain rfl : v44 = .pointer (some ⟨w.heap.size, 5, none⟩) := h44
    refine relAsk_in (by rfl) ?_
    intro v45 h45
    obtain rfl : v45 = .int .u64 (n5 : Nat) := h45
    refine relAsk_in (by rfl) ?_
    intro v46 h46
    obtain rfl : v46 = .agg #[.int .u64 (N : Nat), .int .u64 (n5 : Nat)] := h46
    refine relAsk_in (by rfl) ?_
    intro v47 h47
    obtain rfl : v47 = .pointer (some ⟨w.heap.size + 1, 38, none⟩) := h47
    refine relAsk_in (by rfl) ?_
    intro v48 h48
    obtain rfl : v48 = .slice A N c := h48
    refine relAsk_in (by rfl) ?_
    intro v49 h49
    obtain rfl : v49 = .int .u64 (S : Nat) := h49
    refine relAsk_in (by rfl) ?_
    intro v50 h50
    obtain rfl : v50 = .pointer (some ⟨w.heap.size, 6, none⟩) := h50
    refine relAsk_in (by rfl) ?_
    intro v51 h51
    obtain rfl : v51 = .int .u64 (n6 : Nat) := h51
    refine relAsk_in (by rfl) ?_
    intro v52 h52
    obtain rfl : v52 = .agg #[.int .u64 (S : Nat), .int .u64 (n6 : Nat)] := h52
    refine relAsk_in (by rfl) ?_
    intro v53 h53
    obtain rfl : v53 = .int .u64 (q : Nat) := h53
    refine relAsk_in (by rfl) ?_
    intro v54 h54
    obtain rfl : v54 = .pointer (some ⟨w.heap.size, 7, none⟩) := h54
    refine relAsk_in (by rfl) ?_
    intro v55 h55
    obtain rfl : v55 = .int .u64 (n7 : Nat) := h55
    refine relAsk_in (by rfl) ?_
    intro v56 h56
    obtain rfl : v56 = .agg #[.int .u64 (q : Nat), .int .u64 (n7 : Nat)] := h56
    refine relAsk_in (by rfl) ?_
    intro v57 h57
    refine relAsk_in (by rfl) ?_
    intro v58 h58
    obtain rfl : v58 = .tuple #[.int .u64 I, .bool true] := h58
    refine relAsk_in (by rfl) ?_
    intro v59 h59
    obtain rfl : v59 = .int .u64 I := h59
    refine relAsk_in (by rfl) ?_
    intro v60 h60
    obtain rfl : v60 = .bool true := h60
    refine relAsk_in (by rfl) ?_
    intro v4 h4
    obtain rfl : v4 = .int .u64 I := h4
    refine relAsk_in (by rfl) ?_
    intro v5 h5
    obtain rfl : v5 = .bool true := h5
    refine relAsk_nil ?_
    refine wpList_nil ?_
    go_simp
    go_wp2_with fail
    exact bodyPost_ret (v := .tuple #[.int .u64 I, .bool true]) (by simp [results, Try.results30, go_sem]) rfl ⟨rfl, HB.out.trans (hb9.mono HB.out.size)⟩
  | false =>
    have hI2 : I = ((1 * n1 + (0 * n2 + (z * n3 + (o * n4 + (N * n5 + (S * n6 + (0 * n7 + 0)))))) : Nat) : Int) := by
      rw [HI.out]
      simp only [Bool.false_eq_true, if_false]
      rw [Nat.zero_mul, Nat.zero_mul]
      generalize z * n3 = a1
      generalize o * n4 = a2
      generalize N * n5 = a3
      generalize S * n6 = a4
      omega
    have KT := Lib.hid (HTOT.out 0 0 (by omega) (by have := HQ.out; omega) hI2)
    clear HTOT HI HQ hI2
    go_upto_region 6 with (fail)
    clear y12 y37 v1 v2 KW
    refine wp_region_see 40 [23, 24, 25, 26, 27, 28, 29, 30, 31, 32, 33, 34, 35, 36, 37, 38, 39, 40, 41, 42, 43, 44, 45, 46, 47, 48, 49, 50, 51, 52, 53, 54, 55, 56, 57, 58, 59, 60, 4, 5] [(23, .is (.pointer (some ⟨w.heap.size, 1, none⟩))), (24, .is (.int .u64 (n1 : Nat))), (25, .is (.agg #[.int .u64 1, .int .u64 (n1 : Nat)])), (26, .is (.int .u64 (0 : Nat))), (27, .is (.pointer (some ⟨w.heap.size, 2, none⟩))), (28, .is (.int .u64 (n2 : Nat))), (29, .is (.agg #[.int .u64 (0 : Nat), .int .u64 (n2 : Nat)])), (30, .is (.int .u64 (z : Nat))), (31, .is (.pointer (some ⟨w.heap.size, 3, none⟩))), (32, .is (.int .u64 (n3 : Nat))), (33, .is (.agg #[.int .u64 (z : Nat), .int .u64 (n3 : Nat)])), (34, .is (.int .u64 (D : Nat))), (35, .is (.int .u64 (z : Nat))), (36, .is (.int .u64 (o : Nat))), (37, .is (.pointer (some ⟨w.heap.size, 4, none⟩))), (38, .is (.int .u64 (n4 : Nat))), (39, .is (.agg #[.int .u64 (o : Nat), .int .u64 (n4 : Nat)])), (40, .is (.pointer (some ⟨w.heap.size + 1, 38, none⟩))), (41, .is (.slice A N c)), (42, .is (.int .i64 (N : Nat))), (43, .is (.int .u64 (N : Nat))), (44, .is (.pointer (some ⟨w.heap.size, 5, none⟩))), (45, .is (.int .u64 (n5 : Nat))), (46, .is (.agg #[.int .u64 (N : Nat), .int .u64 (n5 : Nat)])), (47, .is (.pointer (some ⟨w.heap.size + 1, 38, none⟩))), (48, .is (.slice A N c)), (49, .is (.int .u64 (S : Nat))), (50, .is (.pointer (some ⟨w.heap.size, 6, none⟩))), (51, .is (.int .u64 (n6 : Nat))), (52, .is (.agg #[.int .u64 (S : Nat), .int .u64 (n6 : Nat)])), (53, .is (.int .u64 (0 : Nat))), (54, .is (.pointer (some ⟨w.heap.size, 7, none⟩))), (55, .is (.int .u64 (n7 : Nat))), (56, .is (.agg #[.int .u64 (0 : Nat), .int .u64 (n7 : Nat)])), (57, .parts [(1, n1), (0, n2), (z, n3), (o, n4), (N, n5), (S, n6), (0, n7)] 7), (58, .is (.tuple #[.int .u64 I, .bool true])), (59, .is (.int .u64 I)), (60, .is (.bool true)), (4, .is (.int .u64 I)), (5, .is (.bool true))] (by kernel_rfl) (by kernel_rfl) (by rfl) ?_ ?_
    · refine seeOps_cons ?_ (seeOps_cons ?_ (seeOps_cons ?_ (seeOps_cons ?_ (seeOps_cons ?_ (seeOps_cons ?_ (seeOps_cons ?_ (seeOps_cons ?_ (seeOps_cons ?_ (seeOps_cons ?_ (seeOps_cons ?_ (seeOps_cons ?_ (seeOps_cons ?_ (seeOps_cons ?_ (seeOps_cons ?_ (seeOps_cons ?_ (seeOps_cons ?_ (seeOps_cons ?_ (seeOps_cons ?_ (seeOps_cons ?_ (seeOps_cons ?_ (seeOps_cons ?_ (seeOps_cons ?_ (seeOps_cons ?_ (seeOps_cons ?_ (seeOps_cons ?_ (seeOps_cons ?_ (seeOps_cons ?_ (seeOps_cons ?_ (seeOps_cons ?_ (seeOps_cons ?_ (seeOps_cons ?_ (seeOps_cons ?_ (seeOps_cons ?_ (seeOps_cons ?_ (seeOps_cons ?_ (seeOps_cons ?_ (seeOps_cons ?_ (seeOps_cons ?_ (seeOps_cons ?_ seeOps_nil)))))))))))))))))))))))))))))))))))))))
      · intro w9 hb9 fr hout hin
        have h2 : fr.tmps.getD 2 undef = .pointer (some ⟨w.heap.size, 0, none⟩) := hout 2 (by decide)
        clear hout hin
        exact gc_faR (.tmp 2) rfl (by omega) h2 (wanted_none rfl) rfl
      · intro w9 hb9 fr hout hin
        have h23 : fr.tmps.getD 23 undef = .pointer (some ⟨w.heap.size, 1, none⟩) := hin 23 (by decide) (by decide)
        clear hout hin
        exact gs_load (.tmp 23) rfl gs_u64 h23 (HN1.out _ _ (HR.out.below hb9 HR.out.lt)) (wanted_none rfl) rfl
      · intro w9 hb9 fr hout hin
        have h24 : fr.tmps.getD 24 undef = .int .u64 (n1 : Nat) := hin 24 (by decide) (by decide)
        clear hout hin
        exact gc_part (.const (.int .u64 1)) (.tmp 24) rfl rfl h24 (wanted_none rfl) rfl
      · intro w9 hb9 fr hout hin
        have h8 : fr.tmps.getD 8 undef = .int .u64 0 := hout 8 (by decide)
        clear hout hin
        exact relStep_move (.tmp 8) rfl (wanted_none rfl) (by show fr.tmps.getD 8 undef = _; exact h8)
      · intro w9 hb9 fr hout hin
        have h2 : fr.tmps.getD 2 undef = .pointer (some ⟨w.heap.size, 0, none⟩) := hout 2 (by decide)
        clear hout hin
        exact gc_faR (.tmp 2) rfl (by omega) h2 (wanted_none rfl) rfl
      · intro w9 hb9 fr hout hin
        have h27 : fr.tmps.getD 27 undef = .pointer (some ⟨w.heap.size, 2, none⟩) := hin 27 (by decide) (by decide)
        clear hout hin
        exact gs_load (.tmp 27) rfl gs_u64 h27 (HN2.out _ _ (HR.out.below hb9 HR.out.lt)) (wanted_none rfl) rfl
      · intro w9 hb9 fr hout hin
        have h26 : fr.tmps.getD 26 undef = .int .u64 (0 : Nat) := hin 26 (by decide) (by decide)
        have h28 : fr.tmps.getD 28 undef = .int .u64 (n2 : Nat) := hin 28 (by decide) (by decide)
        clear hout hin
        exact gc_part (.tmp 26) (.tmp 28) rfl h26 h28 (wanted_none rfl) rfl
      · intro w9 hb9 fr hout hin
        have h7 : fr.tmps.getD 7 undef = .int .u64 (z : Nat) := hout 7 (by decide)
        clear hout hin
        exact relStep_move (.tmp 7) rfl (wanted_none rfl) (by show fr.tmps.getD 7 undef = _; rw [h7])
      · intro w9 hb9 fr hout hin
        have h2 : fr.tmps.getD 2 undef = .pointer (some ⟨w.heap.size, 0, none⟩) := hout 2 (by decide)
        clear hout hin
        exact gc_faR (.tmp 2) rfl (by omega) h2 (wanted_none rfl) rfl
      · intro w9 hb9 fr hout hin
        have h31 : fr.tmps.getD 31 undef = .pointer (some ⟨w.heap.size, 3, none⟩) := hin 31 (by decide) (by decide)
        clear hout hin
        exact gs_load (.tmp 31) rfl gs_u64 h31 (HN3.out _ _ (HR.out.below hb9 HR.out.lt)) (wanted_none rfl) rfl
      · intro w9 hb9 fr hout hin
        have h30 : fr.tmps.getD 30 undef = .int .u64 (z : Nat) := hin 30 (by decide) (by decide)
        have h32 : fr.tmps.getD 32 undef = .int .u64 (n3 : Nat) := hin 32 (by decide) (by decide)
        clear hout hin
        exact gc_part (.tmp 30) (.tmp 32) rfl h30 h32 (wanted_none rfl) rfl
      · intro w9 hb9 fr hout hin
        have h6 : fr.tmps.getD 6 undef = .int .u64 (D : Nat) := hout 6 (by decide)
        clear hout hin
        exact relStep_move (.tmp 6) rfl (wanted_none rfl) (by show fr.tmps.getD 6 undef = _; rw [h6])
      · intro w9 hb9 fr hout hin
        have h7 : fr.tmps.getD 7 undef = .int .u64 (z : Nat) := hout 7 (by decide)
        clear hout hin
        exact relStep_move (.tmp 7) rfl (wanted_none rfl) (by show fr.tmps.getD 7 undef = _; rw [h7])
      · intro w9 hb9 fr hout hin
        have h34 : fr.tmps.getD 34 undef = .int .u64 (D : Nat) := hin 34 (by decide) (by decide)
        have h35 : fr.tmps.getD 35 undef = .int .u64 (z : Nat) := hin 35 (by decide) (by decide)
        clear hout hin
        exact gs_bin .sub 22 (.tmp 34) (.tmp 35) _ rfl h34 h35 (fun w => by go_simp) (fun w => by have := E1.out; go_simp) (wanted_none rfl) rfl
      · intro w9 hb9 fr hout hin
        have h2 : fr.tmps.getD 2 undef = .pointer (some ⟨w.heap.size, 0, none⟩) := hout 2 (by decide)
        clear hout hin
        exact gc_faR (.tmp 2) rfl (by omega) h2 (wanted_none rfl) rfl
      · intro w9 hb9 fr hout hin
        have h37 : fr.tmps.getD 37 undef = .pointer (some ⟨w.heap.size, 4, none⟩) := hin 37 (by decide) (by decide)
        clear hout hin
        exact gs_load (.tmp 37) rfl gs_u64 h37 (HN4.out _ _ (HR.out.below hb9 HR.out.lt)) (wanted_none rfl) rfl
      · intro w9 hb9 fr hout hin
        have h36 : fr.tmps.getD 36 undef = .int .u64 (o : Nat) := hin 36 (by decide) (by decide)
        have h38 : fr.tmps.getD 38 undef = .int .u64 (n4 : Nat) := hin 38 (by decide) (by decide)
        clear hout hin
        exact gc_part (.tmp 36) (.tmp 38) rfl h36 h38 (wanted_none rfl) rfl
      · intro w9 hb9 fr hout hin
        have h3 : fr.tmps.getD 3 undef = .pointer (some ⟨w.heap.size + 1, 0, none⟩) := hout 3 (by decide)
        clear hout hin
        exact gc_faX (.tmp 3) rfl h3 (wanted_none rfl) rfl
      · intro w9 hb9 fr hout hin
        have h40 : fr.tmps.getD 40 undef = .pointer (some ⟨w.heap.size + 1, 38, none⟩) := hin 40 (by decide) (by decide)
        clear hout hin
        exact gs_load (.tmp 40) rfl gc_accT h40 ((hb9.cell (p := ⟨w.heap.size + 1, 38, none⟩) HL.out).trans HC.out) (wanted_none rfl) rfl
      · intro w9 hb9 fr hout hin
        have h41 : fr.tmps.getD 41 undef = .slice A N c := hin 41 (by decide) (by decide)
        clear hout hin
        exact gc_lenA (.tmp 41) rfl h41 (wanted_none rfl) rfl
      · intro w9 hb9 fr hout hin
        have h42 : fr.tmps.getD 42 undef = .int .i64 (N : Nat) := hin 42 (by decide) (by decide)
        clear hout hin
        exact gs_conv (.tmp 42) rfl h42 (wanted_none rfl) (by rw [E2.out]; rfl)
      · intro w9 hb9 fr hout hin
        have h2 : fr.tmps.getD 2 undef = .pointer (some ⟨w.heap.size, 0, none⟩) := hout 2 (by decide)
        clear hout hin
        exact gc_faR (.tmp 2) rfl (by omega) h2 (wanted_none rfl) rfl
      · intro w9 hb9 fr hout hin
        have h44 : fr.tmps.getD 44 undef = .pointer (some ⟨w.heap.size, 5, none⟩) := hin 44 (by decide) (by decide)
        clear hout hin
        exact gs_load (.tmp 44) rfl gs_u64 h44 (HN5.out _ _ (HR.out.below hb9 HR.out.lt)) (wanted_none rfl) rfl
      · intro w9 hb9 fr hout hin
        have h43 : fr.tmps.getD 43 undef = .int .u64 (N : Nat) := hin 43 (by decide) (by decide)
        have h45 : fr.tmps.getD 45 undef = .int .u64 (n5 : Nat) := hin 45 (by decide) (by decide)
        clear hout hin
        exact gc_part (.tmp 43) (.tmp 45) rfl h43 h45 (wanted_none rfl) rfl
      · intro w9 hb9 fr hout hin
        have h3 : fr.tmps.getD 3 undef = .pointer (some ⟨w.heap.size + 1, 0, none⟩) := hout 3 (by decide)
        clear hout hin
        exact gc_faX (.tmp 3) rfl h3 (wanted_none rfl) rfl
      · intro w9 hb9 fr hout hin
        have h47 : fr.tmps.getD 47 undef = .pointer (some ⟨w.heap.size + 1, 38, none⟩) := hin 47 (by decide) (by decide)
        clear hout hin
        exact gs_load (.tmp 47) rfl gc_accT h47 ((hb9.cell (p := ⟨w.heap.size + 1, 38, none⟩) HL.out).trans HC.out) (wanted_none rfl) rfl
      · intro w9 hb9 fr hout hin
        have h48 : fr.tmps.getD 48 undef = .slice A N c := hin 48 (by decide) (by decide)
        clear hout hin
        exact gs_call1 (.tmp 48) rfl en_gcKeys (wanted_none rfl) (by rw [show fr.eval (.tmp 48) = _ from h48]; exact (KY.out w9 hb9).mono fun _ _ h => RetV.gs h) (fun _ _ h => h)
      · intro w9 hb9 fr hout hin
        have h2 : fr.tmps.getD 2 undef = .pointer (some ⟨w.heap.size, 0, none⟩) := hout 2 (by decide)
        clear hout hin
        exact gc_faR (.tmp 2) rfl (by omega) h2 (wanted_none rfl) rfl
      · intro w9 hb9 fr hout hin
        have h50 : fr.tmps.getD 50 undef = .pointer (some ⟨w.heap.size, 6, none⟩) := hin 50 (by decide) (by decide)
        clear hout hin
        exact gs_load (.tmp 50) rfl gs_u64 h50 (HN6.out _ _ (HR.out.below hb9 HR.out.lt)) (wanted_none rfl) rfl
      · intro w9 hb9 fr hout hin
        have h49 : fr.tmps.getD 49 undef = .int .u64 (S : Nat) := hin 49 (by decide) (by decide)
        have h51 : fr.tmps.getD 51 undef = .int .u64 (n6 : Nat) := hin 51 (by decide) (by decide)
        clear hout hin
        exact gc_part (.tmp 49) (.tmp 51) rfl h49 h51 (wanted_none rfl) rfl
      · intro w9 hb9 fr hout hin
        have h9 : fr.tmps.getD 9 undef = .int .u64 0 := hout 9 (by decide)
        clear hout hin
        exact relStep_move (.tmp 9) rfl (wanted_none rfl) (by show fr.tmps.getD 9 undef = _; exact h9)
      · intro w9 hb9 fr hout hin
        have h2 : fr.tmps.getD 2 undef = .pointer (some ⟨w.heap.size, 0, none⟩) := hout 2 (by decide)
        clear hout hin
        exact gc_faR (.tmp 2) rfl (by omega) h2 (wanted_none rfl) rfl
      · intro w9 hb9 fr hout hin
        have h54 : fr.tmps.getD 54 undef = .pointer (some ⟨w.heap.size, 7, none⟩) := hin 54 (by decide) (by decide)
        clear hout hin
        exact gs_load (.tmp 54) rfl gs_u64 h54 (HN7.out _ _ (HR.out.below hb9 HR.out.lt)) (wanted_none rfl) rfl
      · intro w9 hb9 fr hout hin
        have h53 : fr.tmps.getD 53 undef = .int .u64 (0 : Nat) := hin 53 (by decide) (by decide)
        have h55 : fr.tmps.getD 55 undef = .int .u64 (n7 : Nat) := hin 55 (by decide) (by decide)
        clear hout hin
        exact gc_part (.tmp 53) (.tmp 55) rfl h53 h55 (wanted_none rfl) rfl
      · intro w9 hb9 fr hout hin
        have h25 : fr.tmps.getD 25 undef = .agg #[.int .u64 1, .int .u64 (n1 : Nat)] := hin 25 (by decide) (by decide)
        have h29 : fr.tmps.getD 29 undef = .agg #[.int .u64 (0 : Nat), .int .u64 (n2 : Nat)] := hin 29 (by decide) (by decide)
        have h33 : fr.tmps.getD 33 undef = .agg #[.int .u64 (z : Nat), .int .u64 (n3 : Nat)] := hin 33 (by decide) (by decide)
        have h39 : fr.tmps.getD 39 undef = .agg #[.int .u64 (o : Nat), .int .u64 (n4 : Nat)] := hin 39 (by decide) (by decide)
        have h46 : fr.tmps.getD 46 undef = .agg #[.int .u64 (N : Nat), .int .u64 (n5 : Nat)] := hin 46 (by decide) (by decide)
        have h52 : fr.tmps.getD 52 undef = .agg #[.int .u64 (S : Nat), .int .u64 (n6 : Nat)] := hin 52 (by decide) (by decide)
        have h56 : fr.tmps.getD 56 undef = .agg #[.int .u64 (0 : Nat), .int .u64 (n7 : Nat)] := hin 56 (by decide) (by decide)
        clear hout hin
        exact gc_parts7 (.tmp 25) (.tmp 29) (.tmp 33) (.tmp 39) (.tmp 46) (.tmp 52) (.tmp 56) rfl h25 h29 h33 h39 h46 h52 h56 (wanted_none rfl) (fun _ _ h => h)
      · intro w9 hb9 fr hout hin
        have h57 : FParts [(1, n1), (0, n2), (z, n3), (o, n4), (N, n5), (S, n6), (0, n7)] 7 w9 (fr.tmps.getD 57 undef) := hin 57 (by decide) (by decide)
        clear hout hin
        exact gs_call1 (.tmp 57) rfl en_gcTotal (wanted_none rfl) (by obtain ⟨g9, e9, hp9⟩ := h57; rw [show fr.eval (.tmp 57) = _ from e9]; exact (KT.out w9 g9 hp9).mono fun _ _ h => RetV.gs h) (fun _ _ h => h)
      · intro w9 hb9 fr hout hin
        have h58 : fr.tmps.getD 58 undef = .tuple #[.int .u64 I, .bool true] := hin 58 (by decide) (by decide)
        clear hout hin
        exact gs_ext (.tmp 58) 0 rfl h58 rfl (wanted_none rfl) rfl
      · intro w9 hb9 fr hout hin
        have h58 : fr.tmps.getD 58 undef = .tuple #[.int .u64 I, .bool true] := hin 58 (by decide) (by decide)
        clear hout hin
        exact gs_ext (.tmp 58) 1 rfl h58 rfl (wanted_none rfl) rfl
      · intro w9 hb9 fr hout hin
        have h59 : fr.tmps.getD 59 undef = .int .u64 I := hin 59 (by decide) (by decide)
        clear hout hin
        exact relStep_assign (.tmp 59) rfl (wanted_none rfl) (by show fr.tmps.getD 59 undef = _; rw [h59])
      · intro w9 hb9 fr hout hin
        have h60 : fr.tmps.getD 60 undef = .bool true := hin 60 (by decide) (by decide)
        clear hout hin
        exact relStep_assign (.tmp 60) rfl (wanted_none rfl) (by show fr.tmps.getD 60 undef = _; rw [h60])
    intro X9 hb9
    refine relAsk_in (by rfl) ?_
    intro v23 h23
    obtain rfl : v23 = .pointer (some ⟨w.heap.size, 1, none⟩) := h23
    refine relAsk_in (by rfl) ?_
    intro v24 h24
    obtain rfl : v24 = .int .u64 (n1 : Nat) := h24
    refine relAsk_in (by rfl) ?_
    intro v25 h25
    obtain rfl : v25 = .agg #[.int .u64 1, .int .u64 (n1 : Nat)] := h25
    refine relAsk_in (by rfl) ?_
    intro v26 h26
    obtain rfl : v26 = .int .u64 (0 : Nat) := h26
    refine relAsk_in (by rfl) ?_
    intro v27 h27
    obtain rfl : v27 = .pointer (some ⟨w.heap.size, 2, none⟩) := h27
    refine relAsk_in (by rfl) ?_
    intro v28 h28
    obtain rfl : v28 = .int .u64 (n2 : Nat) := h28
    refine relAsk_in (by rfl) ?_
    intro v29 h29
    obtain rfl : v29 = .agg #[.int .u64 (0 : Nat), .int .u64 (n2 : Nat)] := h29
    refine relAsk_in (by rfl) ?_
    intro v30 h30
    obtain rfl : v30 = .int .u64 (z : Nat) := h30
    refine relAsk_in (by rfl) ?_
    intro v31 h31
    obtain rfl : v31 = .pointer (some ⟨w.heap.size, 3, none⟩) := h31
    refine relAsk_in (by rfl) ?_
    intro v32 h32
    obtain rfl : v32 = .int .u64 (n3 : Nat) := h32
    refine relAsk_in (by rfl) ?_
    intro v33 h33
    obtain rfl : v33 = .agg #[.int .u64 (z : Nat), .int .u64 (n3 : Nat)] := h33
    refine relAsk_in (by rfl) ?_
    intro v34 h34
    obtain rfl : v34 = .int .u64 (D : Nat) := h34
    refine relAsk_in (by rfl) ?_
    intro v35 h35
    obtain rfl : v35 = .int .u64 (z : Nat) := h35
    refine relAsk_in (by rfl) ?_
    intro v36 h36
    obtain rfl : v36 = .int .u64 (o : Nat) := h36
    refine relAsk_in (by rfl) ?_
    intro v37 h37
    obtain rfl : v37 = .pointer (some ⟨w.heap.size, 4, none⟩) := h37
    refine relAsk_in (by rfl) ?_
    intro v38 h38
    obtain rfl : v38 = .int .u64 (n4 : Nat) := h38
    refine relAsk_in (by rfl) ?_
    intro v39 h39
    obtain rfl : v39 = .agg #[.int .u64 (o : Nat), .int .u64 (n4 : Nat)] := h39
    refine relAsk_in (by rfl) ?_
    intro v40 h40
    obtain rfl : v40 = .pointer (some ⟨w.heap.size + 1, 38, none⟩) := h40
    refine relAsk_in (by rfl) ?_
    intro v41 h41
    obtain rfl : v41 = .slice A N c := h41
    refine relAsk_in (by rfl) ?_
    intro v42 h42
    obtain rfl : v42 = .int .i64 (N : Nat) := h42
    refine relAsk_in (by rfl) ?_
    intro v43 h43
    obtain rfl : v43 = .int .u64 (N : Nat) := h43
    refine relAsk_in (by rfl) ?_
    intro v44 h44
    obtain rfl : v44 = .pointer (some ⟨w.heap.size, 5, none⟩) := h44
    refine relAsk_in (by rfl) ?_
    intro v45 h45
    obtain rfl : v45 = .int .u64 (n5 : Nat) := h45
    refine relAsk_in (by rfl) ?_
    intro v46 h46
    obtain rfl : v46 = .agg #[.int .u64 (N : Nat), .int .u64 (n5 : Nat)] := h46
    refine relAsk_in (by rfl) ?_
    intro v47 h47
    obtain rfl : v47 = .pointer (some ⟨w.heap.size + 1, 38, none⟩) := h47
    refine relAsk_in (by rfl) ?_
    intro v48 h48
    obtain rfl : v48 = .slice A N c := h48
    refine relAsk_in (by rfl) ?_
    intro v49 h49
    obtain rfl : v49 = .int .u64 (S : Nat) := h49
    refine relAsk_in (by rfl) ?_
    intro v50 h50
    obtain rfl : v50 = .pointer (some ⟨w.heap.size, 6, none⟩) := h50
    refine relAsk_in (by rfl) ?_
    intro v51 h51
    obtain rfl : v51 = .int .u64 (n6 : Nat) := h51
    refine relAsk_in (by rfl) ?_
    intro v52 h52
    obtain rfl : v52 = .agg #[.int .u64 (S : Nat), .int .u64 (n6 : Nat)] := h52
    refine relAsk_in (by rfl) ?_
    intro v53 h53
    obtain rfl : v53 = .int .u64 (0 : Nat) := h53
    refine relAsk_in (by rfl) ?_
    intro v54 h54
    obtain rfl : v54 = .pointer (some ⟨w.heap.size, 7, none⟩) := h54
    refine relAsk_in (by rfl) ?_
    intro v55 h55
    obtain rfl : v55 = .int .u64 (n7 : Nat) := h55
    refine relAsk_in (by rfl) ?_
    intro v56 h56
    obtain rfl : v56 = .agg #[.int .u64 (0 : Nat), .int .u64 (n7 : Nat)] := h56
    refine relAsk_in (by rfl) ?_
    intro v57 h57
    refine relAsk_in (by rfl) ?_
    intro v58 h58
    obtain rfl : v58 = .tuple #[.int .u64 I, .bool true] := h58
    refine relAsk_in (by rfl) ?_
    intro v59 h59
    obtain rfl : v59 = .int .u64 I := h59
    refine relAsk_in (by rfl) ?_
    intro v60 h60
    obtain rfl : v60 = .bool true := h60
    refine relAsk_in (by rfl) ?_
    intro v4 h4
    obtain rfl : v4 = .int .u64 I := h4
    refine relAsk_in (by rfl) ?_
    intro v5 h5
    obtain rfl : v5 = .bool true := h5
    refine relAsk_nil ?_
    refine wpList_nil ?_
    go_simp
    go_wp2_with fail
    exact bodyPost_ret (v := .tuple #[.int .u64 I, .bool true]) (by simp [results, Try.results30, go_sem]) rfl ⟨rfl, HB.out.trans (hb9.mono HB.out.size)⟩
end Go.Proofs.Ytiflfcdegpmhnaa
namespace Go.Proofs.Ytiflfcdegpmhnaa
open Go.RowKit

theorem kf_small (f : Int) : (∀ i, 1 ≤ i → i ≤ 7 → 0 ≤ kf f i) ∧ kf f 1 ≤ 100000 ∧ kf f 2 ≤ 100000 ∧ kf f 3 ≤ 100 ∧ kf f 4 ≤ 100 ∧ kf f 5 ≤ 10000 ∧ kf f 6 ≤ 10000 ∧ kf f 7 ≤ 100 := by
  refine ⟨fun i h1 h7 => ?_, ?_, ?_, ?_, ?_, ?_, ?_, ?_⟩
  · rcases (show i = 1 ∨ i = 2 ∨ i = 3 ∨ i = 4 ∨ i = 5 ∨ i = 6 ∨ i = 7 by omega) with rfl | rfl | rfl | rfl | rfl | rfl | rfl <;> (simp only [kf, fromZ]; (repeat' split) <;> omega)
  all_goals (simp only [kf, fromZ]; (repeat' split) <;> omega)
/-- THE ADAPTOR: what the law asks of package gas's Intrinsic. -/
theorem gIntr (f : Int) (_h0 : 0 ≤ f) (_h1 : f ≤ 15) {cs : List Value} {mk : Bool} {bs ks : List Nat} (w : World) (h : TxT w cs mk bs ks) (hbs : bs.length ≤ 1000) (hks : ks.length ≤ 12) (hk12 : ∀ x ∈ ks, x ≤ 12) :
    Calls Try.prog 30 #[RK f, .agg cs.toArray] w (RetV (.tuple #[.int .u64 (intrZ (kf f) mk bs ks), .bool true]) w) := by
  obtain ⟨k0, k1, k2, k3, k4, k5, k6, k7⟩ := kf_small f
  exact pintr_c f (kf f) k0 k1 k2 k3 k4 k5 k6 k7 w h hbs hks hk12
theorem en_gsTx (args : Array Value) (w : World) : (callFunc 29 args).run Try.prog w = .ok (.enter 29 args) w := by go_simp
theorem en_gIntr (args : Array Value) (w : World) : (callFunc 30 args).run Try.prog w = .ok (.enter 30 args) w := by go_simp
theorem en_rIntr (args : Array Value) (w : World) : (callFunc 31 args).run Try.prog w = .ok (.enter 31 args) w := by go_simp
/-- A transaction by value. -/
def FTx (mk : Bool) (bs ks : List Nat) (w : World) (v : Value) : Prop := ∃ cs, v = .agg cs.toArray ∧ TxT w cs mk bs ks
def Fact.tx (mk : Bool) (bs ks : List Nat) : Fact := ⟨fun v w => FTx mk bs ks w v, fun _ _ _ hb ⟨cs, e, h⟩ => ⟨cs, e, h.below hb⟩⟩
/-- A transaction lies in a block. -/
structure TxAt (w : World) (g : Nat) (cs : List Value) (mk : Bool) (bs ks : List Nat) : Prop where
  at_ : w.heap[g]? = some (.cells cs.toArray 58 (0, 0))
  tx : TxT w cs mk bs ks
theorem TxAt.below {w w' : World} {g : Nat} {cs : List Value} {mk : Bool} {bs ks : List Nat} (h : TxAt w g cs mk bs ks) (hb : Below w.heap.size w w') : TxAt w' g cs mk bs ks :=
  ⟨(hb.block g (Array.getElem?_eq_some_iff.1 h.at_).1).trans h.at_, h.tx.below hb⟩
theorem TxAt.load {w : World} {g : Nat} {cs : List Value} {mk : Bool} {bs ks : List Nat} (h : TxAt w g cs mk bs ks) : (Instr.loadAt 58 (.pointer (some ⟨g, 0, none⟩))).run Try.prog w = .ok (.agg cs.toArray) w := by
  simp only [Instr.loadAt, Instr.sureAddr, Sem.run_bind, Sem.run_pure, Result.andThen_ok]
  exact run_loadVar_row w _ _ _ cs.toArray (0, 0) _ h.at_ Try.underlying58 rfl (by rw [infoTx, List.size_toArray, h.tx.len])
theorem mn_mn (l : List Nat) : ((l.map mn).take 12).map mn = (l.map mn).take 12 := by
  rw [← List.map_take, List.map_map]
  congr 1
  funext x
  show mn (mn x) = mn x
  unfold mn
  split <;> (try split) <;> omega
theorem intr_ge (f : Int) (mk : Bool) (bs ks : List Nat) (hk12 : ∀ x ∈ ks, x ≤ 12) : 21000 ≤ intrZ (kf f) mk bs ks := by
  obtain ⟨k0, k1, k2, k3, k4, k5, k6, k7⟩ := kf_small f
  have bD := (sumD_bound (k0 3 (by omega) (by omega)) k3 (k0 4 (by omega) (by omega)) k4 bs).1
  have bK := (sumK_bound (k0 5 (by omega) (by omega)) k5 (k0 6 (by omega) (by omega)) k6 ks hk12).1
  have e1 : kf f 1 = 21000 := rfl
  have p2 := k0 2 (by omega) (by omega)
  have p7 : 0 ≤ kf f 7 * ((bs.length + 31) / 32 : Nat) := Int.mul_nonneg (k0 7 (by omega) (by omega)) (by omega)
  unfold intrZ
  split <;> omega

set_option maxRecDepth 100000 in
set_option maxHeartbeats 12800000 in
theorem gasIntrinsic_c (w : World) (f : Int) (_ : -9223372036854775808 ≤ f) (_ : f < 9223372036854775808) {cs : List Value} {mk : Bool} {bs ks : List Nat} (h : TxT w cs mk bs ks) : Calls Try.prog 9 #[.int .i64 f, .agg cs.toArray] w (RetV (.bool true) w) := by
  have hg0 : 0 ≤ f % 16 := by omega
  have hg1 : f % 16 ≤ 15 := by omega
  obtain ⟨ks2, hks2⟩ : ∃ ks2, ks2 = (ks.take 12).map mn := ⟨_, rfl⟩
  have hlen2 : ks2.length ≤ 12 := by rw [hks2, List.length_map, List.length_take]; omega
  have hk12 : ∀ x ∈ ks2, x ≤ 12 := fun x hx => by
    rw [hks2] at hx
    obtain ⟨y, _, rfl⟩ := List.mem_map.1 hx
    unfold mn; split <;> omega
  have hmm : (ks2.take 12).map mn = ks2 := by
    rw [hks2, ← List.map_take, List.take_take, Nat.min_self, List.map_map]
    congr 1
    funext x
    show mn (mn x) = mn x
    unfold mn
    split <;> (try split) <;> omega
  have hbs2 : (bs.take 800).length ≤ 1000 := by rw [List.length_take]; omega
  have hbb : (bs.take 800).take 800 = bs.take 800 := by rw [List.take_take, Nat.min_self]
  obtain ⟨z, hz⟩ : ∃ z, z = intrZ (kf (f % 16)) mk (bs.take 800) ks2 := ⟨_, rfl⟩
  have HGE : Hid (21000 ≤ z) := by show 21000 ≤ z; rw [hz]; exact intr_ge _ _ _ _ hk12
  have HTW0 : Hid (∀ v, TxT v cs mk bs ks → Calls Try.prog 29 #[.agg cs.toArray] v fun e w' => ∃ cs', e = .returned (.agg cs'.toArray) ∧ TxT w' cs' mk (bs.take 800) ks2 ∧ Below v.heap.size v w') := fun v hv => by
    have h := txTwin_c v hv; rw [← hks2] at h; exact h
  have HTW : Hid (∀ {cs2 : List Value} v, TxT v cs2 mk (bs.take 800) ks2 → Calls Try.prog 29 #[.agg cs2.toArray] v (RetR (fun w' u => FTx mk (bs.take 800) ks2 w' u) v)) := fun v hv => by
    have h := txTwin_c v hv
    rw [hmm, hbb] at h
    exact h.mono fun e w' ⟨cs', e1, e2, e3⟩ => ⟨_, e1, ⟨cs', rfl, e2⟩, e3⟩
  have HGI : Hid (∀ v u, FTx mk (bs.take 800) ks2 v u → Calls Try.prog 30 #[.agg (RulesK (f % 16) (kf (f % 16))), u] v (RetV (.tuple #[.int .u64 z, .bool true]) v)) := fun v u ⟨cs', e, hv⟩ => by
    rw [e]
    have h := gIntr (f % 16) hg0 hg1 v hv hbs2 hlen2 hk12
    rw [← hz] at h; exact h
  have HRI : Hid (∀ {cs2 : List Value} v (_ : Unit), TxT v cs2 mk (bs.take 800) ks2 → Calls Try.prog 31 #[.agg (RulesK (f % 16) (kf (f % 16))), .agg cs2.toArray] v (RetV (.tuple #[.int .u64 z, .bool true]) v)) := fun v _ hv => by
    obtain ⟨k0, k1, k2, k3, k4, k5, k6, k7⟩ := kf_small (f % 16)
    have h := rintr_c (f % 16) (kf (f % 16)) k0 k1 k2 k3 k4 k5 k6 k7 v hv hbs2 hlen2 hk12
    rw [← hz] at h; exact h
  have hX0 : (w.alloc (.cells cs.toArray 58)).heap[w.heap.size]? = some (.cells cs.toArray 58 (0, 0)) := heap_alloc_new w _
  have hXl : w.heap.size < (w.alloc (.cells cs.toArray 58)).heap.size := by simp
  have hB := (Below.refl w.heap.size w).alloc (Nat.le_refl _) (.cells cs.toArray 58)
  have HH := Lib.hid h
  clear hg0 hg1 hks2 hlen2 hk12 hmm hbs2 hbb hz h
  go_enter Try.func9, Try.ntmps9
  go_upto_region 1 with (fail)
  generalize w.alloc (.cells cs.toArray 58) = X at *
  have HX0 : Hid (X.heap[w.heap.size]? = some (.cells cs.toArray 58 (0, 0)) ∧ w.heap.size < X.heap.size) := ⟨hX0, hXl⟩
  have HB0 := Lib.hid hB
  clear hX0 hXl hB
  go_wp2_with fail
  rename_i KK hKK
  (with_reducible refine (rules_c f _).mono ?_)
  rintro e1 w1 ⟨rfl, hb1⟩
  have HB1 := Lib.hid (HB0.out.trans (hb1.mono HB0.out.size))
  have HX1 := Lib.hid ((hb1.block w.heap.size HX0.out.2).trans HX0.out.1)
  have HXL := Lib.hid (Nat.lt_of_lt_of_le HX0.out.2 hb1.size)
  clear hb1
  show KK _ _
  refine hKK _ _ ?_
  clear hKK KK
  refine wpList_plain rfl fun K hK => ?_; go_simp; refine hK _ _ ?_; clear hK K
  have hg : (w1.alloc (.cells RulesZ 26)).heap[w1.heap.size]? = some (.cells RulesZ 26 (0, 0)) := heap_alloc_new w1 _
  have hb2 := HB1.out.alloc HB1.out.size (.cells RulesZ 26)
  refine wpList_store_row rfl 26 (.tmp 5) (.tmp 12) rfl w1.heap.size (RulesK (f % 16) (kf (f % 16))) rfl rfl 26 RulesZ hg infoRules rfl (rulesK_one _ _) ?_
  have hR : RulesAt ((w1.alloc (.cells RulesZ 26)).setRow w1.heap.size (RulesK (f % 16) (kf (f % 16)))) w1.heap.size (f % 16) (kf (f % 16)) := setRow_heap _ _ _ _ _ _ hg
  have hb3 := below_setRow hb2 HB1.out.size (RulesK (f % 16) (kf (f % 16)))
  have hk1 : Below w1.heap.size w1 ((w1.alloc (.cells RulesZ 26)).setRow w1.heap.size (RulesK (f % 16) (kf (f % 16)))) := below_setRow ((Below.refl _ _).alloc (Nat.le_refl _) _) (Nat.le_refl _) _
  show wpList _ _ _ _ _ ((w1.alloc (.cells RulesZ 26)).setRow w1.heap.size (RulesK (f % 16) (kf (f % 16))))
  generalize (w1.alloc (.cells RulesZ 26)).setRow w1.heap.size (RulesK (f % 16) (kf (f % 16))) = Y at *
  have HR := Lib.hid hR
  have HB2 := Lib.hid hb3
  have HX2 := Lib.hid ((hk1.block w.heap.size HXL.out).trans HX1.out)
  clear hg hb2 hR hb3 hk1
  refine wpList_nil ?_
  go_simp
  clear HX0 HX1 HXL HB0 HB1
  have HB := HB2
  clear HB2
  generalize f % 16 = g at *
  go_upto_region 2 with (fail)
  refine wp_region_lit ?_
  refine wpList_load_row rfl 58 (.tmp 3) rfl w.heap.size rfl 58 _ (0, 0) _ HX2.out Try.underlying58 rfl (by rw [infoTx, List.size_toArray, HH.out.len]) ?_
  go_simp
  go_wp2_with fail
  rename_i KK hKK
  (with_reducible refine (HTW0.out _ (HH.out.below HB.out)).mono ?_)
  rintro e2 w2 ⟨cs2, rfl, htx2, hb2⟩
  have HR1 := Lib.hid (HR.out.below hb2 HR.out.lt)
  have HBw := Lib.hid (HB.out.trans (hb2.mono HB.out.size))
  have HT2 := Lib.hid htx2
  clear hb2 htx2 HR HB
  show KK _ _
  refine hKK _ _ ?_
  clear hKK KK
  refine wpList_plain rfl fun K hK => ?_; go_simp; refine hK _ _ ?_; clear hK K
  have hg : (w2.alloc (.cells Tx0 58)).heap[w2.heap.size]? = some (.cells Tx0 58 (0, 0)) := heap_alloc_new w2 _
  have hb3 := HBw.out.alloc HBw.out.size (.cells Tx0 58)
  refine wpList_store_row rfl 58 (.tmp 6) (.tmp 14) rfl w2.heap.size cs2.toArray rfl rfl 58 Tx0 hg (by rw [infoTx, List.size_toArray, HT2.out.len]) (by rw [tx0_size, List.size_toArray, HT2.out.len]) (by rw [List.all_toArray]; exact List.all_eq_true.2 HT2.out.one) ?_
  have hg2 := setRow_heap (w2.alloc (.cells Tx0 58)) w2.heap.size _ cs2.toArray 58 (0, 0) hg
  have hb4 := below_setRow hb3 HBw.out.size cs2.toArray
  have hk2 : Below w2.heap.size w2 ((w2.alloc (.cells Tx0 58)).setRow w2.heap.size cs2.toArray) := below_setRow ((Below.refl _ _).alloc (Nat.le_refl _) _) (Nat.le_refl _) _
  show wpList _ _ _ _ _ ((w2.alloc (.cells Tx0 58)).setRow w2.heap.size cs2.toArray)
  generalize (w2.alloc (.cells Tx0 58)).setRow w2.heap.size cs2.toArray = Y2 at *
  obtain ⟨G6, hG6⟩ : ∃ G6, G6 = w2.heap.size := ⟨_, rfl⟩
  have HT : Hid (TxAt Y2 G6 cs2 mk (bs.take 800) ks2) := by rw [hG6]; exact ⟨hg2, HT2.out.below hk2⟩
  have HR := Lib.hid (HR1.out.below hk2 HR1.out.lt)
  have HB := Lib.hid hb4
  rw [← hG6]
  clear hg hb3 hg2 hb4 hk2 hG6 HR1 HBw HT2 HTW0 HX2 HH
  refine wpList_nil ?_
  go_simp
  go_upto_region 3 with (fail)
  refine wp_region_see 9 [16, 17, 18, 19, 15, 20, 21, 7, 8] [(16, .is (.agg (RulesK g (kf g)))), (17, .is (.agg cs2.toArray)), (18, .tx mk (bs.take 800) ks2), (19, .is (.tuple #[.int .u64 z, .bool true])), (15, .is (.tuple #[.int .u64 z, .bool true])), (20, .is (.int .u64 z)), (21, .is (.bool true)), (7, .is (.int .u64 z)), (8, .is (.bool true))] (by kernel_rfl) (by kernel_rfl) (by rfl) ?_ ?_
  · refine seeOps_cons ?_ (seeOps_cons ?_ (seeOps_cons ?_ (seeOps_cons ?_ (seeOps_cons ?_ (seeOps_cons ?_ (seeOps_cons ?_ (seeOps_cons ?_ (seeOps_cons ?_ seeOps_nil))))))))
    · intro w9 hb9 fr hout hin
      have h5 : fr.tmps.getD 5 undef = .pointer (some ⟨w1.heap.size, 0, none⟩) := hout 5 (by decide)
      clear hout hin
      exact gs_loadAt (.tmp 5) rfl h5 (HR.out.below hb9 HR.out.lt).load (wanted_none rfl) rfl
    · intro w9 hb9 fr hout hin
      have h6 : fr.tmps.getD 6 undef = .pointer (some ⟨G6, 0, none⟩) := hout 6 (by decide)
      clear hout hin
      exact gs_loadAt (.tmp 6) rfl h6 (HT.out.below hb9).load (wanted_none rfl) rfl
    · intro w9 hb9 fr hout hin
      have h17 : fr.tmps.getD 17 undef = .agg cs2.toArray := hin 17 (by decide) (by decide)
      clear hout hin
      exact gs_call1 (.tmp 17) rfl en_gsTx (wanted_none rfl) (by rw [show fr.eval (.tmp 17) = _ from h17]; exact HTW.out w9 (HT.out.below hb9).tx) (fun _ _ h => h)
    · intro w9 hb9 fr hout hin
      have h16 : fr.tmps.getD 16 undef = .agg (RulesK g (kf g)) := hin 16 (by decide) (by decide)
      have h18 : FTx mk (bs.take 800) ks2 w9 (fr.tmps.getD 18 undef) := hin 18 (by decide) (by decide)
      clear hout hin
      exact gs_call2 (.tmp 16) (.tmp 18) rfl en_gIntr (wanted_none rfl) (by rw [show fr.eval (.tmp 16) = _ from h16]; exact (HGI.out w9 _ h18).mono fun _ _ h => RetV.gs h) (fun _ _ h => h)
    · intro w9 hb9 fr hout hin
      have h19 : fr.tmps.getD 19 undef = .tuple #[.int .u64 z, .bool true] := hin 19 (by decide) (by decide)
      clear hout hin
      exact relStep_move (.tmp 19) rfl (wanted_none rfl) (by show fr.tmps.getD 19 undef = _; rw [h19])
    · intro w9 hb9 fr hout hin
      have h15 : fr.tmps.getD 15 undef = .tuple #[.int .u64 z, .bool true] := hin 15 (by decide) (by decide)
      clear hout hin
      exact gs_ext (.tmp 15) 0 rfl h15 rfl (wanted_none rfl) rfl
    · intro w9 hb9 fr hout hin
      have h15 : fr.tmps.getD 15 undef = .tuple #[.int .u64 z, .bool true] := hin 15 (by decide) (by decide)
      clear hout hin
      exact gs_ext (.tmp 15) 1 rfl h15 rfl (wanted_none rfl) rfl
    · intro w9 hb9 fr hout hin
      have h20 : fr.tmps.getD 20 undef = .int .u64 z := hin 20 (by decide) (by decide)
      clear hout hin
      exact relStep_assign (.tmp 20) rfl (wanted_none rfl) (by show fr.tmps.getD 20 undef = _; rw [h20])
    · intro w9 hb9 fr hout hin
      have h21 : fr.tmps.getD 21 undef = .bool true := hin 21 (by decide) (by decide)
      clear hout hin
      exact relStep_assign (.tmp 21) rfl (wanted_none rfl) (by show fr.tmps.getD 21 undef = _; rw [h21])
  intro X3 hbn
  refine relAsk_in (by rfl) ?_
  intro v16 h16
  obtain rfl : v16 = .agg (RulesK g (kf g)) := h16
  refine relAsk_in (by rfl) ?_
  intro v17 h17
  obtain rfl : v17 = .agg cs2.toArray := h17
  refine relAsk_in (by rfl) ?_
  intro v18 h18
  refine relAsk_in (by rfl) ?_
  intro v19 h19
  obtain rfl : v19 = .tuple #[.int .u64 z, .bool true] := h19
  refine relAsk_in (by rfl) ?_
  intro v15 h15
  obtain rfl : v15 = .tuple #[.int .u64 z, .bool true] := h15
  refine relAsk_in (by rfl) ?_
  intro v20 h20
  obtain rfl : v20 = .int .u64 z := h20
  refine relAsk_in (by rfl) ?_
  intro v21 h21
  obtain rfl : v21 = .bool true := h21
  refine relAsk_in (by rfl) ?_
  intro v7 h7
  obtain rfl : v7 = .int .u64 z := h7
  refine relAsk_in (by rfl) ?_
  intro v8 h8
  obtain rfl : v8 = .bool true := h8
  refine relAsk_nil ?_
  refine wpList_nil ?_
  clear h18
  replace HR := Lib.hid (HR.out.below hbn HR.out.lt)
  replace HT := Lib.hid (HT.out.below hbn)
  have HB2 := Lib.hid (HB.out.trans (hbn.mono HB.out.size))
  replace HB := HB2
  clear hbn
  go_simp
  go_upto_region 4 with (fail)
  refine wp_region_seq 8 [23, 24, 25, 22, 26, 27, 9, 10] [(23, .is (.agg (RulesK g (kf g)))), (24, .is (.agg cs2.toArray)), (25, .is (.tuple #[.int .u64 z, .bool true])), (22, .is (.tuple #[.int .u64 z, .bool true])), (26, .is (.int .u64 z)), (27, .is (.bool true)), (9, .is (.int .u64 z)), (10, .is (.bool true))] (by kernel_rfl) (by rfl) ?_ ?_
  · refine seeOps_cons ?_ (seeOps_cons ?_ (seeOps_cons ?_ (seeOps_cons ?_ (seeOps_cons ?_ (seeOps_cons ?_ (seeOps_cons ?_ (seeOps_cons ?_ seeOps_nil)))))))
    · intro w9 hb9 fr hout hin
      have h5 : fr.tmps.getD 5 undef = .pointer (some ⟨w1.heap.size, 0, none⟩) := hout 5 (by decide)
      clear hout hin
      exact gs_loadAt (.tmp 5) rfl h5 (HR.out.below hb9 HR.out.lt).load (wanted_none rfl) rfl
    · intro w9 hb9 fr hout hin
      have h6 : fr.tmps.getD 6 undef = .pointer (some ⟨G6, 0, none⟩) := hout 6 (by decide)
      clear hout hin
      exact gs_loadAt (.tmp 6) rfl h6 (HT.out.below hb9).load (wanted_none rfl) rfl
    · intro w9 hb9 fr hout hin
      have h23 : fr.tmps.getD 23 undef = .agg (RulesK g (kf g)) := hin 23 (by decide) (by decide)
      have h24 : fr.tmps.getD 24 undef = .agg cs2.toArray := hin 24 (by decide) (by decide)
      clear hout hin
      exact gs_call2 (.tmp 23) (.tmp 24) rfl en_rIntr (wanted_none rfl) (by rw [show fr.eval (.tmp 23) = _ from h23, show fr.eval (.tmp 24) = _ from h24]; exact (HRI.out w9 () (HT.out.below hb9).tx).mono fun _ _ h => RetV.gs h) (fun _ _ h => h)
    · intro w9 hb9 fr hout hin
      have h25 : fr.tmps.getD 25 undef = .tuple #[.int .u64 z, .bool true] := hin 25 (by decide) (by decide)
      clear hout hin
      exact relStep_move (.tmp 25) rfl (wanted_none rfl) (by show fr.tmps.getD 25 undef = _; rw [h25])
    · intro w9 hb9 fr hout hin
      have h22 : fr.tmps.getD 22 undef = .tuple #[.int .u64 z, .bool true] := hin 22 (by decide) (by decide)
      clear hout hin
      exact gs_ext (.tmp 22) 0 rfl h22 rfl (wanted_none rfl) rfl
    · intro w9 hb9 fr hout hin
      have h22 : fr.tmps.getD 22 undef = .tuple #[.int .u64 z, .bool true] := hin 22 (by decide) (by decide)
      clear hout hin
      exact gs_ext (.tmp 22) 1 rfl h22 rfl (wanted_none rfl) rfl
    · intro w9 hb9 fr hout hin
      have h26 : fr.tmps.getD 26 undef = .int .u64 z := hin 26 (by decide) (by decide)
      clear hout hin
      exact relStep_assign (.tmp 26) rfl (wanted_none rfl) (by show fr.tmps.getD 26 undef = _; rw [h26])
    · intro w9 hb9 fr hout hin
      have h27 : fr.tmps.getD 27 undef = .bool true := hin 27 (by decide) (by decide)
      clear hout hin
      exact relStep_assign (.tmp 27) rfl (wanted_none rfl) (by show fr.tmps.getD 27 undef = _; rw [h27])
  intro X4 hbn
  refine relAsk_in (by rfl) ?_
  intro v23 h23
  obtain rfl : v23 = .agg (RulesK g (kf g)) := h23
  refine relAsk_in (by rfl) ?_
  intro v24 h24
  obtain rfl : v24 = .agg cs2.toArray := h24
  refine relAsk_in (by rfl) ?_
  intro v25 h25
  obtain rfl : v25 = .tuple #[.int .u64 z, .bool true] := h25
  refine relAsk_in (by rfl) ?_
  intro v22 h22
  obtain rfl : v22 = .tuple #[.int .u64 z, .bool true] := h22
  refine relAsk_in (by rfl) ?_
  intro v26 h26
  obtain rfl : v26 = .int .u64 z := h26
  refine relAsk_in (by rfl) ?_
  intro v27 h27
  obtain rfl : v27 = .bool true := h27
  refine relAsk_in (by rfl) ?_
  intro v9 h9
  obtain rfl : v9 = .int .u64 z := h9
  refine relAsk_in (by rfl) ?_
  intro v10 h10
  obtain rfl : v10 = .bool true := h10
  refine relAsk_nil ?_
  refine wpList_nil ?_
  replace HR := Lib.hid (HR.out.below hbn HR.out.lt)
  replace HT := Lib.hid (HT.out.below hbn)
  have HB2 := Lib.hid (HB.out.trans (hbn.mono HB.out.size))
  replace HB := HB2
  clear hbn
  go_simp
  go_upto_region 5 with (fail)
  refine wp_region_seq 16 [28, 29, 30, 31, 32, 33, 34, 35, 36, 37, 38, 39, 40, 41, 42, 4] [(28, .is (.int .u64 z)), (29, .is (.int .u64 z)), (30, .is (.bool true)), (31, .is (.bool true)), (32, .is (.bool true)), (33, .is (.bool true)), (34, .is (.bool true)), (35, .is (.bool true)), (36, .is (.bool true)), (37, .is (.int .u64 z)), (38, .is (.bool true)), (39, .is (.bool true)), (40, .is (.bool true)), (41, .is (.bool true)), (42, .is (.bool true)), (4, .is (.bool true))] (by kernel_rfl) (by rfl) ?_ ?_
  · refine seeOps_cons ?_ (seeOps_cons ?_ (seeOps_cons ?_ (seeOps_cons ?_ (seeOps_cons ?_ (seeOps_cons ?_ (seeOps_cons ?_ (seeOps_cons ?_ (seeOps_cons ?_ (seeOps_cons ?_ (seeOps_cons ?_ (seeOps_cons ?_ (seeOps_cons ?_ (seeOps_cons ?_ (seeOps_cons ?_ (seeOps_cons ?_ seeOps_nil)))))))))))))))
    · intro w9 hb9 fr hout hin
      have h7 : fr.tmps.getD 7 undef = .int .u64 z := hout 7 (by decide)
      clear hout hin
      exact relStep_move (.tmp 7) rfl (wanted_none rfl) (by show fr.tmps.getD 7 undef = _; rw [h7])
    · intro w9 hb9 fr hout hin
      have h9 : fr.tmps.getD 9 undef = .int .u64 z := hout 9 (by decide)
      clear hout hin
      exact relStep_move (.tmp 9) rfl (wanted_none rfl) (by show fr.tmps.getD 9 undef = _; rw [h9])
    · intro w9 hb9 fr hout hin
      have h28 : fr.tmps.getD 28 undef = .int .u64 z := hin 28 (by decide) (by decide)
      have h29 : fr.tmps.getD 29 undef = .int .u64 z := hin 29 (by decide) (by decide)
      clear hout hin
      exact op_eqU (.tmp 28) (.tmp 29) _ rfl h28 h29 (wanted_none rfl) rfl
    · intro w9 hb9 fr hout hin
      have h30 : fr.tmps.getD 30 undef = .bool true := hin 30 (by decide) (by decide)
      clear hout hin
      exact relStep_move (.tmp 30) rfl (wanted_none rfl) (by show fr.tmps.getD 30 undef = _; rw [h30])
    · intro w9 hb9 fr hout hin
      have h8 : fr.tmps.getD 8 undef = .bool true := hout 8 (by decide)
      have h31 : fr.tmps.getD 31 undef = .bool true := hin 31 (by decide) (by decide)
      clear hout hin
      exact relStep_move (.tmp 8) rfl (wanted_some (g := 3) (t := 31) (b := true) rfl rfl h31) (by show fr.tmps.getD 8 undef = _; rw [h8])
    · intro w9 hb9 fr hout hin
      have h10 : fr.tmps.getD 10 undef = .bool true := hout 10 (by decide)
      have h31 : fr.tmps.getD 31 undef = .bool true := hin 31 (by decide) (by decide)
      clear hout hin
      exact relStep_move (.tmp 10) rfl (wanted_some (g := 3) (t := 31) (b := true) rfl rfl h31) (by show fr.tmps.getD 10 undef = _; rw [h10])
    · intro w9 hb9 fr hout hin
      have h32 : fr.tmps.getD 32 undef = .bool true := hin 32 (by decide) (by decide)
      have h33 : fr.tmps.getD 33 undef = .bool true := hin 33 (by decide) (by decide)
      have h31 : fr.tmps.getD 31 undef = .bool true := hin 31 (by decide) (by decide)
      clear hout hin
      exact op_eqB (.tmp 32) (.tmp 33) _ rfl h32 h33 (wanted_some (g := 3) (t := 31) (b := true) rfl rfl h31) rfl
    · intro w9 hb9 fr hout hin
      have h31 : fr.tmps.getD 31 undef = .bool true := hin 31 (by decide) (by decide)
      have h34 : fr.tmps.getD 34 undef = .bool true := hin 34 (by decide) (by decide)
      clear hout hin
      exact relStep_pick (.tmp 31) (.tmp 34) (.const (.bool false)) rfl h31 (wanted_none rfl) (by show fr.tmps.getD 34 undef = _; rw [h34])
    · intro w9 hb9 fr hout hin
      have h35 : fr.tmps.getD 35 undef = .bool true := hin 35 (by decide) (by decide)
      clear hout hin
      exact relStep_move (.tmp 35) rfl (wanted_none rfl) (by show fr.tmps.getD 35 undef = _; rw [h35])
    · intro w9 hb9 fr hout hin
      have h7 : fr.tmps.getD 7 undef = .int .u64 z := hout 7 (by decide)
      have h36 : fr.tmps.getD 36 undef = .bool true := hin 36 (by decide) (by decide)
      clear hout hin
      exact relStep_move (.tmp 7) rfl (wanted_some (g := 8) (t := 36) (b := true) rfl rfl h36) (by show fr.tmps.getD 7 undef = _; rw [h7])
    · intro w9 hb9 fr hout hin
      have h37 : fr.tmps.getD 37 undef = .int .u64 z := hin 37 (by decide) (by decide)
      have h36 : fr.tmps.getD 36 undef = .bool true := hin 36 (by decide) (by decide)
      clear hout hin
      exact gs_bin .geq 22 (.tmp 37) (.const (.int .u64 21000)) _ rfl h37 rfl (fun w => by go_simp) (fun w => by have := HGE.out; go_simp) (wanted_some (g := 8) (t := 36) (b := true) rfl rfl h36) rfl
    · intro w9 hb9 fr hout hin
      have h36 : fr.tmps.getD 36 undef = .bool true := hin 36 (by decide) (by decide)
      have h38 : fr.tmps.getD 38 undef = .bool true := hin 38 (by decide) (by decide)
      clear hout hin
      exact relStep_pick (.tmp 36) (.tmp 38) (.const (.bool false)) rfl h36 (wanted_none rfl) (by show fr.tmps.getD 38 undef = _; rw [h38])
    · intro w9 hb9 fr hout hin
      have h39 : fr.tmps.getD 39 undef = .bool true := hin 39 (by decide) (by decide)
      clear hout hin
      exact relStep_move (.tmp 39) rfl (wanted_none rfl) (by show fr.tmps.getD 39 undef = _; rw [h39])
    · intro w9 hb9 fr hout hin
      have h40 : fr.tmps.getD 40 undef = .bool true := hin 40 (by decide) (by decide)
      clear hout hin
      exact gs_call0 rfl en_gsWakes (wanted_some (g := 12) (t := 40) (b := true) rfl rfl h40) (by exact (gswakes_c w9).mono fun _ _ h => RetV.gs h) (fun _ _ h => h)
    · intro w9 hb9 fr hout hin
      have h40 : fr.tmps.getD 40 undef = .bool true := hin 40 (by decide) (by decide)
      have h41 : fr.tmps.getD 41 undef = .bool true := hin 41 (by decide) (by decide)
      clear hout hin
      exact relStep_pick (.tmp 40) (.tmp 41) (.const (.bool false)) rfl h40 (wanted_none rfl) (by show fr.tmps.getD 41 undef = _; rw [h41])
    · intro w9 hb9 fr hout hin
      have h42 : fr.tmps.getD 42 undef = .bool true := hin 42 (by decide) (by decide)
      clear hout hin
      exact relStep_assign (.tmp 42) rfl (wanted_none rfl) (by show fr.tmps.getD 42 undef = _; rw [h42])
  intro X5 hb9
  refine relAsk_in (by rfl) ?_
  intro v28 h28
  obtain rfl : v28 = .int .u64 z := h28
  refine relAsk_in (by rfl) ?_
  intro v29 h29
  obtain rfl : v29 = .int .u64 z := h29
  refine relAsk_in (by rfl) ?_
  intro v30 h30
  obtain rfl : v30 = .bool true := h30
  refine relAsk_in (by rfl) ?_
  intro v31 h31
  obtain rfl : v31 = .bool true := h31
  refine relAsk_in (by rfl) ?_
  intro v32 h32
  obtain rfl : v32 = .bool true := h32
  refine relAsk_in (by rfl) ?_
  intro v33 h33
  obtain rfl : v33 = .bool true := h33
  refine relAsk_in (by rfl) ?_
  intro v34 h34
  obtain rfl : v34 = .bool true := h34
  refine relAsk_in (by rfl) ?_
  intro v35 h35
  obtain rfl : v35 = .bool true := h35
  refine relAsk_in (by rfl) ?_
  intro v36 h36
  obtain rfl : v36 = .bool true := h36
  refine relAsk_in (by rfl) ?_
  intro v37 h37
  obtain rfl : v37 = .int .u64 z := h37
  refine relAsk_in (by rfl) ?_
  intro v38 h38
  obtain rfl : v38 = .bool true := h38
  refine relAsk_in (by rfl) ?_
  intro v39 h39
  obtain rfl : v39 = .bool true := h39
  refine relAsk_in (by rfl) ?_
  intro v40 h40
  obtain rfl : v40 = .bool true := h40
  refine relAsk_in (by rfl) ?_
  intro v41 h41
  obtain rfl : v41 = .bool true := h41
  refine relAsk_in (by rfl) ?_
  intro v42 h42
  obtain rfl : v42 = .bool true := h42
  refine relAsk_in (by rfl) ?_
  intro v4 h4
  obtain rfl : v4 = .bool true := h4
  refine relAsk_nil ?_
  refine wpList_nil ?_
  go_simp
  have HB9 := Lib.hid (HB.out.trans (hb9.mono HB.out.size))
  go_wp2_with fail
  go_ret
  exact ⟨rfl, HB9.out⟩
end Go.Proofs.Ytiflfcdegpmhnaa
