/- Numbers of layer 5: package rlp's and the reference's. -/
import Derived.Test.YtgjiealcjaojaaaRlFirst2
import Derived.OwnWalk
import Derived.Test.YtgjiealcjaojaaaRlWakes
import Derived.Test.YtgjiealcjaojaaaFrom
import Derived.Test.YtgjiealcjaojaaaShort
import Derived.Test.YtgjiealcjaojaaaRefN
import Derived.Test.YtgjiealcjaojaaaRefW
namespace Go.Proofs.Ytgjiealcjaojaaa
open Go.RowKit

def envS (raw : List Nat) : Nat × List Nat × Nat :=
  if raw.length = 0 then (0, [], 2) else if 192 ≤ raw.getD 0 0 then (0, raw, 0) else if 128 ≤ raw.getD 0 0 then (0, [], 2) else (raw.getD 0 0, raw.drop 1, 0)
def EnvO (raw : List Nat) (w : World) (e : Ending) (w' : World) : Prop := ∃ v, e = .returned (.tuple #[.int .i64 ((envS raw).1 : Nat), v, .int .i64 ((envS raw).2.2 : Nat)]) ∧ OwnB w.heap.size w' v (envS raw).2.1 ∧ Below w.heap.size w w'
def EnvR (raw : List Nat) (w : World) (e : Ending) (w' : World) : Prop := ∃ v, e = .returned (.tuple #[.int .i64 ((envS raw).1 : Nat), v, .int .i64 ((envS raw).2.2 : Nat)]) ∧ Byt w' v (envS raw).2.1 ∧ Below w.heap.size w w'

set_option maxRecDepth 100000 in
set_option maxHeartbeats 3200000 in
theorem envelope_o {A : Option Addr} {c : Nat} {raw : List Nat} (w : World) (h : Rd .u8 w A c raw) (hd : Ds 256 raw) (hl : raw.length ≤ 16777216) : Calls Try.prog 30 #[.slice A raw.length c] w (EnvO raw w) := by
  by_cases h0 : raw.length = 0
  · have hE : envS raw = (0, [], 2) := if_pos h0
    have HQ : Hid (EnvO raw w (.returned (.tuple #[.int .i64 0, .slice none 0 0, .int .i64 2])) w) := ⟨_, by rw [hE]; rfl, by rw [hE]; exact OwnB.nil _ _, Below.refl _ _⟩
    rw [h0]
    clear h hd hl h0 hE
    go_enter Try.func30, Try.ntmps30
    go_wp2_with fail
    go_ret3
    exact HQ.out
  · obtain ⟨b, o, rfl, hb, hc⟩ := h.at_ (by omega)
    have z0 : w.cell? ⟨b, o, none⟩ = some (.int .u8 (raw.getD 0 0 : Nat)) := by have := hc 0 (by omega); rwa [Nat.add_zero] at this
    obtain ⟨x, hx⟩ : ∃ x, x = raw.getD 0 0 := ⟨_, rfl⟩
    have hxd : x < 256 := by rw [hx]; exact hd.get (by omega) _
    rw [← hx] at z0
    obtain ⟨L, hL⟩ : ∃ L, L = raw.length := ⟨_, rfl⟩
    have hLc : L ≤ c := by have := h.le; omega
    have hz1 : ((L : Int) == 0) = false := by simp; omega
    have j1 : (1 : Int) ≤ (L : Int) := by omega
    have j2 : (L : Int) ≤ (c : Int) := by omega
    have j3 : (1 : Int) ≤ (c : Int) := by omega
    have j4 : (0 : Int) < (L : Int) := by omega
    have j5 : 0 < L := by omega
    have e0 : IntKind.i64.wrap (x : Int) = (x : Int) := IntWalk.i64_in _ (by omega)
    by_cases h192 : 192 ≤ x
    · have g1 : (192 : Int) ≤ (x : Int) := by omega
      have g2 : (128 : Int) ≤ (x : Int) := by omega
      have g3 : ¬ (x : Int) < 192 := by omega
      have hE : envS raw = (0, raw, 0) := by unfold envS; rw [if_neg h0, ← hx, if_pos h192]
      have C := Lib.hid (rl_clone_c w h hl)
      have HD := Lib.hid hd
      have HE := Lib.hid hE
      rw [← hL] at C ⊢
      clear h hd hl h0 hc hx hL h192 hE
      go_enter Try.func30, Try.ntmps30
      go_wp2_with fail
      (with_reducible refine C.out.mono ?_)
      rintro e w1 ⟨v, rfl, hv, hb1⟩
      have HQ : Hid (EnvO raw w (.returned (.tuple #[.int .i64 0, v, .int .i64 0])) w1) := ⟨_, by rw [HE.out]; rfl, by rw [HE.out]; exact OwnB.of hv HD.out, hb1⟩
      clear C hv hb1
      go_wp2_with fail
      go_ret3
      exact HQ.out
    · by_cases h128 : 128 ≤ x
      · have g1 : ¬ (192 : Int) ≤ (x : Int) := by omega
        have g2 : (128 : Int) ≤ (x : Int) := by omega
        have g3 : (x : Int) < 192 := by omega
        have hE : envS raw = (0, [], 2) := by unfold envS; rw [if_neg h0, ← hx, if_neg h192, if_pos h128]
        have HQ : Hid (EnvO raw w (.returned (.tuple #[.int .i64 0, .slice none 0 0, .int .i64 2])) w) := ⟨_, by rw [hE]; rfl, by rw [hE]; exact OwnB.nil _ _, Below.refl _ _⟩
        rw [← hL]
        clear h hd hl h0 hc hx hL h192 h128 hE
        go_enter Try.func30, Try.ntmps30
        go_wp2_with fail
        go_ret3
        exact HQ.out
      · have g1 : ¬ (192 : Int) ≤ (x : Int) := by omega
        have g2 : ¬ (128 : Int) ≤ (x : Int) := by omega
        have hE : envS raw = (x, raw.drop 1, 0) := by unfold envS; rw [if_neg h0, ← hx, if_neg h192, if_neg h128]
        have hR := h.rest 1 (by omega)
        obtain ⟨o1, hAA⟩ : ∃ o1, (if c = 1 then some ⟨b, o, none⟩ else some ⟨b, o + 1, none⟩ : Option Addr) = some ⟨b, o1, none⟩ := by
          by_cases h : c = 1
          · exact ⟨o, if_pos h⟩
          · exact ⟨o + 1, if_neg h⟩
        rw [hAA] at hR
        have cc : Calls Try.prog 35 #[.slice (some ⟨b, o1, none⟩) (L - 1) (c - 1)] w (RetR (fun w' v => Acc w' w.heap.size v (raw.drop 1)) w) := by
          have := rl_clone_c w hR (by rw [List.length_drop]; omega)
          rwa [List.length_drop, ← hL] at this
        have C := Lib.hid cc
        have HD := Lib.hid (hd.drop 1)
        have HE := Lib.hid hE
        rw [← hL]
        clear h hd hl h0 hc hx hL h192 h128 hE hR cc
        go_enter Try.func30, Try.ntmps30
        go_wp2_with fail
        (with_reducible refine C.out.mono ?_)
        rintro e w1 ⟨v, rfl, hv, hb1⟩
        have HQ : Hid (EnvO raw w (.returned (.tuple #[.int .i64 x, v, .int .i64 0])) w1) := ⟨_, by rw [HE.out]; rfl, by rw [HE.out]; exact OwnB.of hv HD.out, hb1⟩
        clear C hv hb1
        go_wp2_with fail
        go_ret3
        exact HQ.out
theorem envelope_c {A : Option Addr} {c : Nat} {raw : List Nat} (w : World) (h : Rd .u8 w A c raw) (hd : Ds 256 raw) (hl : raw.length ≤ 16777216) : Calls Try.prog 30 #[.slice A raw.length c] w (EnvR raw w) := (envelope_o w h hd hl).mono fun _ _ ⟨v, e, h, hb⟩ => ⟨v, e, h.byt, hb⟩

end Go.Proofs.Ytgjiealcjaojaaa
namespace Go.Proofs.Ytgjiealcjaojaaa
open Go.RowKit

theorem word_set {w : World} {g : Nat} {u v x y : Value} {t : TypeId} (h : w.heap[g]? = some (.cells #[u, v, x, y] t (0, 0))) (a b c d : Value) : ((((w.setCell ⟨g, 0, none⟩ a).setCell ⟨g, 1, none⟩ b).setCell ⟨g, 2, none⟩ c).setCell ⟨g, 3, none⟩ d).heap[g]? = some (.cells #[a, b, c, d] t (0, 0)) := by
  have h0 := heap_setCell_same w g 0 _ t a h
  have h1 := heap_setCell_same _ g 1 _ t b h0
  have h2 := heap_setCell_same _ g 2 _ t c h1
  have h3 := heap_setCell_same _ g 3 _ t d h2
  simpa using h3
theorem below_word {B : Nat} {w0 w : World} (h : Below B w0 w) {g : Nat} (hg : B ≤ g) (a b c d : Value) : Below B w0 ((((w.setCell ⟨g, 0, none⟩ a).setCell ⟨g, 1, none⟩ b).setCell ⟨g, 2, none⟩ c).setCell ⟨g, 3, none⟩ d) :=
  (((h.setCell (p := ⟨g, 0, none⟩) hg _).setCell (p := ⟨g, 1, none⟩) hg _).setCell (p := ⟨g, 2, none⟩) hg _).setCell (p := ⟨g, 3, none⟩) hg _
theorem infoWord : (Try.prog.info? 70).map (·.size) = some 4 := by kernel_rfl
theorem results_word1 {fn : Func} {p u : Tmp} (h : fn.results = #[.cell p 70, .tmp u]) (tmps : Array Value) (w : World) (g : Nat) (a b c d : Value)
    (hp : tmps.getD p undef = .pointer (some ⟨g, 0, none⟩)) (hg : w.heap[g]? = some (.cells #[a, b, c, d] 70 (0, 0))) :
    (results fn tmps).run Try.prog w = .ok (.tuple #[.agg #[a, b, c, d], tmps.getD u undef]) w := by
  have hp' : tmps[p]?.getD undef = .pointer (some ⟨g, 0, none⟩) := by simpa using hp
  simp [results, h, hp', asAddr, run_loadVar_row w g 70 70 #[a, b, c, d] (0, 0) _ hg Try.underlying70 rfl infoWord]
theorem four_cells5 {w : World} {g : Nat} {u v x y : Value} {t : TypeId} (h : w.heap[g]? = some (.cells #[u, v, x, y] t (0, 0))) : w.cell? ⟨g, 0, none⟩ = some u ∧ w.cell? ⟨g, 1, none⟩ = some v ∧ w.cell? ⟨g, 2, none⟩ = some x ∧ w.cell? ⟨g, 3, none⟩ = some y ∧
    w.frozen? ⟨g, 0, none⟩ = false ∧ w.frozen? ⟨g, 1, none⟩ = false ∧ w.frozen? ⟨g, 2, none⟩ = false ∧ w.frozen? ⟨g, 3, none⟩ = false := by
  refine ⟨?_, ?_, ?_, ?_, ?_, ?_, ?_, ?_⟩
  · rw [cell_of_row _ _ _ _ t (0, 0) h]; rfl
  · rw [cell_of_row _ _ _ _ t (0, 0) h]; rfl
  · rw [cell_of_row _ _ _ _ t (0, 0) h]; rfl
  · rw [cell_of_row _ _ _ _ t (0, 0) h]; rfl
  · exact frozen_of_row _ _ _ _ t h
  · exact frozen_of_row _ _ _ _ t h
  · exact frozen_of_row _ _ _ _ t h
  · exact frozen_of_row _ _ _ _ t h
theorem W_0 : W 0 = .agg #[.int .u64 0, .int .u64 0, .int .u64 0, .int .u64 0] := by simp [lim]

/-- Number, of both. -/
def numS (xs : List Nat) : Nat × Nat := if 0 < xs.length ∧ xs.getD 0 0 = 0 then (0, 2) else if 32 < xs.length then (0, 3) else (be xs, 0)
def NumQ (xs : List Nat) (w : World) (e : Ending) (w' : World) : Prop := e = .returned (.tuple #[W (numS xs).1, .int .i64 ((numS xs).2 : Nat)]) ∧ Below w.heap.size w w'

theorem IAt.ofByt {w : World} {v : Value} {bs : List Nat} (h : Byt w v bs) : IAt (fun _ => True) w (.agg #[.bool false, v, .slice none 0 0]) (.text bs) := by
  obtain ⟨A, c, rfl, hr, hd⟩ := h
  exact IAt.mk (S := fun _ => True) false A c none 0 0 0 (fun _ => undef) bs [] hr hd (fun h0 => by obtain ⟨b, o, e, _⟩ := hr.at_ h0; exact ⟨b, o, e, trivial⟩) (fun h => absurd h (by simp)) (Nat.le_refl _) (fun _ => rfl) (fun j hj => absurd hj (by simp)) (fun j x hj => by simp at hj)
theorem own_far {w : World} {B B' g : Nat} {v a b c : Value} {bs : List Nat} (hB : g < B) (hBB : B' ≤ B) (h : OwnB B w v bs) : OwnB B' (((w.setCell ⟨g, 0, none⟩ a).setCell ⟨g, 1, none⟩ b).setCell ⟨g, 2, none⟩ c) v bs :=
  ⟨h.1.move (by simp) fun k hk => (by
    have hne : k ≠ g := by have := h.2 k hk; omega
    exact (Below.heap_setCell _ _ _ _ hne).trans ((Below.heap_setCell _ _ _ _ hne).trans (Below.heap_setCell _ _ _ _ hne))), fun k hk => Nat.le_trans hBB (h.2 k hk)⟩
def OfO (a : Nat) (w : World) (e : Ending) (w' : World) : Prop := ∃ v, e = .returned (.agg #[.bool false, v, .slice none 0 0]) ∧ OwnB w.heap.size w' v (shortv a) ∧ Below w.heap.size w w'
def OfQ (a : Nat) (w : World) (e : Ending) (w' : World) : Prop := ∃ v, e = .returned (.agg #[.bool false, v, .slice none 0 0]) ∧ Byt w' v (shortv a) ∧ Below w.heap.size w w'

set_option maxRecDepth 100000 in
set_option maxHeartbeats 3200000 in
theorem of_o {a : Nat} (ha : Big a) (w : World) : Calls Try.prog 31 #[W a] w (OfO a w) := by
  have k1 := fun w => short_o ha w
  obtain ⟨l0, e0⟩ : ∃ z, z = lim 0 a := ⟨_, rfl⟩
  obtain ⟨l1, e1⟩ : ∃ z, z = lim 1 a := ⟨_, rfl⟩
  obtain ⟨l2, e2⟩ : ∃ z, z = lim 2 a := ⟨_, rfl⟩
  obtain ⟨l3, e3⟩ : ∃ z, z = lim 3 a := ⟨_, rfl⟩
  have hW : W a = .agg #[.int .u64 (l0 : Nat), .int .u64 (l1 : Nat), .int .u64 (l2 : Nat), .int .u64 (l3 : Nat)] := by rw [e0, e1, e2, e3]
  rw [hW] at k1 ⊢
  have K1 := Lib.hid k1
  have h1 : ((w.alloc (.cells #[.int .u64 (l0 : Nat), .int .u64 (l1 : Nat), .int .u64 (l2 : Nat), .int .u64 (l3 : Nat)] 70)).alloc (.cells #[.bool false, .slice none 0 0, .slice none 0 0] 56)).heap[w.heap.size]? = some (.cells #[.int .u64 (l0 : Nat), .int .u64 (l1 : Nat), .int .u64 (l2 : Nat), .int .u64 (l3 : Nat)] 70 (0, 0)) := by
    rw [Below.heap_alloc _ _ _ (by simp)]
    exact heap_alloc_new w _
  have h2 : ((w.alloc (.cells #[.int .u64 (l0 : Nat), .int .u64 (l1 : Nat), .int .u64 (l2 : Nat), .int .u64 (l3 : Nat)] 70)).alloc (.cells #[.bool false, .slice none 0 0, .slice none 0 0] 56)).heap[w.heap.size + 1]? = some (.cells #[.bool false, .slice none 0 0, .slice none 0 0] 56 (0, 0)) := by
    have := heap_alloc_new (w.alloc (.cells #[.int .u64 (l0 : Nat), .int .u64 (l1 : Nat), .int .u64 (l2 : Nat), .int .u64 (l3 : Nat)] 70)) (.cells #[.bool false, .slice none 0 0, .slice none 0 0] 56)
    simpa using this
  have hb : Below w.heap.size w ((w.alloc (.cells #[.int .u64 (l0 : Nat), .int .u64 (l1 : Nat), .int .u64 (l2 : Nat), .int .u64 (l3 : Nat)] 70)).alloc (.cells #[.bool false, .slice none 0 0, .slice none 0 0] 56)) := ((Below.refl _ _).alloc (Nat.le_refl _) _).alloc (by simp) _
  have hs : ((w.alloc (.cells #[.int .u64 (l0 : Nat), .int .u64 (l1 : Nat), .int .u64 (l2 : Nat), .int .u64 (l3 : Nat)] 70)).alloc (.cells #[.bool false, .slice none 0 0, .slice none 0 0] 56)).heap.size = w.heap.size + 2 := by simp
  obtain ⟨x0, x1, x2, x3, -, -, -, -⟩ := four_cells5 h1
  have H2 := Lib.hid h2
  have HB := Lib.hid hb
  have HS := Lib.hid hs
  clear k1 e0 e1 e2 e3 hW h1 h2 hb hs
  go_enter Try.func31, Try.ntmps31
  go_upto_region 1 with (fail)
  generalize ((w.alloc (.cells #[.int .u64 (l0 : Nat), .int .u64 (l1 : Nat), .int .u64 (l2 : Nat), .int .u64 (l3 : Nat)] 70)).alloc (.cells #[.bool false, .slice none 0 0, .slice none 0 0] 56)) = X at *
  go_wp2_with fail
  (with_reducible refine (K1.out _).mono ?_)
  rintro e w1 ⟨v, rfl, hv, hb1⟩
  have h2 := (hb1.block (w.heap.size + 1) (by rw [HS.out]; omega)).trans H2.out
  have H3 := Lib.hid h2
  have HB1 := Lib.hid (HB.out.trans (hb1.mono (by rw [HS.out]; omega)))
  have HV := Lib.hid hv
  obtain ⟨A, c, rfl, hr, hd⟩ := hv.byt
  obtain ⟨y0, y1, y2, y3, y4, y5⟩ := three_cells h2
  clear K1 hb1 h2 hr hd x0 x1 x2 x3 hv
  go_wp2_with fail
  refine bodyPost_ret (results_cell_row Try.results31 _ _ (w.heap.size + 1) 56 _ (0, 0) _ rfl (item_set H3.out _ _ _) Try.underlying56 rfl infoItem) rfl ⟨_, rfl, own_far (by rw [HS.out]; omega) (by rw [HS.out]; omega) HV.out, below_item HB1.out (by omega) _ _ _⟩
theorem of_q {a : Nat} (ha : Big a) (w : World) : Calls Try.prog 31 #[W a] w (OfQ a w) := (of_o ha w).mono fun _ _ ⟨v, e, h, hb⟩ => ⟨v, e, h.byt, hb⟩

end Go.Proofs.Ytgjiealcjaojaaa
