/- Arrays of 32 bytes, by value; the contracts of Bytes in package word and in the reference. -/
import Derived.Test.YtihffojljbgpcaaRefN
import Derived.Test.YtihffojljbgpcaaRFrom
import Derived.Laws.Rows
import Derived.Laws.CopyOwn
import Derived.Deep.DeepCutAuto
namespace Go.Proofs.Ytihffojljbgpcaa
open Go.RowKit

/-- Bytes as cells; as an array. -/
abbrev Cs8 (bs : List Nat) : Array Value := (bs.map fun n : Nat => Value.int .u8 (n : Int)).toArray
def BV (bs : List Nat) : Value := .agg (Cs8 bs)
/-- A number's 32 bytes, the highest first. -/
def bytes32 (a : Nat) : List Nat := (List.range 32).map fun i => a / 256 ^ (31 - i) % 256
theorem bytes32_len (a : Nat) : (bytes32 a).length = 32 := by simp [bytes32]
theorem bytes32_get (a : Nat) {i : Nat} (h : i < 32) : (bytes32 a).getD i 0 = a / 256 ^ (31 - i) % 256 := by simp [bytes32, h]
theorem bytes32_ds (a : Nat) : Ds 256 (bytes32 a) := fun x hx => by
  simp only [bytes32, List.mem_map] at hx
  obtain ⟨i, _, rfl⟩ := hx
  exact Nat.mod_lt _ (by omega)
theorem list_ext {xs ys : List Nat} (hl : xs.length = ys.length) (h : ∀ i, i < xs.length → xs.getD i 0 = ys.getD i 0) : xs = ys := by
  refine List.ext_getElem hl fun i h1 h2 => ?_
  have := h i h1
  simpa [h1, h2] using this
theorem bytes32_eq {bs : List Nat} {a : Nat} (hl : bs.length = 32) (h : ∀ j, j < 32 → bs.getD j 0 = a / 256 ^ (31 - j) % 256) : bs = bytes32 a :=
  list_ext (by rw [hl, bytes32_len]) fun i hi => by rw [h i (by omega), bytes32_get a (by omega)]
theorem cs8_size (bs : List Nat) : (Cs8 bs).size = bs.length := by simp [Cs8]
theorem cs8_one (bs : List Nat) : (Cs8 bs).all (·.oneCell') = true := by
  rw [Array.all_eq_true_iff_forall_mem]
  intro v hv
  simp only [Cs8, List.mem_toArray, List.mem_map] at hv
  obtain ⟨n, _, rfl⟩ := hv
  rfl
theorem info33 : (Try.prog.info? 33).map (·.size) = some 32 := by kernel_rfl
theorem info33' {bs : List Nat} (h : bs.length = 32) : (Try.prog.info? 33).map (·.size) = some (Cs8 bs).size := by rw [cs8_size, h]; exact info33
theorem Row.toSet {w : World} {g : Nat} {t : TypeId} {xs : List Nat} (h : Row .u8 w g t xs) (bs : List Nat) : Row .u8 (w.setRow g (Cs8 bs)) g t bs := setRow_heap w g _ _ t (0, 0) h
theorem bytes_step {bs : List Nat} {a m b : Nat} (h : ∀ j, j < m → bs.getD j 0 = a / 256 ^ (31 - j) % 256) (hm : m < bs.length) (hb : b = a / 256 ^ (31 - m) % 256) : ∀ j, j < m + 1 → (bs.set m b).getD j 0 = a / 256 ^ (31 - j) % 256 := fun j hj => by
  by_cases e : m = j
  · subst e; rw [getD_set_self hm]; exact hb
  · rw [getD_set_ne e]; exact h j (by omega)

set_option maxRecDepth 100000 in
set_option maxHeartbeats 3200000 in
theorem bytes_c {a : Nat} (ha : Big a) (w : World) : Calls Try.prog 23 #[W a] w (RetV (BV (bytes32 a)) w) := by
  have HA := Lib.hid ha
  clear ha
  go_enter Try.func23, Try.ntmps23
  go_wp2_with fail
  go_loopw [6] (fun i wr => ∃ (m : Nat) (bs : List Nat), m ≤ 32 ∧ i = .int .i64 (m : Int) ∧ Hid (bs.length = 32) ∧ Hid (∀ j, j < m → bs.getD j 0 = a / 256 ^ (31 - j) % 256) ∧ Arr wr w.heap.size 24 [lim 0 a, lim 1 a, lim 2 a, lim 3 a] ∧ Hid (Row .u8 wr (w.heap.size + 1) 33 (List.replicate 32 0)) ∧ Row .u8 wr (w.heap.size + 1 + 1) 33 bs ∧ Hid (Below w.heap.size w wr))
    (fun i _ => (32 - intOf i).toNat)
  case atStart =>
    refine ⟨0, List.replicate 32 0, by omega, rfl, by show (List.replicate 32 0).length = 32; simp, fun j hj => by omega, ?_, ?_, ?_, ?_⟩
    · have h := ((Arr.new4 w 24 (lim 0 a) (lim 1 a) (lim 2 a) (lim 3 a)).alloc (.cells (Cs8 (List.replicate 32 0)) 33)).alloc (.cells (Cs8 (List.replicate 32 0)) 33)
      exact h
    · have h := (Row.new (k := .u8) (w.alloc (.cells #[.int .u64 (lim 0 a : Nat), .int .u64 (lim 1 a : Nat), .int .u64 (lim 2 a : Nat), .int .u64 (lim 3 a : Nat)] 24)) 33 (List.replicate 32 0)).alloc (.cells (Cs8 (List.replicate 32 0)) 33)
      rw [show (w.alloc (.cells #[.int .u64 (lim 0 a : Nat), .int .u64 (lim 1 a : Nat), .int .u64 (lim 2 a : Nat), .int .u64 (lim 3 a : Nat)] 24)).heap.size = w.heap.size + 1 by simp] at h
      exact h
    · have h := Row.new (k := .u8) ((w.alloc (.cells #[.int .u64 (lim 0 a : Nat), .int .u64 (lim 1 a : Nat), .int .u64 (lim 2 a : Nat), .int .u64 (lim 3 a : Nat)] 24)).alloc (.cells (Cs8 (List.replicate 32 0)) 33)) 33 (List.replicate 32 0)
      rw [show ((w.alloc (.cells #[.int .u64 (lim 0 a : Nat), .int .u64 (lim 1 a : Nat), .int .u64 (lim 2 a : Nat), .int .u64 (lim 3 a : Nat)] 24)).alloc (.cells (Cs8 (List.replicate 32 0)) 33)).heap.size = w.heap.size + 1 + 1 by simp] at h
      exact h
    · exact (((Below.refl _ _).alloc (Nat.le_refl _) _).alloc (by simp) _).alloc (by simp; omega) _
  case round =>
    obtain ⟨m, bs, hm, rfl, HL, hinv, harr, hres, hrow, hbel⟩ := hrel
    by_cases hlt : (m : Int) < 32
    · obtain ⟨p, hp⟩ : ∃ p : Nat, 31 - (m : Int) = (p : Int) := ⟨31 - m, by omega⟩
      have hwp : IntKind.i64.wrap (31 - (m : Int)) = (p : Int) := by rw [IntWalk.i64_in _ (by omega)]; exact hp
      obtain ⟨q, hq⟩ : ∃ q, q = p / 8 := ⟨_, rfl⟩
      obtain ⟨r, hr⟩ : ∃ r, r = p % 8 := ⟨_, rfl⟩
      obtain ⟨s, hs⟩ : ∃ s, s = 8 * r := ⟨_, rfl⟩
      have e1 : (p : Int) / 8 = (q : Int) := by omega
      have e2 : (p : Int) % 8 = (r : Int) := by omega
      have e3 : (p : Int).tmod 8 = (r : Int) := by rw [Int.tmod_eq_emod_of_nonneg (by omega)]; omega
      have e3' : (p : Int).tdiv 8 = (q : Int) := by rw [Int.tdiv_eq_ediv_of_nonneg (by omega)]; omega
      have e4 : IntKind.i64.wrap ((r : Int) * 8) = (s : Int) := by rw [IntWalk.i64_in _ (by omega)]; omega
      have hq3 : (q : Int) ≤ 3 := by omega
      have hs63 : (s : Int) ≤ 63 := by omega
      have cx := harr.cell q (by simp; omega)
      obtain ⟨x, ex⟩ : ∃ x, x = [lim 0 a, lim 1 a, lim 2 a, lim 3 a].getD q 0 := ⟨_, rfl⟩
      rw [← ex] at cx
      obtain ⟨y, ey⟩ : ∃ y, y = x / 2 ^ s := ⟨_, rfl⟩
      obtain ⟨b, eb⟩ : ∃ b, b = y % 256 := ⟨_, rfl⟩
      have hbyte : b = a / 256 ^ (31 - m) % 256 := by
        have iW := isW_lim HA.out
        rw [eb, ey, ex, hs, byte_of_limb iW.limsList q r (by omega), ← iW.vals, show 8 * q + r = 31 - m by omega]
      have vy : (x : Int) / 2 ^ s = (y : Int) := by rw [ey]; simp
      have vb : IntKind.u8.wrap (y : Int) = (b : Int) := by rw [IntKind.wrap_u8']; omega
      have cb := hrow.cell m (by rw [HL.out]; omega)
      have fb := hrow.frozen m
      have hnext := bytes_step hinv.out (by rw [HL.out]; omega) hbyte
      have HN := Lib.hid hnext
      have hrow' := Lib.hid hrow
      have harr' := Lib.hid harr
      clear hq hr hs ex ey eb hbyte hnext hinv hrow harr hp
      go_wp2_with fail
      go_roundw
      case rel =>
        refine ⟨m + 1, bs.set m b, by omega, by go_num, by show (bs.set m b).length = 32; rw [List.length_set]; exact HL.out, HN.out, harr'.out.far (p := ⟨w.heap.size + 1 + 1, m, none⟩) (by simp; omega) _, hres.out.far (p := ⟨w.heap.size + 1 + 1, m, none⟩) (by simp) _, hrow'.out.set m b, hbel.out.setCell (p := ⟨w.heap.size + 1 + 1, m, none⟩) (by simp; omega) _⟩
      case measure => simp [intOf]; omega
    · obtain rfl : m = 32 := by omega
      have hbs := bytes32_eq HL.out hinv.out
      subst hbs
      have hrow := Lib.hid hrow
      go_upto_region 8 with (fail)
      refine wp_region_lit ?_
      refine wpList_load_row rfl 33 (.tmp 3) rfl (w.heap.size + 1 + 1) rfl 33 (Cs8 (bytes32 a)) (0, 0) _ hrow.out Try.underlying33 rfl (info33' (bytes32_len a)) ?_
      refine wpList_store_row rfl 33 (.tmp 2) (.tmp 23) rfl (w.heap.size + 1) (Cs8 (bytes32 a)) rfl rfl 33 _ hres.out (info33' (bytes32_len a)) (by rw [cs8_size, cs8_size, bytes32_len]; simp) (cs8_one _) ?_
      refine wpList_nil ?_
      have hres' := hres.out.toSet (bytes32 a)
      have hB := below_setRow hbel.out (show w.heap.size ≤ w.heap.size + 1 by omega) (Cs8 (bytes32 a))
      generalize wr.setRow (w.heap.size + 1) (Cs8 (bytes32 a)) = Y at *
      have HR := Lib.hid hres'
      have HB := Lib.hid hB
      clear hres' hB hrow hres hbel
      go_wp2_with fail
      exact bodyPost_ret (v := BV (bytes32 a)) (results_cell_row Try.results23 _ _ (w.heap.size + 1) 33 (Cs8 (bytes32 a)) (0, 0) _ rfl HR.out Try.underlying33 rfl (info33' (bytes32_len a))) rfl ⟨rfl, HB.out⟩

set_option maxRecDepth 100000 in
set_option maxHeartbeats 3200000 in
theorem rfill_f {u : Value} {a L : Nat} (w : World) (h : Num w u a L) (hL : L ≤ 1048576) (wide : Nat) (hw : wide ≤ 1048576) (ha : a < 256 ^ wide) :
    Calls Try.prog 79 #[u, .int .i64 wide] w (RetR (fun w' v => ∃ l, Byt w' v l ∧ l.length = wide ∧ dv 256 l.reverse = a ∧ ∀ k, v.ownBlock = some k → w.heap.size ≤ k) w) := by
  obtain ⟨i0, hi, hz0, hz1, hz2⟩ := info_parts info8
  have HR := Lib.hid (rbytes_n w h (by omega))
  have HA := Lib.hid ha
  clear ha
  go_enter Try.func79, Try.ntmps79
  go_wp2_with fail
  (with_reducible refine HR.out.mono ?_)
  rintro e w1 ⟨v1, rfl, ⟨bs, hbyt, hcan, hbl⟩, hbel⟩
  obtain ⟨A, c, rfl, hrd, hds⟩ := hbyt
  have hle : bs.length ≤ wide := by have := hcan.len_le (by omega) HA.out; rwa [List.length_reverse] at this
  have hmk := mk8 ((wide : Int) - bs.length) (wide - bs.length) (by omega) (by omega)
  have hrow := Row.made (k := .u8) w1 5 (wide - bs.length)
  have hacc := Acc.of_row hrow (base := w1.heap.size) (Nat.le_refl _) (by simp; omega)
  rw [List.length_replicate] at hacc
  have hrd2 := hrd.alloc (.cells (madeCells #[Value.int .u8 0] (wide - bs.length)) 5)
  have fin : ∀ w2 v', Acc w2 w1.heap.size v' (List.replicate (wide - bs.length) 0 ++ bs) → ∃ l, Byt w2 v' l ∧ l.length = wide ∧ dv 256 l.reverse = a ∧ ∀ k, v'.ownBlock = some k → w.heap.size ≤ k := fun w2 v' hh => by
    refine ⟨_, hh.byt ((Ds.zeros (by omega) _).append hds), by simp; omega, ?_, fun k hk => by have := hh.own k hk; have := hbel.size; omega⟩
    rw [List.reverse_append, dv_append, List.reverse_replicate, dv_zeros, hcan.2.1]; simp
  have FIN := Lib.hid fin
  have HACC := Lib.hid hacc
  have HRD := Lib.hid hrd2
  have HBl := Lib.hid hbl
  clear fin hcan hacc hrd2 hrow hds hbl
  rcases A with _ | ad
  · have hc0 := hrd.cap rfl
    have hb0 : bs = [] := by
      rcases Nat.eq_zero_or_pos bs.length with h0 | h0
      · exact List.eq_nil_of_length_eq_zero h0
      · obtain ⟨_, _, e, _⟩ := hrd.at_ h0; cases e
    subst hb0 hc0
    clear hrd
    have hA := HACC.out
    simp only [List.length_nil, Nat.sub_zero] at hA
    have HA1 := Lib.hid hA
    have hmk := mk8 (wide : Int) wide rfl (by omega)
    clear hA
    go_wp2_with (at_builtin; refine wpList_append_own_none rfl (.tmp 14) (.tmp 15) 27 rfl w1.heap.size 5 i0 1 Try.underlying27 hi _ _ _ rfl HA1.out rfl ?_)
    go_ret
    have h1 := FIN.out _ _ (by rw [List.append_nil]; exact HA1.out)
    refine ⟨_, rfl, ?_, ?_⟩
    · exact h1
    · exact hbel.alloc hbel.size _
  · have hcap := hrd.le
    clear hrd
    go_wp2_with (at_builtin; refine wpList_append_own _ rfl (.tmp 14) (.tmp 15) 27 rfl w1.heap.size 5 i0 (.int .u8 0) 1 1 Try.underlying27 hi hz0 hz1 hz2 rfl (by decide) _ _ _ rfl HACC.out _ _ _ (bv bs) rfl (by simp [bv_length]) (Rd.news HRD.out) (bv_one _) (by unfold maxLen; simp; omega) (by simp; omega) (by simp) ?_)
    intro v' w2 hown hg _
    have hacc' : Acc w2 w1.heap.size v' (List.replicate (wide - bs.length) 0 ++ bs) := by unfold Acc; rw [bv_append, List.length_append, List.length_replicate, Nat.sub_add_cancel hle]; exact hown
    have hbel' : Below w.heap.size w w2 := (hbel.alloc hbel.size _).grown hg (by have := hbel.size; simp; omega) (fun k hk => by have := Acc.own HACC.out k hk; have := hbel.size; omega)
    have HA2 := Lib.hid hacc'
    have HB2 := Lib.hid hbel'
    clear hown hg hacc' hbel'
    go_wp2_with fail
    go_ret
    exact ⟨_, rfl, FIN.out _ _ HA2.out, HB2.out⟩

set_option maxRecDepth 100000 in
set_option maxHeartbeats 3200000 in
theorem bytes1_c {a : Nat} (ha : Big a) (w : World) : Calls Try.prog 24 #[W a] w (RetV (BV (bytes32 a)) w) := by
  have iA := isW_lim ha
  have HI := Lib.hid iA
  have HA := Lib.hid ha
  have h1 := ((Arr.new4 w 24 (lim 0 a) (lim 1 a) (lim 2 a) (lim 3 a)).alloc (.cells (Cs8 (List.replicate 32 0)) 33)).alloc (.cells (Cs8 (List.replicate 32 0)) 33)
  have h2 := (Row.new (k := .u8) (w.alloc (.cells #[.int .u64 (lim 0 a : Nat), .int .u64 (lim 1 a : Nat), .int .u64 (lim 2 a : Nat), .int .u64 (lim 3 a : Nat)] 24)) 33 (List.replicate 32 0)).alloc (.cells (Cs8 (List.replicate 32 0)) 33)
  rw [show (w.alloc (.cells #[.int .u64 (lim 0 a : Nat), .int .u64 (lim 1 a : Nat), .int .u64 (lim 2 a : Nat), .int .u64 (lim 3 a : Nat)] 24)).heap.size = w.heap.size + 1 by simp] at h2
  have h3 := Row.new (k := .u8) ((w.alloc (.cells #[.int .u64 (lim 0 a : Nat), .int .u64 (lim 1 a : Nat), .int .u64 (lim 2 a : Nat), .int .u64 (lim 3 a : Nat)] 24)).alloc (.cells (Cs8 (List.replicate 32 0)) 33)) 33 (List.replicate 32 0)
  rw [show ((w.alloc (.cells #[.int .u64 (lim 0 a : Nat), .int .u64 (lim 1 a : Nat), .int .u64 (lim 2 a : Nat), .int .u64 (lim 3 a : Nat)] 24)).alloc (.cells (Cs8 (List.replicate 32 0)) 33)).heap.size = w.heap.size + 1 + 1 by simp] at h3
  have h4 := (((Below.refl w.heap.size w).alloc (Nat.le_refl _) (.cells #[.int .u64 (lim 0 a : Nat), .int .u64 (lim 1 a : Nat), .int .u64 (lim 2 a : Nat), .int .u64 (lim 3 a : Nat)] 24)).alloc (by simp) (.cells (Cs8 (List.replicate 32 0)) 33)).alloc (by simp; omega) (.cells (Cs8 (List.replicate 32 0)) 33)
  obtain ⟨X, hX⟩ : ∃ X, X = ((w.alloc (.cells #[.int .u64 (lim 0 a : Nat), .int .u64 (lim 1 a : Nat), .int .u64 (lim 2 a : Nat), .int .u64 (lim 3 a : Nat)] 24)).alloc (.cells (Cs8 (List.replicate 32 0)) 33)).alloc (.cells (Cs8 (List.replicate 32 0)) 33) := ⟨_, rfl⟩
  rw [← hX] at h1 h2 h3 h4
  have hsz : w.heap.size + 1 + 1 + 1 = X.heap.size := by rw [hX]; simp
  have HX := Lib.hid hX
  have H2 := Lib.hid h2
  have H3 := Lib.hid h3
  have H4 := Lib.hid h4
  have HS := Lib.hid hsz
  clear iA ha hX h2 h3 h4 hsz
  go_enter Try.func24, Try.ntmps24
  go_upto_region 2 with (fail)
  have hX := HX.out
  change X = ((w.alloc _).alloc (.cells #[.int .u8 0, .int .u8 0, .int .u8 0, .int .u8 0, .int .u8 0, .int .u8 0, .int .u8 0, .int .u8 0, .int .u8 0, .int .u8 0, .int .u8 0, .int .u8 0, .int .u8 0, .int .u8 0, .int .u8 0, .int .u8 0, .int .u8 0, .int .u8 0, .int .u8 0, .int .u8 0, .int .u8 0, .int .u8 0, .int .u8 0, .int .u8 0, .int .u8 0, .int .u8 0, .int .u8 0, .int .u8 0, .int .u8 0, .int .u8 0, .int .u8 0, .int .u8 0] 33)).alloc (.cells #[.int .u8 0, .int .u8 0, .int .u8 0, .int .u8 0, .int .u8 0, .int .u8 0, .int .u8 0, .int .u8 0, .int .u8 0, .int .u8 0, .int .u8 0, .int .u8 0, .int .u8 0, .int .u8 0, .int .u8 0, .int .u8 0, .int .u8 0, .int .u8 0, .int .u8 0, .int .u8 0, .int .u8 0, .int .u8 0, .int .u8 0, .int .u8 0, .int .u8 0, .int .u8 0, .int .u8 0, .int .u8 0, .int .u8 0, .int .u8 0, .int .u8 0, .int .u8 0] 33) at hX
  rw [← hX]
  clear hX HX
  obtain ⟨x0, x1, x2, x3⟩ := h1.cells4
  have hn : Calls Try.prog 103 #[.agg #[.int .u64 (lim 0 a : Nat), .int .u64 (lim 1 a : Nat), .int .u64 (lim 2 a : Nat), .int .u64 (lim 3 a : Nat)]] X (RetR (fun w' v => Num w' v a 8) X) := rN_c HI.out X
  have HN := Lib.hid hn
  clear hn h1
  go_wp2_with fail
  (with_reducible refine HN.out.mono ?_)
  rintro e w1 ⟨v1, rfl, hn1, hb1⟩
  clear x0 x1 x2 x3
  have hf : Calls Try.prog 79 #[v1, .int .i64 32] w1 _ := rfill_f w1 hn1 (by omega) 32 (by omega) (by have := HA.out; unfold Big at this; exact this)
  have HF := Lib.hid hf
  clear hf hn1
  go_wp2_with fail
  (with_reducible refine HF.out.mono ?_)
  rintro e w2 ⟨v2, rfl, ⟨l, hbyt, hll, hdv, hown⟩, hb2⟩
  obtain ⟨A, c, rfl, hrd, hds⟩ := hbyt
  have hl : l = bytes32 a := bytes32_eq hll fun j hj => by
    have h := dv_digit (B := 256) hds.reverse (by omega) (31 - j)
    rw [hdv, rev_get _ _ (by omega), hll, show 32 - 1 - (31 - j) = j by omega] at h
    exact h.symm
  subst hl
  obtain ⟨b0, o0, rfl, hbb, hcell⟩ := hrd.at_ (by omega)
  have hb0 : X.heap.size ≤ b0 := Nat.le_trans hb1.size (hown b0 rfl)
  rw [bytes32_len] at hcell ⊢
  have H2 := Lib.hid ((H2.out.below hb1 H2.out.lt).below hb2 (H2.out.below hb1 H2.out.lt).lt)
  have h3 := (H3.out.below hb1 H3.out.lt).below hb2 (H3.out.below hb1 H3.out.lt).lt
  have k1 := H4.out.trans (hb1.mono H4.out.size)
  have H4 := Lib.hid (k1.trans (hb2.mono k1.size))
  have HC := Lib.hid hcell
  have H3 := Lib.hid h3
  have HB0 : w.heap.size + 1 + 1 < b0 := by have := HS.out; omega
  have HCap : (32 : Nat) ≤ c := by have := hrd.le; rwa [bytes32_len] at this
  clear hcell hown hdv hds hrd hll hb1 hb2 k1 h3 HF HN hb0 hbb HS
  go_wp2_with fail
  go_loopw [5] (fun i wr => ∃ (m : Nat) (bs : List Nat), m ≤ 32 ∧ i = .int .i64 (m : Int) ∧ Hid (bs.length = 32) ∧ Hid (∀ j, j < m → bs.getD j 0 = a / 256 ^ (31 - j) % 256) ∧ Hid (∀ j, j < 32 → wr.cell? ⟨b0, o0 + j, none⟩ = some (.int .u8 ((bytes32 a).getD j 0 : Nat))) ∧ Hid (Row .u8 wr (w.heap.size + 1) 33 (List.replicate 32 0)) ∧ Row .u8 wr (w.heap.size + 1 + 1) 33 bs ∧ Hid (Below w.heap.size w wr))
    (fun i _ => (32 - intOf i).toNat)
  case atStart =>
    exact ⟨0, List.replicate 32 0, by omega, rfl, by show (List.replicate 32 0).length = 32; simp, fun j hj => by omega, HC, H2, H3.out, H4⟩
  case round =>
    obtain ⟨m, bs, hm, rfl, HL, hinv, hcs, hres, hrow, hbel⟩ := hrel
    clear HC H2 H3 H4
    by_cases hlt : (m : Int) < 32
    · have cx := hcs.out m (by omega)
      have hbyte : (bytes32 a).getD m 0 = a / 256 ^ (31 - m) % 256 := bytes32_get a (by omega)
      obtain ⟨b, eb⟩ : ∃ b, b = (bytes32 a).getD m 0 := ⟨_, rfl⟩
      rw [← eb] at cx hbyte
      have cb := hrow.cell m (by rw [HL.out]; omega)
      have fb := hrow.frozen m
      have hnext := bytes_step hinv.out (by rw [HL.out]; omega) hbyte
      have HN := Lib.hid hnext
      have hrow' := Lib.hid hrow
      clear eb hbyte hnext hinv hrow
      go_wp2_with fail
      go_roundw
      case rel =>
        refine ⟨m + 1, bs.set m b, by omega, by go_num, by show (bs.set m b).length = 32; rw [List.length_set]; exact HL.out, HN.out, fun j hj => ?_, hres.out.far (p := ⟨w.heap.size + 1 + 1, m, none⟩) (by simp) _, hrow'.out.set m b, hbel.out.setCell (p := ⟨w.heap.size + 1 + 1, m, none⟩) (by simp; omega) _⟩
        rw [World.cell?_setCell_other _ _ _ _ (by intro h; simp at h <;> omega)]
        exact hcs.out j hj
      case measure => simp [intOf]; omega
    · obtain rfl : m = 32 := by omega
      have hbs := bytes32_eq HL.out hinv.out
      subst hbs
      have hrow := Lib.hid hrow
      go_upto_region 7 with (fail)
      refine wp_region_lit ?_
      refine wpList_load_row rfl 33 (.tmp 3) rfl (w.heap.size + 1 + 1) rfl 33 (Cs8 (bytes32 a)) (0, 0) _ hrow.out Try.underlying33 rfl (info33' (bytes32_len a)) ?_
      refine wpList_store_row rfl 33 (.tmp 2) (.tmp 19) rfl (w.heap.size + 1) (Cs8 (bytes32 a)) rfl rfl 33 _ hres.out (info33' (bytes32_len a)) (by rw [cs8_size, cs8_size, bytes32_len]; simp) (cs8_one _) ?_
      refine wpList_nil ?_
      have hres' := hres.out.toSet (bytes32 a)
      have hB := below_setRow hbel.out (show w.heap.size ≤ w.heap.size + 1 by omega) (Cs8 (bytes32 a))
      generalize wr.setRow (w.heap.size + 1) (Cs8 (bytes32 a)) = Y at *
      have HR := Lib.hid hres'
      have HB := Lib.hid hB
      clear hres' hB hrow hres hbel hcs
      go_wp2_with fail
      exact bodyPost_ret (v := BV (bytes32 a)) (results_cell_row Try.results24 _ _ (w.heap.size + 1) 33 (Cs8 (bytes32 a)) (0, 0) _ rfl HR.out Try.underlying33 rfl (info33' (bytes32_len a))) rfl ⟨rfl, HB.out⟩
end Go.Proofs.Ytihffojljbgpcaa
