/- Arrays of 32 bytes, by value; the contracts of Bytes in package word and in the reference. -/
import Derived.Test.YtgmpoefgcimaiaaRefN
import Derived.Test.YtgmpoefgcimaiaaRFrom
import Derived.Laws.Rows
import Derived.Laws.CopyOwn
import Derived.Deep.DeepCutAuto
namespace Go.Proofs.Ytgmpoefgcimaiaa
open Go.RowKit

/-- Bytes as cells; as an array. -/
abbrev Cs8 (bs : List Nat) : Array Value := (bs.map fun n : Nat => Value.int .u8 (n : Int)).toArray
def BV (bs : List Nat) : Value := .agg (Cs8 bs)
/-- A number's 32 bytes, the highest first. -/
def bytes32 (a : Nat) : List Nat := (List.range 32).map fun i => a / 256 ^ (31 - i) % 256
theorem bytes32_len (a : Nat) : (bytes32 a).length = 32 := by simp [bytes32]
theorem bytes32_get (a : Nat) {i : Nat} (h : i < 32) : (bytes32 a).getD i 0 = a / 256 ^ (31 - i) % 256 := by simp [bytes32, h]
theorem bytes32_ds (a : Nat) : Ds 256 (bytes32 a) := fun x hx => by
  simp only [bytes32, List.mem_map] at hx
  obtain ⟨i, _, rfl⟩ := hx
  exact Nat.mod_lt _ (by omega)
theorem list_ext {xs ys : List Nat} (hl : xs.length = ys.length) (h : ∀ i, i < xs.length → xs.getD i 0 = ys.getD i 0) : xs = ys := by
  refine List.ext_getElem hl fun i h1 h2 => ?_
  have := h i h1
  simpa [h1, h2] using this
theorem bytes32_eq {bs : List Nat} {a : Nat} (hl : bs.length = 32) (h : ∀ j, j < 32 → bs.getD j 0 = a / 256 ^ (31 - j) % 256) : bs = bytes32 a :=
  list_ext (by rw [hl, bytes32_len]) fun i hi => by rw [h i (by omega), bytes32_get a (by omega)]
theorem cs8_size (bs : List Nat) : (Cs8 bs).size = bs.length := by simp [Cs8]
theorem cs8_one (bs : List Nat) : (Cs8 bs).all (·.oneCell') = true := by
  rw [Array.all_eq_true_iff_forall_mem]
  intro v hv
  simp only [Cs8, List.mem_toArray, List.mem_map] at hv
  obtain ⟨n, _, rfl⟩ := hv
  rfl
theorem info33 : (Try.prog.info? 37).map (·.size) = some 32 := by kernel_rfl
theorem info33' {bs : List Nat} (h : bs.length = 32) : (Try.prog.info? 37).map (·.size) = some (Cs8 bs).size := by rw [cs8_size, h]; exact info33
theorem Row.toSet {w : World} {g : Nat} {t : TypeId} {xs : List Nat} (h : Row .u8 w g t xs) (bs : List Nat) : Row .u8 (w.setRow g (Cs8 bs)) g t bs := setRow_heap w g _ _ t (0, 0) h
theorem bytes_step {bs : List Nat} {a m b : Nat} (h : ∀ j, j < m → bs.getD j 0 = a / 256 ^ (31 - j) % 256) (hm : m < bs.length) (hb : b = a / 256 ^ (31 - m) % 256) : ∀ j, j < m + 1 → (bs.set m b).getD j 0 = a / 256 ^ (31 - j) % 256 := fun j hj => by
  by_cases e : m = j
  · subst e; rw [getD_set_self hm]; exact hb
  · rw [getD_set_ne e]; exact h j (by omega)

set_option maxRecDepth 100000 in
set_option maxHeartbeats 3200000 in
theorem bytes_c {a : Nat} (ha : Big a) (w : World) : Calls Try.prog 62 #[W a] w (RetV (BV (bytes32 a)) w) := by
  have HA := Lib.hid ha
  clear ha
  go_enter Try.func62, Try.ntmps62
  go_wp2_with fail
  go_loopw [6] (fun i wr => ∃ (m : Nat) (bs : List Nat), m ≤ 32 ∧ i = .int .i64 (m : Int) ∧ Hid (bs.length = 32) ∧ Hid (∀ j, j < m → bs.getD j 0 = a / 256 ^ (31 - j) % 256) ∧ Arr wr w.heap.size 30 [lim 0 a, lim 1 a, lim 2 a, lim 3 a] ∧ Hid (Row .u8 wr (w.heap.size + 1) 37 (List.replicate 32 0)) ∧ Row .u8 wr (w.heap.size + 1 + 1) 37 bs ∧ Hid (Below w.heap.size w wr))
    (fun i _ => (32 - intOf i).toNat)
  case atStart =>
    refine ⟨0, List.replicate 32 0, by omega, rfl, by show (List.replicate 32 0).length = 32; simp, fun j hj => by omega, ?_, ?_, ?_, ?_⟩
    · have h := ((Arr.new4 w 30 (lim 0 a) (lim 1 a) (lim 2 a) (lim 3 a)).alloc (.cells (Cs8 (List.replicate 32 0)) 37)).alloc (.cells (Cs8 (List.replicate 32 0)) 37)
      exact h
    · have h := (Row.new (k := .u8) (w.alloc (.cells #[.int .u64 (lim 0 a : Nat), .int .u64 (lim 1 a : Nat), .int .u64 (lim 2 a : Nat), .int .u64 (lim 3 a : Nat)] 30)) 37 (List.replicate 32 0)).alloc (.cells (Cs8 (List.replicate 32 0)) 37)
      rw [show (w.alloc (.cells #[.int .u64 (lim 0 a : Nat), .int .u64 (lim 1 a : Nat), .int .u64 (lim 2 a : Nat), .int .u64 (lim 3 a : Nat)] 30)).heap.size = w.heap.size + 1 by simp] at h
      exact h
    · have h := Row.new (k := .u8) ((w.alloc (.cells #[.int .u64 (lim 0 a : Nat), .int .u64 (lim 1 a : Nat), .int .u64 (lim 2 a : Nat), .int .u64 (lim 3 a : Nat)] 30)).alloc (.cells (Cs8 (List.replicate 32 0)) 37)) 37 (List.replicate 32 0)
      rw [show ((w.alloc (.cells #[.int .u64 (lim 0 a : Nat), .int .u64 (lim 1 a : Nat), .int .u64 (lim 2 a : Nat), .int .u64 (lim 3 a : Nat)] 30)).alloc (.cells (Cs8 (List.replicate 32 0)) 37)).heap.size = w.heap.size + 1 + 1 by simp] at h
      exact h
    · exact (((Below.refl _ _).alloc (Nat.le_refl _) _).alloc (by simp) _).alloc (by simp; omega) _
  case round =>
    obtain ⟨m, bs, hm, rfl, HL, hinv, harr, hres, hrow, hbel⟩ := hrel
    by_cases hlt : (m : Int) < 32
    · obtain ⟨p, hp⟩ : ∃ p : Nat, 31 - (m : Int) = (p : Int) := ⟨31 - m, by omega⟩
      have hwp : IntKind.i64.wrap (31 - (m : Int)) = (p : Int) := by rw [IntWalk.i64_in _ (by omega)]; exact hp
      obtain ⟨q, hq⟩ : ∃ q, q = p / 8 := ⟨_, rfl⟩
      obtain ⟨r, hr⟩ : ∃ r, r = p % 8 := ⟨_, rfl⟩
      obtain ⟨s, hs⟩ : ∃ s, s = 8 * r := ⟨_, rfl⟩
      have e1 : (p : Int) / 8 = (q : Int) := by omega
      have e2 : (p : Int) % 8 = (r : Int) := by omega
      have e3 : (p : Int).tmod 8 = (r : Int) := by rw [Int.tmod_eq_emod_of_nonneg (by omega)]; omega
      have e3' : (p : Int).tdiv 8 = (q : Int) := by rw [Int.tdiv_eq_ediv_of_nonneg (by omega)]; omega
      have e4 : IntKind.i64.wrap ((r : Int) * 8) = (s : Int) := by rw [IntWalk.i64_in _ (by omega)]; omega
      have hq3 : (q : Int) ≤ 3 := by omega
      have hs63 : (s : Int) ≤ 63 := by omega
      have cx := harr.cell q (by simp; omega)
      obtain ⟨x, ex⟩ : ∃ x, x = [lim 0 a, lim 1 a, lim 2 a, lim 3 a].getD q 0 := ⟨_, rfl⟩
      rw [← ex] at cx
      obtain ⟨y, ey⟩ : ∃ y, y = x / 2 ^ s := ⟨_, rfl⟩
      obtain ⟨b, eb⟩ : ∃ b, b = y % 256 := ⟨_, rfl⟩
      have hbyte : b = a / 256 ^ (31 - m) % 256 := by
        have iW := isW_lim HA.out
        rw [eb, ey, ex, hs, byte_of_limb iW.limsList q r (by omega), ← iW.vals, show 8 * q + r = 31 - m by omega]
      have vy : (x : Int) / 2 ^ s = (y : Int) := by rw [ey]; simp
      have vb : IntKind.u8.wrap (y : Int) = (b : Int) := by rw [IntKind.wrap_u8']; omega
      have cb := hrow.cell m (by rw [HL.out]; omega)
      have fb := hrow.frozen m
      have hnext := bytes_step hinv.out (by rw [HL.out]; omega) hbyte
      have HN := Lib.hid hnext
      have hrow' := Lib.hid hrow
      have harr' := Lib.hid harr
      clear hq hr hs ex ey eb hbyte hnext hinv hrow harr hp
      go_wp2_with fail
      go_roundw
      case rel =>
        refine ⟨m + 1, bs.set m b, by omega, by go_num, by show (bs.set m b).length = 32; rw [List.length_set]; exact HL.out, HN.out, harr'.out.far (p := ⟨w.heap.size + 1 + 1, m, none⟩) (by simp; omega) _, hres.out.far (p := ⟨w.heap.size + 1 + 1, m, none⟩) (by simp) _, hrow'.out.set m b, hbel.out.setCell (p := ⟨w.heap.size + 1 + 1, m, none⟩) (by simp; omega) _⟩
      case measure => simp [intOf]; omega
    · obtain rfl : m = 32 := by omega
      have hbs := bytes32_eq HL.out hinv.out
      subst hbs
      have hrow := Lib.hid hrow
      go_upto_region 8 with (fail)
      refine wp_region_lit ?_
      refine wpList_load_row rfl 37 (.tmp 3) rfl (w.heap.size + 1 + 1) rfl 37 (Cs8 (bytes32 a)) (0, 0) _ hrow.out Try.underlying37 rfl (info33' (bytes32_len a)) ?_
      refine wpList_store_row rfl 37 (.tmp 2) (.tmp 23) rfl (w.heap.size + 1) (Cs8 (bytes32 a)) rfl rfl 37 _ hres.out (info33' (bytes32_len a)) (by rw [cs8_size, cs8_size, bytes32_len]; simp) (cs8_one _) ?_
      refine wpList_nil ?_
      have hres' := hres.out.toSet (bytes32 a)
      have hB := below_setRow hbel.out (show w.heap.size ≤ w.heap.size + 1 by omega) (Cs8 (bytes32 a))
      generalize wr.setRow (w.heap.size + 1) (Cs8 (bytes32 a)) = Y at *
      have HR := Lib.hid hres'
      have HB := Lib.hid hB
      clear hres' hB hrow hres hbel
      go_wp2_with fail
      exact bodyPost_ret (v := BV (bytes32 a)) (results_cell_row Try.results62 _ _ (w.heap.size + 1) 37 (Cs8 (bytes32 a)) (0, 0) _ rfl HR.out Try.underlying37 rfl (info33' (bytes32_len a))) rfl ⟨rfl, HB.out⟩

end Go.Proofs.Ytgmpoefgcimaiaa
