/- Arrays of 32 bytes, by value; the contracts of Bytes in package word and in the reference. -/
import Derived.Test.YtiflfcdegpmhnaaRefN
import Derived.Test.YtiflfcdegpmhnaaRFrom
import Derived.Laws.Rows
import Derived.Laws.CopyOwn
import Derived.Deep.DeepCutAuto
namespace Go.Proofs.Ytiflfcdegpmhnaa
open Go.RowKit

/-- Bytes as cells; as an array. -/
abbrev Cs8 (bs : List Nat) : Array Value := (bs.map fun n : Nat => Value.int .u8 (n : Int)).toArray
def BV (bs : List Nat) : Value := .agg (Cs8 bs)
/-- A number's 32 bytes, the highest first. -/
def bytes32 (a : Nat) : List Nat := (List.range 32).map fun i => a / 256 ^ (31 - i) % 256
theorem bytes32_len (a : Nat) : (bytes32 a).length = 32 := by simp [bytes32]
theorem bytes32_get (a : Nat) {i : Nat} (h : i < 32) : (bytes32 a).getD i 0 = a / 256 ^ (31 - i) % 256 := by simp [bytes32, h]
theorem bytes32_ds (a : Nat) : Ds 256 (bytes32 a) := fun x hx => by
  simp only [bytes32, List.mem_map] at hx
  obtain ⟨i, _, rfl⟩ := hx
  exact Nat.mod_lt _ (by omega)
theorem list_ext {xs ys : List Nat} (hl : xs.length = ys.length) (h : ∀ i, i < xs.length → xs.getD i 0 = ys.getD i 0) : xs = ys := by
  refine List.ext_getElem hl fun i h1 h2 => ?_
  have := h i h1
  simpa [h1, h2] using this
theorem bytes32_eq {bs : List Nat} {a : Nat} (hl : bs.length = 32) (h : ∀ j, j < 32 → bs.getD j 0 = a / 256 ^ (31 - j) % 256) : bs = bytes32 a :=
  list_ext (by rw [hl, bytes32_len]) fun i hi => by rw [h i (by omega), bytes32_get a (by omega)]
theorem cs8_size (bs : List Nat) : (Cs8 bs).size = bs.length := by simp [Cs8]
theorem cs8_one (bs : List Nat) : (Cs8 bs).all (·.oneCell') = true := by
  rw [Array.all_eq_true_iff_forall_mem]
  intro v hv
  simp only [Cs8, List.mem_toArray, List.mem_map] at hv
  obtain ⟨n, _, rfl⟩ := hv
  rfl
theorem info33 : (Try.prog.info? 141).map (·.size) = some 32 := by kernel_rfl
theorem info33' {bs : List Nat} (h : bs.length = 32) : (Try.prog.info? 141).map (·.size) = some (Cs8 bs).size := by rw [cs8_size, h]; exact info33
theorem Row.toSet {w : World} {g : Nat} {t : TypeId} {xs : List Nat} (h : Row .u8 w g t xs) (bs : List Nat) : Row .u8 (w.setRow g (Cs8 bs)) g t bs := setRow_heap w g _ _ t (0, 0) h
theorem bytes_step {bs : List Nat} {a m b : Nat} (h : ∀ j, j < m → bs.getD j 0 = a / 256 ^ (31 - j) % 256) (hm : m < bs.length) (hb : b = a / 256 ^ (31 - m) % 256) : ∀ j, j < m + 1 → (bs.set m b).getD j 0 = a / 256 ^ (31 - j) % 256 := fun j hj => by
  by_cases e : m = j
  · subst e; rw [getD_set_self hm]; exact hb
  · rw [getD_set_ne e]; exact h j (by omega)

end Go.Proofs.Ytiflfcdegpmhnaa
