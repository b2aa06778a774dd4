/- Package quarryref18: Row, an operation's name, what it takes and lays. (Written by wip/gencdrow.py.) -/
import Derived.Test.YtopeahjdglkheaaDoorCdDigits
import Derived.Test.YtopeahjdglkheaaDoorCdRows
import Derived.Test.YtopeahjdglkheaaDoorFkOp
import Derived.Deep.QuietTactic
import Derived.BigQuiet
namespace Go.Proofs.YtopeahjdglkheaaDoor
open Go.RowKit

theorem below_cdN (B : Nat) (w : World) (n : Nat) : Below B w (w.drewN n) := ⟨rfl, rfl, rfl, Nat.le_refl _, fun _ _ => rfl⟩
/-- A row of the table, by its number. -/
def rowT (op : Nat) : ByteArray × Nat × Nat := match rowsT.find? (fun r => r.1 == op) with | some r => r.2 | none => (⟨#[]⟩, 0, 0)
/-- What an operation that is there is called, what it takes and lays; late: from Paris on. -/
def rowN (late : Bool) (op : Nat) : ByteArray × Nat × Nat :=
  if op = 68 ∧ late = true then (⟨#[80, 82, 69, 86, 82, 65, 78, 68, 65, 79]⟩, 0, 1) else
  if 96 ≤ op ∧ op ≤ 127 then (⟨#[80, 85, 83, 72]⟩ ++ sOf (decL (op - 95)), 0, 1) else
  if 128 ≤ op ∧ op ≤ 143 then (⟨#[68, 85, 80]⟩ ++ sOf (decL (op - 127)), op - 127, op - 126) else
  if 144 ≤ op ∧ op ≤ 159 then (⟨#[83, 87, 65, 80]⟩ ++ sOf (decL (op - 143)), op - 142, op - 142) else
  if 160 ≤ op ∧ op ≤ 164 then (⟨#[76, 79, 71]⟩ ++ sOf (decL (op - 160)), op - 160 + 2, 0) else rowT op
def rowV (f op : Int) : Value := if opZ f op = true then .tuple #[.string (rowN (decide (13 ≤ f)) op.toNat).1, .int .i64 ((rowN (decide (13 ≤ f)) op.toNat).2.1 : Nat), .int .i64 ((rowN (decide (13 ≤ f)) op.toNat).2.2 : Nat), .bool true] else .tuple #[.string ⟨#[]⟩, .int .i64 0, .int .i64 0, .bool false]
theorem rowN_push (b : Bool) {n : Nat} (h1 : 96 ≤ n) (h2 : n ≤ 127) : rowN b n = (⟨#[80, 85, 83, 72]⟩ ++ sOf (decL (n - 95)), 0, 1) := by
  unfold rowN; rw [if_neg (fun h => by omega), if_pos ⟨h1, h2⟩]
theorem rowN_dup (b : Bool) {n : Nat} (h1 : 128 ≤ n) (h2 : n ≤ 143) : rowN b n = (⟨#[68, 85, 80]⟩ ++ sOf (decL (n - 127)), n - 127, n - 126) := by
  unfold rowN; rw [if_neg (fun h => by omega), if_neg (fun h => by omega), if_pos ⟨h1, h2⟩]
theorem rowN_swap (b : Bool) {n : Nat} (h1 : 144 ≤ n) (h2 : n ≤ 159) : rowN b n = (⟨#[83, 87, 65, 80]⟩ ++ sOf (decL (n - 143)), n - 142, n - 142) := by
  unfold rowN; rw [if_neg (fun h => by omega), if_neg (fun h => by omega), if_neg (fun h => by omega), if_pos ⟨h1, h2⟩]
theorem rowN_log (b : Bool) {n : Nat} (h1 : 160 ≤ n) (h2 : n ≤ 164) : rowN b n = (⟨#[76, 79, 71]⟩ ++ sOf (decL (n - 160)), n - 160 + 2, 0) := by
  unfold rowN; rw [if_neg (fun h => by omega), if_neg (fun h => by omega), if_neg (fun h => by omega), if_neg (fun h => by omega), if_pos ⟨h1, h2⟩]
theorem rowN_tab {b : Bool} {n : Nat} (h : n ≤ 95 ∨ 165 ≤ n) (hb : ¬ (n = 68 ∧ b = true)) : rowN b n = rowT n := by
  unfold rowN; rw [if_neg hb, if_neg (fun h => by omega), if_neg (fun h => by omega), if_neg (fun h => by omega), if_neg (fun h => by omega)]
/-- The numbers of the table's rows are not the same; each operation that is there stands in it, but those of intervals. -/
theorem rowsT_idx : ∀ n : Nat, n < 256 → opFirst n ≠ 99 → (n ≤ 95 ∨ 165 ≤ n) → ∃ idx, idx < 79 ∧ ∃ r, rowsT[idx]? = some r ∧ r.1 = n ∧ rowT n = r.2 ∧ ∀ j q, j < idx → rowsT[j]? = some q → q.1 ≠ n := by
  have key : ∀ n : Nat, n < 256 → (opFirst n ≠ 99 ∧ (n ≤ 95 ∨ 165 ≤ n)) → ∃ idx, idx < 79 ∧ (rowsT.map (·.1))[idx]? = some n ∧ (∀ j, j < idx → (rowsT.map (·.1))[j]? ≠ some n) := by decide +kernel
  intro n hn h1 h2
  obtain ⟨idx, hi, hm, hno⟩ := key n hn ⟨h1, h2⟩
  obtain ⟨r, hr⟩ : ∃ r, rowsT[idx]? = some r := ⟨_, List.getElem?_eq_getElem hi⟩
  have hr1 : r.1 = n := by rw [List.getElem?_map, hr] at hm; simpa using hm
  have hno2 : ∀ j q, j < idx → rowsT[j]? = some q → q.1 ≠ n := fun j q hj hq he => hno j hj (by rw [List.getElem?_map, hq]; simp [he])
  refine ⟨idx, hi, r, hr, hr1, ?_, hno2⟩
  have hf : rowsT.find? (fun r => r.1 == n) = some r := by
    rw [List.find?_eq_some_iff_getElem]
    refine ⟨by simp [hr1], idx, hi, ?_, fun j hj => ?_⟩
    · rw [List.getElem?_eq_getElem hi] at hr; exact Option.some.inj hr
    · have := hno2 j _ hj (List.getElem?_eq_getElem (show j < rowsT.length from Nat.lt_trans hj hi))
      simp [this]
  rw [rowT, hf]

set_option maxRecDepth 100000 in
set_option maxHeartbeats 6400000 in
theorem rrow_none (f op : Int) (w : World) (h : opZ f op = false) : Calls Tryd.prog 8 #[.int .i64 f, .int .i64 op] w (RetV (rowV f op) w) := by
  rw [rowV, h, if_neg (by decide)]
  have KO : Hid (∀ v, Calls Tryd.prog 25 #[.int .i64 f, .int .i64 op] v (fun e w' => e = .returned (.bool false) ∧ w' = v)) := fun v => by have := rop_c f op v; rw [h] at this; exact this
  clear h
  go_enter Tryd.func8, Tryd.ntmps8
  go_wp2_with fail
  (with_reducible refine (KO.out _).mono ?_)
  rintro e w1 ⟨rfl, rfl⟩
  clear KO
  go_wp2_with fail
  exact bodyPost_ret (v := .tuple #[.string ⟨#[]⟩, .int .i64 0, .int .i64 0, .bool false]) (by simp [results, Tryd.results8, go_sem]) rfl ⟨rfl, Below.refl _ _⟩

set_option maxRecDepth 100000 in
set_option maxHeartbeats 6400000 in
theorem rrow_68 (f : Int) (w : World) (h : opZ f 68 = true) (h13 : 13 ≤ f) : Calls Tryd.prog 8 #[.int .i64 f, .int .i64 68] w (RetV (rowV f 68) w) := by
  have hv : rowV f 68 = .tuple #[.string ⟨#[80, 82, 69, 86, 82, 65, 78, 68, 65, 79]⟩, .int .i64 0, .int .i64 1, .bool true] := by
    rw [rowV, if_pos h, decide_eq_true h13]; rfl
  rw [hv]
  have KO : Hid (∀ v, Calls Tryd.prog 25 #[.int .i64 f, .int .i64 68] v (fun e w' => e = .returned (.bool true) ∧ w' = v)) := fun v => by have := rop_c f 68 v; rw [h] at this; exact this
  clear h hv
  go_enter Tryd.func8, Tryd.ntmps8
  go_wp2_with fail
  (with_reducible refine (KO.out _).mono ?_)
  rintro e w1 ⟨rfl, rfl⟩
  clear KO
  go_wp2_with fail
  exact bodyPost_ret (v := .tuple #[.string ⟨#[80, 82, 69, 86, 82, 65, 78, 68, 65, 79]⟩, .int .i64 0, .int .i64 1, .bool true]) (by simp [results, Tryd.results8, go_sem]) rfl ⟨rfl, Below.refl _ _⟩

set_option maxRecDepth 100000 in
set_option maxHeartbeats 6400000 in
theorem rrow_push (f : Int) (n : Nat) (w : World) (h : opZ f n = true) (h1 : 96 ≤ n) (h2 : n ≤ 127) : Calls Tryd.prog 8 #[.int .i64 f, .int .i64 (n : Nat)] w (RetV (rowV f n) w) := by
  obtain ⟨k, hk⟩ : ∃ k, k = n - 95 := ⟨_, rfl⟩
  obtain ⟨S, hS⟩ : ∃ S, S = sOf (decL k) := ⟨_, rfl⟩
  have hv : rowV f n = .tuple #[.string (⟨#[80, 85, 83, 72]⟩ ++ S), .int .i64 (0), .int .i64 (1), .bool true] := by
    rw [rowV, if_pos h, Int.toNat_natCast, rowN_push _ h1 h2, hS, hk]; rfl
  rw [hv]
  have KO : Hid (∀ v, Calls Tryd.prog 25 #[.int .i64 f, .int .i64 (n : Nat)] v (fun e w' => e = .returned (.bool true) ∧ w' = v)) := fun v => by have := rop_c f n v; rw [h] at this; exact this
  have KD : Hid (∀ v, Calls Tryd.prog 26 #[.int .i64 (k : Nat)] v (RetV (.string S) v)) := fun v => by rw [hS]; exact rdigits_c k (by omega) v
  have hz : ¬ 9223372036854775807 < (⟨#[80, 85, 83, 72]⟩ : ByteArray).size + S.size := by
    rw [hS, sOf_size]
    have := decF_len 9 k
    have e : (⟨#[80, 85, 83, 72]⟩ : ByteArray).size = 4 := rfl
    rw [e]
    unfold decL
    omega
  have g68 : ¬ (n : Int) = 68 := by omega
  have g96 : (96 : Int) ≤ (n : Int) := by omega
  have g127 : (n : Int) ≤ 127 := by omega
  have wk : IntKind.i64.wrap ((n : Int) - 95) = (k : Int) := by rw [IntWalk.i64_in _ (by omega)]; omega
  have HZ := Lib.hid hz
  clear h h1 h2 hv hS hz hk
  go_enter Tryd.func8, Tryd.ntmps8
  go_wp2_with fail
  (with_reducible refine (KO.out _).mono ?_)
  rintro e w1 ⟨rfl, rfl⟩
  clear KO
  go_wp2_with fail
  (with_reducible refine (KD.out _).mono ?_)
  rintro e w2 ⟨rfl, hb⟩
  have hz := HZ.out
  clear KD HZ
  go_wp2_with fail
  exact bodyPost_ret (v := .tuple #[.string (⟨#[80, 85, 83, 72]⟩ ++ S), .int .i64 (0), .int .i64 (1), .bool true]) (by simp [results, Tryd.results8, go_sem]) rfl ⟨rfl, hb⟩

set_option maxRecDepth 100000 in
set_option maxHeartbeats 6400000 in
theorem rrow_dup (f : Int) (n : Nat) (w : World) (h : opZ f n = true) (h1 : 128 ≤ n) (h2 : n ≤ 143) : Calls Tryd.prog 8 #[.int .i64 f, .int .i64 (n : Nat)] w (RetV (rowV f n) w) := by
  obtain ⟨k, hk⟩ : ∃ k, k = n - 127 := ⟨_, rfl⟩
  obtain ⟨S, hS⟩ : ∃ S, S = sOf (decL k) := ⟨_, rfl⟩
  have hv : rowV f n = .tuple #[.string (⟨#[68, 85, 80]⟩ ++ S), .int .i64 (k : Nat), .int .i64 (k + 1 : Nat), .bool true] := by
    rw [rowV, if_pos h, Int.toNat_natCast, rowN_dup _ h1 h2, hS, hk]
    rw [show n - 127 + 1 = n - 126 by omega]
  rw [hv]
  have KO : Hid (∀ v, Calls Tryd.prog 25 #[.int .i64 f, .int .i64 (n : Nat)] v (fun e w' => e = .returned (.bool true) ∧ w' = v)) := fun v => by have := rop_c f n v; rw [h] at this; exact this
  have KD : Hid (∀ v, Calls Tryd.prog 26 #[.int .i64 (k : Nat)] v (RetV (.string S) v)) := fun v => by rw [hS]; exact rdigits_c k (by omega) v
  have hz : ¬ 9223372036854775807 < (⟨#[68, 85, 80]⟩ : ByteArray).size + S.size := by
    rw [hS, sOf_size]
    have := decF_len 9 k
    have e : (⟨#[68, 85, 80]⟩ : ByteArray).size = 3 := rfl
    rw [e]
    unfold decL
    omega
  have g68 : ¬ (n : Int) = 68 := by omega
  have g96 : (96 : Int) ≤ (n : Int) := by omega
  have g127 : ¬ (n : Int) ≤ 127 := by omega
  have g128 : (128 : Int) ≤ (n : Int) := by omega
  have g143 : (n : Int) ≤ 143 := by omega
  have wk : IntKind.i64.wrap ((n : Int) - 127) = (k : Int) := by rw [IntWalk.i64_in _ (by omega)]; omega
  have wk2 : IntKind.i64.wrap ((n : Int) - 126) = ((k + 1 : Nat) : Int) := by rw [IntWalk.i64_in _ (by omega)]; omega
  have HZ := Lib.hid hz
  clear h h1 h2 hv hS hz hk
  go_enter Tryd.func8, Tryd.ntmps8
  go_wp2_with fail
  (with_reducible refine (KO.out _).mono ?_)
  rintro e w1 ⟨rfl, rfl⟩
  clear KO
  go_wp2_with fail
  (with_reducible refine (KD.out _).mono ?_)
  rintro e w2 ⟨rfl, hb⟩
  have hz := HZ.out
  clear KD HZ
  go_wp2_with fail
  exact bodyPost_ret (v := .tuple #[.string (⟨#[68, 85, 80]⟩ ++ S), .int .i64 (k : Nat), .int .i64 (k + 1 : Nat), .bool true]) (by simp [results, Tryd.results8, go_sem]) rfl ⟨rfl, hb⟩

set_option maxRecDepth 100000 in
set_option maxHeartbeats 6400000 in
theorem rrow_swap (f : Int) (n : Nat) (w : World) (h : opZ f n = true) (h1 : 144 ≤ n) (h2 : n ≤ 159) : Calls Tryd.prog 8 #[.int .i64 f, .int .i64 (n : Nat)] w (RetV (rowV f n) w) := by
  obtain ⟨k, hk⟩ : ∃ k, k = n - 143 := ⟨_, rfl⟩
  obtain ⟨S, hS⟩ : ∃ S, S = sOf (decL k) := ⟨_, rfl⟩
  have hv : rowV f n = .tuple #[.string (⟨#[83, 87, 65, 80]⟩ ++ S), .int .i64 (k + 1 : Nat), .int .i64 (k + 1 : Nat), .bool true] := by
    rw [rowV, if_pos h, Int.toNat_natCast, rowN_swap _ h1 h2, hS, hk]
    rw [show n - 143 + 1 = n - 142 by omega]
  rw [hv]
  have KO : Hid (∀ v, Calls Tryd.prog 25 #[.int .i64 f, .int .i64 (n : Nat)] v (fun e w' => e = .returned (.bool true) ∧ w' = v)) := fun v => by have := rop_c f n v; rw [h] at this; exact this
  have KD : Hid (∀ v, Calls Tryd.prog 26 #[.int .i64 (k : Nat)] v (RetV (.string S) v)) := fun v => by rw [hS]; exact rdigits_c k (by omega) v
  have hz : ¬ 9223372036854775807 < (⟨#[83, 87, 65, 80]⟩ : ByteArray).size + S.size := by
    rw [hS, sOf_size]
    have := decF_len 9 k
    have e : (⟨#[83, 87, 65, 80]⟩ : ByteArray).size = 4 := rfl
    rw [e]
    unfold decL
    omega
  have g68 : ¬ (n : Int) = 68 := by omega
  have g96 : (96 : Int) ≤ (n : Int) := by omega
  have g127 : ¬ (n : Int) ≤ 127 := by omega
  have g128 : (128 : Int) ≤ (n : Int) := by omega
  have g143 : ¬ (n : Int) ≤ 143 := by omega
  have g144 : (144 : Int) ≤ (n : Int) := by omega
  have g159 : (n : Int) ≤ 159 := by omega
  have wk : IntKind.i64.wrap ((n : Int) - 143) = (k : Int) := by rw [IntWalk.i64_in _ (by omega)]; omega
  have wk2 : IntKind.i64.wrap ((n : Int) - 142) = ((k + 1 : Nat) : Int) := by rw [IntWalk.i64_in _ (by omega)]; omega
  have HZ := Lib.hid hz
  clear h h1 h2 hv hS hz hk
  go_enter Tryd.func8, Tryd.ntmps8
  go_wp2_with fail
  (with_reducible refine (KO.out _).mono ?_)
  rintro e w1 ⟨rfl, rfl⟩
  clear KO
  go_wp2_with fail
  (with_reducible refine (KD.out _).mono ?_)
  rintro e w2 ⟨rfl, hb⟩
  have hz := HZ.out
  clear KD HZ
  go_wp2_with fail
  exact bodyPost_ret (v := .tuple #[.string (⟨#[83, 87, 65, 80]⟩ ++ S), .int .i64 (k + 1 : Nat), .int .i64 (k + 1 : Nat), .bool true]) (by simp [results, Tryd.results8, go_sem]) rfl ⟨rfl, hb⟩

set_option maxRecDepth 100000 in
set_option maxHeartbeats 6400000 in
theorem rrow_log (f : Int) (n : Nat) (w : World) (h : opZ f n = true) (h1 : 160 ≤ n) (h2 : n ≤ 164) : Calls Tryd.prog 8 #[.int .i64 f, .int .i64 (n : Nat)] w (RetV (rowV f n) w) := by
  obtain ⟨k, hk⟩ : ∃ k, k = n - 160 := ⟨_, rfl⟩
  obtain ⟨S, hS⟩ : ∃ S, S = sOf (decL k) := ⟨_, rfl⟩
  have hv : rowV f n = .tuple #[.string (⟨#[76, 79, 71]⟩ ++ S), .int .i64 (k + 2 : Nat), .int .i64 (0), .bool true] := by
    rw [rowV, if_pos h, Int.toNat_natCast, rowN_log _ h1 h2, hS, hk]; rfl
  rw [hv]
  have KO : Hid (∀ v, Calls Tryd.prog 25 #[.int .i64 f, .int .i64 (n : Nat)] v (fun e w' => e = .returned (.bool true) ∧ w' = v)) := fun v => by have := rop_c f n v; rw [h] at this; exact this
  have KD : Hid (∀ v, Calls Tryd.prog 26 #[.int .i64 (k : Nat)] v (RetV (.string S) v)) := fun v => by rw [hS]; exact rdigits_c k (by omega) v
  have hz : ¬ 9223372036854775807 < (⟨#[76, 79, 71]⟩ : ByteArray).size + S.size := by
    rw [hS, sOf_size]
    have := decF_len 9 k
    have e : (⟨#[76, 79, 71]⟩ : ByteArray).size = 3 := rfl
    rw [e]
    unfold decL
    omega
  have g68 : ¬ (n : Int) = 68 := by omega
  have g96 : (96 : Int) ≤ (n : Int) := by omega
  have g127 : ¬ (n : Int) ≤ 127 := by omega
  have g128 : (128 : Int) ≤ (n : Int) := by omega
  have g143 : ¬ (n : Int) ≤ 143 := by omega
  have g144 : (144 : Int) ≤ (n : Int) := by omega
  have g159 : ¬ (n : Int) ≤ 159 := by omega
  have g160 : (160 : Int) ≤ (n : Int) := by omega
  have g164 : (n : Int) ≤ 164 := by omega
  have wk : IntKind.i64.wrap ((n : Int) - 160) = (k : Int) := by rw [IntWalk.i64_in _ (by omega)]; omega
  have wk2 : IntKind.i64.wrap ((k : Int) + 2) = ((k + 2 : Nat) : Int) := by rw [IntWalk.i64_in _ (by omega)]; omega
  have HZ := Lib.hid hz
  clear h h1 h2 hv hS hz hk
  go_enter Tryd.func8, Tryd.ntmps8
  go_wp2_with fail
  (with_reducible refine (KO.out _).mono ?_)
  rintro e w1 ⟨rfl, rfl⟩
  clear KO
  go_wp2_with fail
  (with_reducible refine (KD.out _).mono ?_)
  rintro e w2 ⟨rfl, hb⟩
  have hz := HZ.out
  clear KD HZ
  go_wp2_with fail
  exact bodyPost_ret (v := .tuple #[.string (⟨#[76, 79, 71]⟩ ++ S), .int .i64 (k + 2 : Nat), .int .i64 (0), .bool true]) (by simp [results, Tryd.results8, go_sem]) rfl ⟨rfl, hb⟩

set_option maxRecDepth 100000 in
set_option maxHeartbeats 6400000 in
theorem rrow_low (f : Int) (n : Nat) (w : World) (h : opZ f n = true) (h1 : n ≤ 95) (h2 : n ≠ 68) {idx : Nat} {r : Nat × ByteArray × Nat × Nat} (hi : rowsT[idx]? = some r) (hr : r.1 = n) (hno : ∀ j q, j < idx → rowsT[j]? = some q → q.1 ≠ n)
    (hv : rowV f n = .tuple #[.string r.2.1, .int .i64 (r.2.2.1 : Nat), .int .i64 (r.2.2.2 : Nat), .bool true]) : Calls Tryd.prog 8 #[.int .i64 f, .int .i64 (n : Nat)] w (RetV (rowV f n) w) := by
  rw [hv]
  have KO : Hid (∀ v, Calls Tryd.prog 25 #[.int .i64 f, .int .i64 (n : Nat)] v (fun e w' => e = .returned (.bool true) ∧ w' = v)) := fun v => by have := rop_c f n v; rw [h] at this; exact this
  have KR : Hid (∀ v, Calls Tryd.prog 27 #[] v fun e w' => ∃ g, e = .returned (.slice (some ⟨g, 0, none⟩) 79 79) ∧ v.heap.size ≤ g ∧ g < w'.heap.size ∧ RowsAt w' g rowsT ∧ Below v.heap.size v w') := fun v => rrows_c v
  have hlt : idx < 79 := (List.getElem?_eq_some_iff.1 hi).1
  have HI := Lib.hid hi
  have HR := Lib.hid hr
  have HNO := Lib.hid hno
  have g68 : ¬ (n : Int) = 68 := by omega
  have g96 : ¬ (96 : Int) ≤ (n : Int) := by omega
  have g128 : ¬ (128 : Int) ≤ (n : Int) := by omega
  have g144 : ¬ (144 : Int) ≤ (n : Int) := by omega
  have g160 : ¬ (160 : Int) ≤ (n : Int) := by omega
  clear h1 h2
  clear h hv hi hr hno
  go_enter Tryd.func8, Tryd.ntmps8
  go_wp2_with fail
  (with_reducible refine (KO.out _).mono ?_)
  rintro e w1 ⟨rfl, rfl⟩
  clear KO
  go_wp2_with fail
  (with_reducible refine (KR.out _).mono ?_)
  rintro e w2 ⟨g, rfl, _, _, hrw, hb⟩
  have HRW := Lib.hid hrw
  have HB := Lib.hid hb
  clear KR hrw hb
  go_wp2_with fail
  go_loopw [9] (fun i wr => ∃ m : Nat, i = .int .i64 (m : Nat) ∧ m ≤ idx ∧ Hid (wr = w2)) (fun i _ => 79 - (intOf i).toNat)
  case atStart => exact ⟨0, rfl, Nat.zero_le _, by first | exact Lib.hid rfl | exact Lib.hid trivial⟩
  case round =>
    obtain ⟨m, rfl, hm, hw⟩ := hrel
    have hw := hw.out
    subst hw
    obtain ⟨q, hq⟩ : ∃ q, rowsT[m]? = some q := ⟨_, List.getElem?_eq_getElem (by show m < 79; omega)⟩
    obtain ⟨c0, c1, c2, c3⟩ := HRW.out m q hq
    have hm79 : (m : Int) < 79 := by omega
    by_cases he : m = idx
    · subst he
      have hqr : q = r := by have := HI.out; rw [hq] at this; injection this
      subst hqr
      rw [HR.out] at c0
      clear hq HI HR HNO hm
      go_wp2_with fail
      go_quiet (fail)
      go_simp
      go_wp2_with fail
      exact bodyPost_ret (v := .tuple #[.string q.2.1, .int .i64 (q.2.2.1 : Nat), .int .i64 (q.2.2.2 : Nat), .bool true]) (by simp [results, Tryd.results8, go_sem]) rfl ⟨rfl, HB.out.trans (below_cdN _ _ _)⟩
    · have hne : ¬ (q.1 : Int) = (n : Int) := by have := HNO.out m q (by omega) hq; omega
      have hm2 : m + 1 ≤ idx := by omega
      clear c1 c2 c3 he hq
      go_wp2_with fail
      go_roundw
      case rel => exact ⟨m + 1, by go_num, hm2, by first | exact Lib.hid rfl | exact Lib.hid trivial⟩
      case measure => simp [intOf]; omega

set_option maxRecDepth 100000 in
set_option maxHeartbeats 6400000 in
theorem rrow_old (f : Int) (n : Nat) (w : World) (h : opZ f n = true) (h1 : n = 68) (h2 : ¬ 13 ≤ f) {idx : Nat} {r : Nat × ByteArray × Nat × Nat} (hi : rowsT[idx]? = some r) (hr : r.1 = n) (hno : ∀ j q, j < idx → rowsT[j]? = some q → q.1 ≠ n)
    (hv : rowV f n = .tuple #[.string r.2.1, .int .i64 (r.2.2.1 : Nat), .int .i64 (r.2.2.2 : Nat), .bool true]) : Calls Tryd.prog 8 #[.int .i64 f, .int .i64 (n : Nat)] w (RetV (rowV f n) w) := by
  rw [hv]
  have KO : Hid (∀ v, Calls Tryd.prog 25 #[.int .i64 f, .int .i64 (n : Nat)] v (fun e w' => e = .returned (.bool true) ∧ w' = v)) := fun v => by have := rop_c f n v; rw [h] at this; exact this
  have KR : Hid (∀ v, Calls Tryd.prog 27 #[] v fun e w' => ∃ g, e = .returned (.slice (some ⟨g, 0, none⟩) 79 79) ∧ v.heap.size ≤ g ∧ g < w'.heap.size ∧ RowsAt w' g rowsT ∧ Below v.heap.size v w') := fun v => rrows_c v
  have hlt : idx < 79 := (List.getElem?_eq_some_iff.1 hi).1
  have HI := Lib.hid hi
  have HR := Lib.hid hr
  have HNO := Lib.hid hno
  have g68 : (n : Int) = 68 := by omega
  have g96 : ¬ (96 : Int) ≤ (n : Int) := by omega
  have g128 : ¬ (128 : Int) ≤ (n : Int) := by omega
  have g144 : ¬ (144 : Int) ≤ (n : Int) := by omega
  have g160 : ¬ (160 : Int) ≤ (n : Int) := by omega
  have g13 : ¬ 13 ≤ f := h2
  clear h1 h2
  have KO : Hid (∀ v, Calls Tryd.prog 25 #[.int .i64 f, .int .i64 68] v (fun e w' => e = .returned (.bool true) ∧ w' = v)) := fun v => by have := KO.out v; rw [g68] at this; exact this
  clear h hv hi hr hno
  go_enter Tryd.func8, Tryd.ntmps8
  go_wp2_with fail
  (with_reducible refine (KO.out _).mono ?_)
  rintro e w1 ⟨rfl, rfl⟩
  clear KO
  go_wp2_with fail
  (with_reducible refine (KR.out _).mono ?_)
  rintro e w2 ⟨g, rfl, _, _, hrw, hb⟩
  have HRW := Lib.hid hrw
  have HB := Lib.hid hb
  clear KR hrw hb
  go_wp2_with fail
  go_loopw [9] (fun i wr => ∃ m : Nat, i = .int .i64 (m : Nat) ∧ m ≤ idx ∧ Hid (wr = w2)) (fun i _ => 79 - (intOf i).toNat)
  case atStart => exact ⟨0, rfl, Nat.zero_le _, by first | exact Lib.hid rfl | exact Lib.hid trivial⟩
  case round =>
    obtain ⟨m, rfl, hm, hw⟩ := hrel
    have hw := hw.out
    subst hw
    obtain ⟨q, hq⟩ : ∃ q, rowsT[m]? = some q := ⟨_, List.getElem?_eq_getElem (by show m < 79; omega)⟩
    obtain ⟨c0, c1, c2, c3⟩ := HRW.out m q hq
    have hm79 : (m : Int) < 79 := by omega
    by_cases he : m = idx
    · subst he
      have hqr : q = r := by have := HI.out; rw [hq] at this; injection this
      subst hqr
      rw [HR.out] at c0
      rw [g68] at c0
      clear hq HI HR HNO hm
      go_wp2_with fail
      go_quiet (fail)
      go_simp
      go_wp2_with fail
      exact bodyPost_ret (v := .tuple #[.string q.2.1, .int .i64 (q.2.2.1 : Nat), .int .i64 (q.2.2.2 : Nat), .bool true]) (by simp [results, Tryd.results8, go_sem]) rfl ⟨rfl, HB.out.trans (below_cdN _ _ _)⟩
    · have hne : ¬ (q.1 : Int) = (n : Int) := by have := HNO.out m q (by omega) hq; omega
      rw [g68] at hne
      have hm2 : m + 1 ≤ idx := by omega
      clear c1 c2 c3 he hq
      go_wp2_with fail
      go_roundw
      case rel => exact ⟨m + 1, by go_num, hm2, by first | exact Lib.hid rfl | exact Lib.hid trivial⟩
      case measure => simp [intOf]; omega

set_option maxRecDepth 100000 in
set_option maxHeartbeats 6400000 in
theorem rrow_high (f : Int) (n : Nat) (w : World) (h : opZ f n = true) (h1 : 165 ≤ n) {idx : Nat} {r : Nat × ByteArray × Nat × Nat} (hi : rowsT[idx]? = some r) (hr : r.1 = n) (hno : ∀ j q, j < idx → rowsT[j]? = some q → q.1 ≠ n)
    (hv : rowV f n = .tuple #[.string r.2.1, .int .i64 (r.2.2.1 : Nat), .int .i64 (r.2.2.2 : Nat), .bool true]) : Calls Tryd.prog 8 #[.int .i64 f, .int .i64 (n : Nat)] w (RetV (rowV f n) w) := by
  rw [hv]
  have KO : Hid (∀ v, Calls Tryd.prog 25 #[.int .i64 f, .int .i64 (n : Nat)] v (fun e w' => e = .returned (.bool true) ∧ w' = v)) := fun v => by have := rop_c f n v; rw [h] at this; exact this
  have KR : Hid (∀ v, Calls Tryd.prog 27 #[] v fun e w' => ∃ g, e = .returned (.slice (some ⟨g, 0, none⟩) 79 79) ∧ v.heap.size ≤ g ∧ g < w'.heap.size ∧ RowsAt w' g rowsT ∧ Below v.heap.size v w') := fun v => rrows_c v
  have hlt : idx < 79 := (List.getElem?_eq_some_iff.1 hi).1
  have HI := Lib.hid hi
  have HR := Lib.hid hr
  have HNO := Lib.hid hno
  have g68 : ¬ (n : Int) = 68 := by omega
  have g96 : (96 : Int) ≤ (n : Int) := by omega
  have g127 : ¬ (n : Int) ≤ 127 := by omega
  have g128 : (128 : Int) ≤ (n : Int) := by omega
  have g143 : ¬ (n : Int) ≤ 143 := by omega
  have g144 : (144 : Int) ≤ (n : Int) := by omega
  have g159 : ¬ (n : Int) ≤ 159 := by omega
  have g160 : (160 : Int) ≤ (n : Int) := by omega
  have g164 : ¬ (n : Int) ≤ 164 := by omega
  clear h1
  clear h hv hi hr hno
  go_enter Tryd.func8, Tryd.ntmps8
  go_wp2_with fail
  (with_reducible refine (KO.out _).mono ?_)
  rintro e w1 ⟨rfl, rfl⟩
  clear KO
  go_wp2_with fail
  (with_reducible refine (KR.out _).mono ?_)
  rintro e w2 ⟨g, rfl, _, _, hrw, hb⟩
  have HRW := Lib.hid hrw
  have HB := Lib.hid hb
  clear KR hrw hb
  go_wp2_with fail
  go_loopw [9] (fun i wr => ∃ m : Nat, i = .int .i64 (m : Nat) ∧ m ≤ idx ∧ Hid (wr = w2)) (fun i _ => 79 - (intOf i).toNat)
  case atStart => exact ⟨0, rfl, Nat.zero_le _, by first | exact Lib.hid rfl | exact Lib.hid trivial⟩
  case round =>
    obtain ⟨m, rfl, hm, hw⟩ := hrel
    have hw := hw.out
    subst hw
    obtain ⟨q, hq⟩ : ∃ q, rowsT[m]? = some q := ⟨_, List.getElem?_eq_getElem (by show m < 79; omega)⟩
    obtain ⟨c0, c1, c2, c3⟩ := HRW.out m q hq
    have hm79 : (m : Int) < 79 := by omega
    by_cases he : m = idx
    · subst he
      have hqr : q = r := by have := HI.out; rw [hq] at this; injection this
      subst hqr
      rw [HR.out] at c0
      clear hq HI HR HNO hm
      go_wp2_with fail
      go_quiet (fail)
      go_simp
      go_wp2_with fail
      exact bodyPost_ret (v := .tuple #[.string q.2.1, .int .i64 (q.2.2.1 : Nat), .int .i64 (q.2.2.2 : Nat), .bool true]) (by simp [results, Tryd.results8, go_sem]) rfl ⟨rfl, HB.out.trans (below_cdN _ _ _)⟩
    · have hne : ¬ (q.1 : Int) = (n : Int) := by have := HNO.out m q (by omega) hq; omega
      have hm2 : m + 1 ≤ idx := by omega
      clear c1 c2 c3 he hq
      go_wp2_with fail
      go_roundw
      case rel => exact ⟨m + 1, by go_num, hm2, by first | exact Lib.hid rfl | exact Lib.hid trivial⟩
      case measure => simp [intOf]; omega

theorem rrow_c (f op : Int) (w : World) : Calls Tryd.prog 8 #[.int .i64 f, .int .i64 op] w (RetV (rowV f op) w) := by
  by_cases h : opZ f op = true
  · have h0 : opFirst op ≠ 99 := fun e => by
      unfold opZ at h
      have := of_decide_eq_true h
      omega
    have hop : 0 ≤ op ∧ op < 256 := by
      constructor
      · refine Int.not_lt.1 fun hlt => h0 (opFirst_lo hlt)
      · refine Int.not_le.1 fun hge => h0 (opFirst_256 hge)
    obtain ⟨n, rfl⟩ : ∃ n : Nat, op = n := ⟨op.toNat, by omega⟩
    by_cases ha : n ≤ 95 ∨ 165 ≤ n
    · by_cases h68 : n = 68 ∧ 13 ≤ f
      · obtain ⟨rfl, h13⟩ := h68
        exact rrow_68 f w h h13
      · obtain ⟨idx, _, r, hi, hr, ht, hno⟩ := rowsT_idx n (by omega) h0 ha
        have hv : rowV f n = .tuple #[.string r.2.1, .int .i64 (r.2.2.1 : Nat), .int .i64 (r.2.2.2 : Nat), .bool true] := by
          rw [rowV, if_pos h, Int.toNat_natCast, rowN_tab ha (fun x => h68 ⟨x.1, of_decide_eq_true x.2⟩), ht]
        by_cases h1 : n = 68
        · exact rrow_old f n w h h1 (fun x => h68 ⟨h1, x⟩) hi hr hno hv
        · rcases ha with ha | ha
          · exact rrow_low f n w h ha h1 hi hr hno hv
          · exact rrow_high f n w h ha hi hr hno hv
    · by_cases h1 : n ≤ 127
      · exact rrow_push f n w h (by omega) h1
      · by_cases h2 : n ≤ 143
        · exact rrow_dup f n w h (by omega) h2
        · by_cases h3 : n ≤ 159
          · exact rrow_swap f n w h (by omega) h3
          · exact rrow_log f n w h (by omega) (by omega)
  · exact rrow_none f op w (by simpa using h)
end Go.Proofs.YtopeahjdglkheaaDoor
